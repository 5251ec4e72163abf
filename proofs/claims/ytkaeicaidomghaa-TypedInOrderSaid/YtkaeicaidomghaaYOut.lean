/-
  typed: how many keys are awaited no more; whether a rune is the first one; the runes that are awaited.
-/
import Derived.Test.YtkaeicaidomghaaYAll
namespace Go.Proofs.Ytkaeicaidomghaa.Tpd
open Go Go.RowKit Go.Shelf Go.Proofs.Ytkaeicaidomghaa.Com
attribute [local go_sem] Oper.semAt_some

/-! What is gone, plainly. -/
theorem gone_all {life now : Int} {ks : List Key} (h : ∀ k ∈ ks, waits life now k = false) : goneN life now ks = ks.length := by
  unfold goneN
  induction ks with
  | nil => rfl
  | cons k ks ih =>
    rw [List.takeWhile_cons_of_pos (by simp [h k (by simp)]), List.length_cons, List.length_cons, ih (fun k hk => h k (by simp [hk]))]
theorem gone_stop {life now : Int} {ks ini : List Key} {x : Key} (hp : ini ++ [x] <+: ks) (h : ∀ k ∈ ini, waits life now k = false) (hx : waits life now x = true) : goneN life now ks = ini.length := by
  obtain ⟨t, rfl⟩ := hp
  unfold goneN
  rw [List.append_assoc, List.takeWhile_append_of_pos (fun k hk => by simp [h k hk])]
  simp [hx]
theorem first_stop {ks : List Key} {x : Key} (hp : [x] <+: ks) (r : Int) : isFirstB ks r = (x.1 == r) := by
  obtain ⟨t, rfl⟩ := hp
  rfl

/-! A box: a block of one cell. -/
theorem box_own {D : Nat} {b : Nat} {t : TypeId} {cs : Array Value} : OwnFrom D (fun (_ : Unit) W => Block W b t cs) := fun _ _ _ _ h hg hr =>
  (grownBy_keeps_cells hg (fun r e => (hr r e).2) h rfl).trans h
theorem own_pure {D : Nat} {p : Prop} : OwnFrom D (fun (_ : Unit) (_ : World) => p) := fun _ _ _ _ h _ _ => h
theorem own_both {D : Nat} {I J : World → Prop} (h : OwnFrom D (fun (_ : Unit) W => I W)) (g : OwnFrom D (fun (_ : Unit) W => J W)) : OwnFrom D (fun (_ : Unit) W => I W ∧ J W) := OwnFrom.and h g
theorem own_some {D : Nat} {α : Type} {I : α → World → Prop} (h : ∀ x, OwnFrom D (fun (_ : Unit) W => I x W)) : OwnFrom D (fun (_ : Unit) W => ∃ x, I x W) := fun s A B row hi hg hr => by
  obtain ⟨x, hx⟩ := hi
  exact ⟨x, h x s A B row hx hg hr⟩
theorem own_below {D : Nat} {w : World} (hw : w.heap.size ≤ D) : OwnFrom D (fun (_ : Unit) W => Below w.heap.size w W) := fun _ _ _ _ h hg hr =>
  h.grown hg h.size (fun k e => by have := (hr k e).1; omega)

theorem keeps_below {W W' : World} (h : Below W.heap.size W W') (B : Nat) : KeepsFrom B W W' := ⟨h.size, fun k _ _ hk _ => (h.block k (Array.getElem?_eq_some_iff.1 hk).1).trans hk⟩
/-- A key's box. -/
def KB (W : World) (b : Nat) (x : Key) : Prop := Block W b 23 #[.int .i32 x.1, .int .i64 x.2]
/-- What outlived knows between two rounds. -/
def OutI (w : World) (d : Nat) (life last : Int) (pre : List Key) (W : World) : Prop :=
  (∀ k ∈ pre, waits life last k = false) ∧ Block W w.heap.size 29 #[.pointer (some ⟨d, 0, none⟩)] ∧ Block W (w.heap.size + 1) 3 #[.int .i64 (pre.length : Nat)] ∧ Below w.heap.size w W
def OutX (w : World) (life last : Int) (c : Code) (pre : List Key) (W : World) : Prop :=
  c = .exit 0 ∧ ∃ ini x, pre = ini ++ [x] ∧ (∀ k ∈ ini, waits life last k = false) ∧ waits life last x = true ∧ Block W (w.heap.size + 1) 3 #[.int .i64 (ini.length : Nat)] ∧ Below w.heap.size w W
def outT (w : World) (d : Nat) (v : Value) (x : Key) : Array Value := #[.pointer (some ⟨d, 0, none⟩), .pointer (some ⟨w.heap.size, 0, none⟩), .int .i64 0, .pointer (some ⟨w.heap.size + 1, 0, none⟩), v, .pointer (some ⟨d, 0, none⟩), .pointer (some ⟨d, 0, none⟩), .pointer (some ⟨d, 2, none⟩),
  .func (.func 19) #[.pointer (some ⟨d, 2, none⟩)] #[], .agg #[.int .i32 x.1, .int .i64 x.2], undef, undef, undef, undef, undef, undef, undef, undef, undef, undef]

set_option maxRecDepth 100000 in
set_option maxHeartbeats 4000000 in
theorem outlived_any {w : World} {d : Nat} {life last : Int} {ks : List Key} (h : TL w d life last ks) (h1 : 1 ≤ life) (h2 : life ≤ 1000) (ht : Tick ks) :
    Calls Try.prog 17 #[.pointer (some ⟨d, 0, none⟩)] w fun e w' => e = .returned (.int .i64 ((goneN life last ks : Nat) : Int)) ∧ Below w.heap.size w w' := by
  have hlt := h.lt
  have hB0 : Below w.heap.size w ((w.alloc (.cells #[.pointer (some ⟨d, 0, none⟩)] 29)).alloc (.cells #[.int .i64 0] 3)) := ((Below.refl _ w).alloc (Nat.le_refl _) _).alloc (by simp) _
  have b0 := (Block.made w 29 #[.pointer (some ⟨d, 0, none⟩)]).alloc (.cells #[.int .i64 0] 3)
  have b1 := Block.made (w.alloc (.cells #[.pointer (some ⟨d, 0, none⟩)] 29)) 3 #[.int .i64 0]
  rw [World.size_alloc] at b1
  have hs0 : ((w.alloc (.cells #[.pointer (some ⟨d, 0, none⟩)] 29)).alloc (.cells #[.int .i64 0] 3)).heap.size = w.heap.size + 2 := by simp
  refine (callsIn_wide (n := 5)).1 ?_
  refine callsIn_of_wp_marks Try.func17 rfl trivial ?_ rfl
  simp only [Try.ntmps17, List.size_toArray, List.length_cons, List.length_nil, Nat.reduceAdd, Nat.reduceSub, Array.replicate_succ, Array.replicate_zero, List.push_toArray, List.append_toArray, List.nil_append, List.cons_append]
  gi_wp2
  generalize (w.alloc (.cells #[.pointer (some ⟨d, 0, none⟩)] 29)).alloc (.cells #[.int .i64 0] 3) = w0 at hB0 b0 b1 hs0 ⊢
  have hle : w.heap.size ≤ w0.heap.size := by omega
  have hT0 := h.below hB0
  refine range_meth (gf := 19) (rv := #[.pointer (some ⟨d, 2, none⟩)]) rfl (enters_of Try.func19 (by kernel_rfl) rfl) (all_hands (n0 := w.heap.size) hT0 hlt) (fun _ => rfl) belowK_t (belowK_b hle)
    (OutI w d life last) (OutX w life last) ?own ?ownx ?start (fun pre x a1 W => OutI w d life last pre W ∧ ∃ B, KB W B x ∧ a1 = { tmps := outT w d (.pointer (some ⟨B, 0, none⟩)) x, defers := [] }) ?owna ?assign ?body ?done ?stop
  case own => exact fun pre => own_both own_pure (own_both box_own (own_both box_own (own_below hle)))
  case ownx => exact fun c pre => own_both own_pure (own_some fun ini => own_some fun x => own_both own_pure (own_both own_pure (own_both own_pure (own_both box_own (own_below hle)))))
  case owna => exact fun pre x a1 => own_both (own_both own_pure (own_both box_own (own_both box_own (own_below hle)))) (own_some fun B => own_both box_own own_pure)
  case start => exact ⟨by simp, b0, b1, hB0⟩
  case assign =>
    rintro l pre x W ⟨i1, i2, i3, i4⟩
    have hk := Block.made W 23 #[.int .i32 x.1, .int .i64 x.2]
    have hn := below_new W (.cells #[.int .i32 x.1, .int .i64 x.2] 23)
    have hpost : ((OutI w d life last pre (W.alloc (.cells #[.int .i32 x.1, .int .i64 x.2] 23)) ∧ ∃ B, KB (W.alloc (.cells #[.int .i32 x.1, .int .i64 x.2] 23)) B x ∧ ({ tmps := outT w d (.pointer (some ⟨W.heap.size, 0, none⟩)) x, defers := [] } : Go.Act) = { tmps := outT w d (.pointer (some ⟨B, 0, none⟩)) x, defers := [] }) ∧
        KeepsFrom w0.heap.size W (W.alloc (.cells #[.int .i32 x.1, .int .i64 x.2] 23)) ∧ Below w.heap.size W (W.alloc (.cells #[.int .i32 x.1, .int .i64 x.2] 23))) :=
      ⟨⟨⟨i1, i2.alloc _, i3.alloc _, i4.alloc i4.size _⟩, _, hk, rfl⟩, (KeepsOthers.alloc _ _).from _, hn.mono i4.size⟩
    simp only [encK]
    unfold outT at hpost ⊢
    gi_wp2
    exact hpost
  case body =>
    rintro l pre x a1 W ⟨⟨i1, i2, i3, i4⟩, B, hk, rfl⟩ hok
    have hx : x ∈ ks := hok.subset (by simp)
    have hW := hT0.below ((Below.refl _ _) : Below w0.heap.size w0 w0)
    have hTW := h.below i4
    have c0 := i2.cell 0 (v := .pointer (some ⟨d, 0, none⟩)) rfl
    have c1 := i3.cell 0 (v := .int .i64 (pre.length : Nat)) rfl
    have z1 := i3.free 0
    have c2 := Block.cell hk 0 (v := .int .i32 x.1) rfl
    have c3 := Block.cell hk 1 (v := .int .i64 x.2) rfl
    have c4 := hTW.clast
    have hlw := i4.size
    have hA := Lib.hid (isAwaited_any (w := W.drew) hTW.clife h1 h2 x (ht x hx) last)
    have hmo : Try.prog.follows .mixedOrders = true := by kernel_rfl
    have hlen : pre.length < 64 := by
      have h3 := hok.length_le
      have h4 := hTW.len
      rw [List.length_append, List.length_singleton] at h3
      omega
    have hl1 : (((pre ++ [x]).length : Nat) : Int) = ((pre.length : Nat) : Int) + 1 := by
      rw [List.length_append, List.length_singleton]
      omega
    have hfr : ∀ W1, Below W.drew.heap.size W.drew W1 → Below W.heap.size W W1 := fun W1 hB1 => (below_drewN (Below.refl W.heap.size W) 1).trans hB1
    have hgo : ∀ W1, Below W.drew.heap.size W.drew W1 → Hid (W1.cell? ⟨w.heap.size + 1, 0, none⟩ = some (.int .i64 (pre.length : Nat)) ∧ W1.frozen? ⟨w.heap.size + 1, 0, none⟩ = false ∧
        (waits life last x = false → KeepsFrom w0.heap.size W (W1.setCell ⟨w.heap.size + 1, 0, none⟩ (.int .i64 (((pre.length : Nat) : Int) + 1))) ∧ Below w.heap.size W (W1.setCell ⟨w.heap.size + 1, 0, none⟩ (.int .i64 (((pre.length : Nat) : Int) + 1))) ∧
          OutI w d life last (pre ++ [x]) (W1.setCell ⟨w.heap.size + 1, 0, none⟩ (.int .i64 (((pre.length : Nat) : Int) + 1)))) ∧
        (waits life last x = true → KeepsFrom w0.heap.size W W1 ∧ OutX w life last (.exit 0) (pre ++ [x]) W1)) := fun W1 hB1 => by
      have hB := hfr W1 hB1
      have j2 := i2.only (Only.of_below hB []) (by simp)
      have j3 := i3.only (Only.of_below hB []) (by simp)
      have hk1 : KeepsFrom w0.heap.size W W1 := keeps_below hB _
      have hb2 : Below w.heap.size W W1 := hB.mono hlw
      refine Lib.hid ⟨j3.cell 0 rfl, j3.free 0, fun hw => ⟨hk1.trans ((KeepsOthers.setCell _ _ _).from _), hb2.setCell (p := ⟨w.heap.size + 1, 0, none⟩) (by simp) _, ?_, ?_, by rw [hl1]; exact j3.set 0 _, (i4.trans hb2).setCell (p := ⟨w.heap.size + 1, 0, none⟩) (by simp) _⟩, fun hw => ⟨hk1, rfl, pre, x, rfl, i1, hw, j3, i4.trans hb2⟩⟩
      · intro k hk
        rcases List.mem_append.1 hk with hk | hk
        · exact i1 k hk
        · simp at hk
          rw [hk]
          exact hw
      · exact j2.only (Only.setCell W1 ⟨w.heap.size + 1, 0, none⟩ _) (by simp)
    replace hgo := Lib.hid hgo
    obtain ⟨b, hb⟩ : ∃ b, b = waits life last x := ⟨_, rfl⟩
    rw [← hb] at hA hgo
    clear hb hfr i1 i2 i3 hk hl1
    unfold outT
    gi_wp2
    gi_region_with_o (refine ⟨trivial, ?_⟩; refine (CallsIn.inRound l (callsIn_wide.2 hA.out)).mono ?_; rintro e W1 ⟨rfl, hB1⟩)
    all_goals
      have hg := hgo.out W1 hB1
      have d1 := hg.out.1
      have d2 := hg.out.2.1
      clear hgo hA hB1 c0 c1 c2 c3 c4 z1
      cases b with
      | true =>
        have hp := Lib.hid (hg.out.2.2.2 rfl)
        clear hg d1 d2
        gi_wp2
        exact hp.out
      | false =>
        have hp := Lib.hid (hg.out.2.2.1 rfl)
        clear hg
        gi_wp2
        exact hp.out
  case done =>
    rintro xs W rfl ⟨i1, i2, i3, i4⟩ hK
    have c1 := i3.cell 0 (v := .int .i64 (xs.length : Nat)) rfl
    have hg := Lib.hid (gone_all i1)
    have hb := Lib.hid (i4.trans (belowK_b (w := w) (Nat.le_refl _) W w0.heap.size _ (.deferred none) hle hK rfl rfl))
    clear i1 i2 i3
    gi_wp2
    refine ⟨by simp, .inl ⟨_, _, rfl, run_takeDeferred hK, ?_⟩⟩
    exact ⟨_, results_tmp rfl _ _ _, (by rw [hg.out]; rfl), hb.out⟩
  case stop =>
    rintro c pre W hpre ⟨rfl, ini, x, rfl, i1, i2, i3, i4⟩ hK
    have c1 := i3.cell 0 (v := .int .i64 (ini.length : Nat)) rfl
    have hg := Lib.hid (gone_stop hpre i1 i2)
    have hb := Lib.hid (i4.trans (belowK_b (w := w) (Nat.le_refl _) W w0.heap.size _ (.deferred none) hle hK rfl rfl))
    clear i1 i2 i3
    gi_wp2
    refine ⟨by simp, .inl ⟨_, _, rfl, run_takeDeferred hK, ?_⟩⟩
    exact ⟨_, results_tmp rfl _ _ _, (by rw [hg.out]; rfl), hb.out⟩
end Go.Proofs.Ytkaeicaidomghaa.Tpd
