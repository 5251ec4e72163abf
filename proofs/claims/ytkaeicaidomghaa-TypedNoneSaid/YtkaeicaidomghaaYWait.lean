/-
  typed: the runes that are awaited.
-/
import Derived.Test.YtkaeicaidomghaaYFst
import Derived.Maps.AppendAt
import Derived.RangeFuncBox
namespace Go.Proofs.Ytkaeicaidomghaa.Tpd
open Go Go.RowKit Go.Shelf Go.Proofs.Ytkaeicaidomghaa.Com
attribute [local go_sem] Oper.semAt_some

theorem infoR : (Try.prog.info? 21).map (fun i => (i.zero, i.size, i.bytes)) = some (some (.int .i32 0), 1, 4) := by kernel_rfl
theorem waitL_hit {life now : Int} (pre : List Key) {x : Key} (h : waits life now x = true) : waitL life now (pre ++ [x]) = waitL life now pre ++ [x.1] := by simp [waitL, h]
theorem waitL_miss {life now : Int} (pre : List Key) {x : Key} (h : waits life now x = false) : waitL life now (pre ++ [x]) = waitL life now pre := by simp [waitL, h]
theorem waitL_len (life now : Int) (pre : List Key) : (waitL life now pre).length ≤ pre.length := by
  unfold waitL
  rw [List.length_map]
  exact List.length_filter_le _ _

/-- The runes so far, in the box of the call's own. -/
def Held (w : World) (l : List Int) (W : World) : Prop := ∃ v, Boxed W (w.heap.size + 2) 33 v ∧ W.ownsRow w.heap.size 21 1 v l.length (l.map (Value.int .i32)) ∧ True
def WtI (w : World) (d : Nat) (life now : Int) (pre : List Key) (W : World) : Prop :=
  Held w (waitL life now pre) W ∧ Block W w.heap.size 29 #[.pointer (some ⟨d, 0, none⟩)] ∧ Block W (w.heap.size + 1) 3 #[.int .i64 now] ∧ Below w.heap.size w W
theorem held_own {D : Nat} {w : World} {l : List Int} : OwnFrom D (fun (_ : Unit) W => Held w l W) :=
  Own.from (holdsRow_own (β := Unit) w.heap.size (w.heap.size + 2) 33 21 1 (fun _ => l.length) (fun _ => l.map (Value.int .i32)) (fun _ _ => True)) D
def wtT (w : World) (d : Nat) (now last nw : Int) (v : Value) (x : Key) : Array Value := #[.pointer (some ⟨d, 0, none⟩), .int .i64 now, .pointer (some ⟨w.heap.size, 0, none⟩), .pointer (some ⟨w.heap.size + 1, 0, none⟩), .slice none 0 0, .pointer (some ⟨w.heap.size + 2, 0, none⟩), v,
  .pointer (some ⟨d, 0, none⟩), .bool true, .bool false, .int .i64 now, .pointer (some ⟨d, 0, none⟩), .pointer (some ⟨d, 0, none⟩), .pointer (some ⟨d, 1, none⟩), .int .i64 last, .int .i64 nw, .pointer (some ⟨d, 0, none⟩), .pointer (some ⟨d, 0, none⟩), .pointer (some ⟨d, 2, none⟩),
  .func (.func 19) #[.pointer (some ⟨d, 2, none⟩)] #[], .agg #[.int .i32 x.1, .int .i64 x.2], undef, undef, undef, undef, undef, undef, undef, undef, undef, undef]

set_option maxRecDepth 100000 in
set_option maxHeartbeats 8000000 in
theorem waits_any {w : World} {d : Nat} {life last : Int} {ks : List Key} (h : TL w d life last ks) (h1 : 1 ≤ life) (h2 : life ≤ 1000) (ht : Tick ks) (now nw : Int) (hnw : nw = max now last) :
    Calls Try.prog 8 #[.pointer (some ⟨d, 0, none⟩), .int .i64 now] w fun e w' => ∃ v, e = .returned v ∧ Com.Own w' w.heap.size 21 .i32 v (waitL life nw ks) ∧ Below w.heap.size w w' := by
  have hlt := h.lt
  obtain ⟨i0, hi, hz0, hz1, hz2⟩ := info_parts infoR
  have hB0 : Below w.heap.size w ((w.alloc (.cells #[.pointer (some ⟨d, 0, none⟩)] 29)).alloc (.cells #[.int .i64 now] 3)) := ((Below.refl _ w).alloc (Nat.le_refl _) _).alloc (by simp) _
  have b0 := (Block.made w 29 #[.pointer (some ⟨d, 0, none⟩)]).alloc (.cells #[.int .i64 now] 3)
  have b1 := Block.made (w.alloc (.cells #[.pointer (some ⟨d, 0, none⟩)] 29)) 3 #[.int .i64 now]
  rw [World.size_alloc] at b1
  have hs0 : ((w.alloc (.cells #[.pointer (some ⟨d, 0, none⟩)] 29)).alloc (.cells #[.int .i64 now] 3)).heap.size = w.heap.size + 2 := by simp
  have hT0 := h.below hB0
  have hM := Lib.hid (isMade_yes hT0 h1)
  have hmo : Try.prog.follows .mixedOrders = true := by kernel_rfl
  have c0 := b0.cell 0 (v := .pointer (some ⟨d, 0, none⟩)) rfl
  have c1 := b1.cell 0 (v := .int .i64 now) rfl
  have z1 := b1.free 0
  have c4 := hT0.clast
  have hcase : (last ≤ now ∧ nw = now) ∨ (now < last ∧ nw = last) := by omega
  clear hnw
  refine (callsIn_wide (n := 5)).1 ?_
  refine callsIn_of_wp_marks Try.func8 rfl trivial ?_ rfl
  simp only [Try.ntmps8, List.size_toArray, List.length_cons, List.length_nil, Nat.reduceAdd, Nat.reduceSub, Array.replicate_succ, Array.replicate_zero, List.push_toArray, List.append_toArray, List.nil_append, List.cons_append]
  gi_wp2_with (refine ⟨trivial, ?_⟩; refine (callsIn_wide.2 hM.out).mono ?_; rintro e w' ⟨rfl, rfl⟩)
  generalize (w.alloc (.cells #[.pointer (some ⟨d, 0, none⟩)] 29)).alloc (.cells #[.int .i64 now] 3) = w1 at hB0 b0 b1 hs0 hT0 c0 c1 z1 c4 hM ⊢
  rcases hcase with ⟨hle, rfl⟩ | ⟨hle, rfl⟩
  · gi_region
    clear c0 c1 z1 c4 hM
    have q1 : Block (w1.setCell ⟨w.heap.size + 1, 0, none⟩ (.int .i64 nw)).drew (w.heap.size + 1) 3 #[.int .i64 nw] := (b1.set 0 (.int .i64 nw)).only (only_drew [] _) (by simp)
    have qo : Only [w.heap.size + 1] w1 (w1.setCell ⟨w.heap.size + 1, 0, none⟩ (.int .i64 nw)).drew := (Only.setCell w1 ⟨w.heap.size + 1, 0, none⟩ _).trans (only_drew _ _)
    have q0 := b0.only qo (by simp)
    have qB : Below w.heap.size w (w1.setCell ⟨w.heap.size + 1, 0, none⟩ (.int .i64 nw)).drew := hB0.trans (qo.below (by omega) (by simp))
    have qs : (w1.setCell ⟨w.heap.size + 1, 0, none⟩ (.int .i64 nw)).drew.heap.size = w.heap.size + 2 := by rw [← hs0]; simp [World.setCell, World.drew]
    generalize (w1.setCell ⟨w.heap.size + 1, 0, none⟩ (.int .i64 nw)).drew = w2 at q0 q1 qB qs ⊢
    clear b0 b1 hB0 hs0 qo hT0
    have p0 := q0.alloc (.cells #[.slice none 0 0] 33)
    have p1 := q1.alloc (.cells #[.slice none 0 0] 33)
    have p2 := Boxed.new w2 33 (.slice none 0 0)
    rw [qs] at p2
    have pB := qB.alloc (by omega) (.cells #[.slice none 0 0] 33)
    have ps : (w2.alloc (.cells #[.slice none 0 0] 33)).heap.size = w.heap.size + 3 := by simp [qs]
    have c0 := p0.cell 0 (v := .pointer (some ⟨d, 0, none⟩)) rfl
    gi_wp2
    generalize w2.alloc (.cells #[.slice none 0 0] 33) = w0 at p0 p1 p2 pB ps c0 ⊢
    clear q0 q1 qB
    have hle0 : w.heap.size ≤ w0.heap.size := by omega
    have hT0 := h.below pB
    refine range_meth (gf := 19) (rv := #[.pointer (some ⟨d, 2, none⟩)]) rfl (enters_of Try.func19 (by kernel_rfl) rfl) (all_hands (n0 := w.heap.size) hT0 hlt) (fun _ => rfl) belowK_t (belowK_b hle0)
      (WtI w d life nw) (fun _ _ _ => False) ?own ?ownx ?start (fun pre x a1 W => WtI w d life nw pre W ∧ ∃ B, KB W B x ∧ a1 = { tmps := wtT w d nw last nw (.pointer (some ⟨B, 0, none⟩)) x, defers := [] }) ?owna ?assign ?body ?done ?stop
    case own => exact fun pre => own_both held_own (own_both box_own (own_both box_own (own_below hle0)))
    case ownx => exact fun _ _ _ _ _ _ hf _ _ => hf
    case owna => exact fun pre x a1 => own_both (own_both held_own (own_both box_own (own_both box_own (own_below hle0)))) (own_some fun B => own_both box_own own_pure)
    case start => exact ⟨⟨_, p2, World.ownsRow_nil _ _ _ _, trivial⟩, p0, p1, pB⟩
    case assign =>
      rintro l pre x W ⟨⟨v, iv, ir, _⟩, i2, i3, i4⟩
      have hk := Block.made W 23 #[.int .i32 x.1, .int .i64 x.2]
      have hn := below_new W (.cells #[.int .i32 x.1, .int .i64 x.2] 23)
      have hpost : ((WtI w d life nw pre (W.alloc (.cells #[.int .i32 x.1, .int .i64 x.2] 23)) ∧ ∃ B, KB (W.alloc (.cells #[.int .i32 x.1, .int .i64 x.2] 23)) B x ∧ ({ tmps := wtT w d nw last nw (.pointer (some ⟨W.heap.size, 0, none⟩)) x, defers := [] } : Go.Act) = { tmps := wtT w d nw last nw (.pointer (some ⟨B, 0, none⟩)) x, defers := [] }) ∧
          KeepsFrom w0.heap.size W (W.alloc (.cells #[.int .i32 x.1, .int .i64 x.2] 23)) ∧ Below w.heap.size W (W.alloc (.cells #[.int .i32 x.1, .int .i64 x.2] 23))) :=
        ⟨⟨⟨⟨v, iv.alloc _, ir.alloc _, trivial⟩, i2.alloc _, i3.alloc _, i4.alloc i4.size _⟩, _, hk, rfl⟩, (KeepsOthers.alloc _ _).from _, hn.mono i4.size⟩
      simp only [encK]
      unfold wtT at hpost ⊢
      gi_wp2
      exact hpost
    case body =>
      rintro l pre x a1 W ⟨⟨⟨v, iv, ir, _⟩, i2, i3, i4⟩, B, hk, rfl⟩ hok
      have hx : x ∈ ks := hok.subset (by simp)
      have hTW := h.below i4
      have hlen : (waitL life nw pre).length < 64 := by
        have h3 := hok.length_le
        have h4 := hTW.len
        have h5 := waitL_len life nw pre
        rw [List.length_append, List.length_singleton] at h3
        omega
      have c0 := i2.cell 0 (v := .pointer (some ⟨d, 0, none⟩)) rfl
      have c1 := i3.cell 0 (v := .int .i64 nw) rfl
      have c2 := Block.cell hk 0 (v := .int .i32 x.1) rfl
      have c3 := Block.cell hk 1 (v := .int .i64 x.2) rfl
      have hA := Lib.hid (isAwaited_any (w := W) hTW.clife h1 h2 x (ht x hx) nw)
      have hgo : ∀ W1, Below W.heap.size W W1 → Hid (W1.cell? ⟨B, 0, none⟩ = some (.int .i32 x.1) ∧ Boxed W1 (w.heap.size + 2) 33 v ∧ W1.ownsRow w.heap.size 21 1 v (waitL life nw pre).length ((waitL life nw pre).map (Value.int .i32)) ∧ w.heap.size ≤ W1.heap.size ∧ KeepsFrom w0.heap.size W W1 ∧
          Block W1 w.heap.size 29 #[.pointer (some ⟨d, 0, none⟩)] ∧ Block W1 (w.heap.size + 1) 3 #[.int .i64 nw] ∧ Below w.heap.size W W1) := fun W1 hB =>
        Lib.hid ⟨(hB.cell (p := ⟨B, 0, none⟩) (Block.lt hk)).trans c2, (hB.block _ iv.lt).trans iv, Com.Own.only (k := .i32) (l := waitL life nw pre) ir (Only.of_below hB []) (by simp), by have := hB.size; have := i4.size; omega, keeps_below hB _, i2.only (Only.of_below hB []) (by simp), i3.only (Only.of_below hB []) (by simp), hB.mono i4.size⟩
      replace hgo := Lib.hid hgo
      obtain ⟨b, hb⟩ : ∃ b, b = waits life nw x := ⟨_, rfl⟩
      rw [← hb] at hA
      replace hb := Lib.hid hb
      have hiv := Lib.hid iv
      have hir := Lib.hid ir
      clear iv ir i2 i3 hk
      unfold wtT
      cases b with
      | false =>
        gi_wp2_with (refine ⟨trivial, ?_⟩; refine (CallsIn.inRound l (callsIn_wide.2 hA.out)).mono ?_; rintro e W1 ⟨rfl, hB1⟩; have hg := hgo.out W1 hB1; clear hB1 hgo c0 c1 c2 c3)
        obtain ⟨g1, g2, g3, g4, g5, g6, g7, g8⟩ := hg.out
        refine ⟨g5, g8, ⟨v, g2, ?_, trivial⟩, g6, g7, i4.trans g8⟩
        rw [waitL_miss pre hb.out.symm]
        exact g3
      | true =>
        gi_wp2_with (first
          | (refine ⟨trivial, ?_⟩; refine (CallsIn.inRound l (callsIn_wide.2 hA.out)).mono ?_; rintro e W1 ⟨rfl, hB1⟩; have hg := hgo.out W1 hB1; clear hB1 hgo hA c0 c1 c2 c3; have c6 := hg.out.1; have c7 := hg.out.2.1.cell)
          | (gi_at_builtin; refine wpListIn_append_own _ rfl _ _ 33 rfl w.heap.size 21 i0 (.int .i32 0) 1 4 Try.underlying33 hi hz0 hz1 hz2 rfl (by decide) _ _ _ rfl (hg.out.2.2.1.alloc _) ⟨W1.heap.size, 0, none⟩ 1 1 [.int .i32 x.1] rfl rfl (cell_one_new _ _ _) (by simp [Value.oneCell']) (by simp [maxLen]; omega) (by omega) (by have := hg.out.2.2.2.1; simp; omega) ?_; intro v' w9 hown' hgrow _; obtain ⟨g', cap', rfl⟩ := ownsRow_succ hown'; obtain ⟨hv1, hv2, hr2, hk2, hb2⟩ := hg.out.2.1.appended (by decide) hg.out.2.2.1 hg.out.2.2.2.1 (by omega) hown' hgrow; have hc1 := hv1.cell; have hf1 := hv1.frozen))
        have k0 : Block w9 w.heap.size 29 #[.pointer (some ⟨d, 0, none⟩)] := Boxed.kept (Boxed.alloc hg.out.2.2.2.2.2.1 _) hgrow (Boxed.not_row hg.out.2.2.2.2.2.1 (by decide) hg.out.2.2.1)
        have k1 : Block w9 (w.heap.size + 1) 3 #[.int .i64 nw] := Boxed.kept (Boxed.alloc hg.out.2.2.2.2.2.2.1 _) hgrow (Boxed.not_row hg.out.2.2.2.2.2.2.1 (by decide) hg.out.2.2.1)
        refine ⟨hg.out.2.2.2.2.1.trans (hk2.from _), hg.out.2.2.2.2.2.2.2.trans hb2, ⟨_, hv2, ?_, trivial⟩, k0.only (Only.setCell w9 ⟨w.heap.size + 2, 0, none⟩ _) (by simp), k1.only (Only.setCell w9 ⟨w.heap.size + 2, 0, none⟩ _) (by simp), (i4.trans hg.out.2.2.2.2.2.2.2).trans hb2⟩
        rw [waitL_hit pre hb.out.symm]
        simpa using hr2
    case done =>
      rintro xs W rfl ⟨⟨v, iv, ir, _⟩, i2, i3, i4⟩ hK
      have c7 := iv.cell
      have hr := Lib.hid (ownsRow_putObj ir (.deferred none) hK rfl)
      have hb := Lib.hid (i4.trans (belowK_b (w := w) (Nat.le_refl _) W w0.heap.size _ (.deferred none) hle0 hK rfl rfl))
      clear iv ir i2 i3
      gi_wp2
      refine ⟨by simp, .inl ⟨_, _, rfl, run_takeDeferred hK, ?_⟩⟩
      exact ⟨_, results_tmp rfl _ _ _, v, rfl, hr.out, hb.out⟩
    case stop =>
      rintro c pre W _ hf _
      exact hf.elim
  · gi_region
    clear c0 c1 z1 c4 hM
    have q1 : Block (w1.setCell ⟨w.heap.size + 1, 0, none⟩ (.int .i64 nw)).drew (w.heap.size + 1) 3 #[.int .i64 nw] := (b1.set 0 (.int .i64 nw)).only (only_drew [] _) (by simp)
    have qo : Only [w.heap.size + 1] w1 (w1.setCell ⟨w.heap.size + 1, 0, none⟩ (.int .i64 nw)).drew := (Only.setCell w1 ⟨w.heap.size + 1, 0, none⟩ _).trans (only_drew _ _)
    have q0 := b0.only qo (by simp)
    have qB : Below w.heap.size w (w1.setCell ⟨w.heap.size + 1, 0, none⟩ (.int .i64 nw)).drew := hB0.trans (qo.below (by omega) (by simp))
    have qs : (w1.setCell ⟨w.heap.size + 1, 0, none⟩ (.int .i64 nw)).drew.heap.size = w.heap.size + 2 := by rw [← hs0]; simp [World.setCell, World.drew]
    generalize (w1.setCell ⟨w.heap.size + 1, 0, none⟩ (.int .i64 nw)).drew = w2 at q0 q1 qB qs ⊢
    clear b0 b1 hB0 hs0 qo hT0
    have p0 := q0.alloc (.cells #[.slice none 0 0] 33)
    have p1 := q1.alloc (.cells #[.slice none 0 0] 33)
    have p2 := Boxed.new w2 33 (.slice none 0 0)
    rw [qs] at p2
    have pB := qB.alloc (by omega) (.cells #[.slice none 0 0] 33)
    have ps : (w2.alloc (.cells #[.slice none 0 0] 33)).heap.size = w.heap.size + 3 := by simp [qs]
    have c0 := p0.cell 0 (v := .pointer (some ⟨d, 0, none⟩)) rfl
    gi_wp2
    generalize w2.alloc (.cells #[.slice none 0 0] 33) = w0 at p0 p1 p2 pB ps c0 ⊢
    clear q0 q1 qB
    have hle0 : w.heap.size ≤ w0.heap.size := by omega
    have hT0 := h.below pB
    refine range_meth (gf := 19) (rv := #[.pointer (some ⟨d, 2, none⟩)]) rfl (enters_of Try.func19 (by kernel_rfl) rfl) (all_hands (n0 := w.heap.size) hT0 hlt) (fun _ => rfl) belowK_t (belowK_b hle0)
      (WtI w d life nw) (fun _ _ _ => False) ?own ?ownx ?start (fun pre x a1 W => WtI w d life nw pre W ∧ ∃ B, KB W B x ∧ a1 = { tmps := wtT w d now nw nw (.pointer (some ⟨B, 0, none⟩)) x, defers := [] }) ?owna ?assign ?body ?done ?stop
    case own => exact fun pre => own_both held_own (own_both box_own (own_both box_own (own_below hle0)))
    case ownx => exact fun _ _ _ _ _ _ hf _ _ => hf
    case owna => exact fun pre x a1 => own_both (own_both held_own (own_both box_own (own_both box_own (own_below hle0)))) (own_some fun B => own_both box_own own_pure)
    case start => exact ⟨⟨_, p2, World.ownsRow_nil _ _ _ _, trivial⟩, p0, p1, pB⟩
    case assign =>
      rintro l pre x W ⟨⟨v, iv, ir, _⟩, i2, i3, i4⟩
      have hk := Block.made W 23 #[.int .i32 x.1, .int .i64 x.2]
      have hn := below_new W (.cells #[.int .i32 x.1, .int .i64 x.2] 23)
      have hpost : ((WtI w d life nw pre (W.alloc (.cells #[.int .i32 x.1, .int .i64 x.2] 23)) ∧ ∃ B, KB (W.alloc (.cells #[.int .i32 x.1, .int .i64 x.2] 23)) B x ∧ ({ tmps := wtT w d now nw nw (.pointer (some ⟨W.heap.size, 0, none⟩)) x, defers := [] } : Go.Act) = { tmps := wtT w d now nw nw (.pointer (some ⟨B, 0, none⟩)) x, defers := [] }) ∧
          KeepsFrom w0.heap.size W (W.alloc (.cells #[.int .i32 x.1, .int .i64 x.2] 23)) ∧ Below w.heap.size W (W.alloc (.cells #[.int .i32 x.1, .int .i64 x.2] 23))) :=
        ⟨⟨⟨⟨v, iv.alloc _, ir.alloc _, trivial⟩, i2.alloc _, i3.alloc _, i4.alloc i4.size _⟩, _, hk, rfl⟩, (KeepsOthers.alloc _ _).from _, hn.mono i4.size⟩
      simp only [encK]
      unfold wtT at hpost ⊢
      gi_wp2
      exact hpost
    case body =>
      rintro l pre x a1 W ⟨⟨⟨v, iv, ir, _⟩, i2, i3, i4⟩, B, hk, rfl⟩ hok
      have hx : x ∈ ks := hok.subset (by simp)
      have hTW := h.below i4
      have hlen : (waitL life nw pre).length < 64 := by
        have h3 := hok.length_le
        have h4 := hTW.len
        have h5 := waitL_len life nw pre
        rw [List.length_append, List.length_singleton] at h3
        omega
      have c0 := i2.cell 0 (v := .pointer (some ⟨d, 0, none⟩)) rfl
      have c1 := i3.cell 0 (v := .int .i64 nw) rfl
      have c2 := Block.cell hk 0 (v := .int .i32 x.1) rfl
      have c3 := Block.cell hk 1 (v := .int .i64 x.2) rfl
      have hA := Lib.hid (isAwaited_any (w := W) hTW.clife h1 h2 x (ht x hx) nw)
      have hgo : ∀ W1, Below W.heap.size W W1 → Hid (W1.cell? ⟨B, 0, none⟩ = some (.int .i32 x.1) ∧ Boxed W1 (w.heap.size + 2) 33 v ∧ W1.ownsRow w.heap.size 21 1 v (waitL life nw pre).length ((waitL life nw pre).map (Value.int .i32)) ∧ w.heap.size ≤ W1.heap.size ∧ KeepsFrom w0.heap.size W W1 ∧
          Block W1 w.heap.size 29 #[.pointer (some ⟨d, 0, none⟩)] ∧ Block W1 (w.heap.size + 1) 3 #[.int .i64 nw] ∧ Below w.heap.size W W1) := fun W1 hB =>
        Lib.hid ⟨(hB.cell (p := ⟨B, 0, none⟩) (Block.lt hk)).trans c2, (hB.block _ iv.lt).trans iv, Com.Own.only (k := .i32) (l := waitL life nw pre) ir (Only.of_below hB []) (by simp), by have := hB.size; have := i4.size; omega, keeps_below hB _, i2.only (Only.of_below hB []) (by simp), i3.only (Only.of_below hB []) (by simp), hB.mono i4.size⟩
      replace hgo := Lib.hid hgo
      obtain ⟨b, hb⟩ : ∃ b, b = waits life nw x := ⟨_, rfl⟩
      rw [← hb] at hA
      replace hb := Lib.hid hb
      have hiv := Lib.hid iv
      have hir := Lib.hid ir
      clear iv ir i2 i3 hk
      unfold wtT
      cases b with
      | false =>
        gi_wp2_with (refine ⟨trivial, ?_⟩; refine (CallsIn.inRound l (callsIn_wide.2 hA.out)).mono ?_; rintro e W1 ⟨rfl, hB1⟩; have hg := hgo.out W1 hB1; clear hB1 hgo c0 c1 c2 c3)
        obtain ⟨g1, g2, g3, g4, g5, g6, g7, g8⟩ := hg.out
        refine ⟨g5, g8, ⟨v, g2, ?_, trivial⟩, g6, g7, i4.trans g8⟩
        rw [waitL_miss pre hb.out.symm]
        exact g3
      | true =>
        gi_wp2_with (first
          | (refine ⟨trivial, ?_⟩; refine (CallsIn.inRound l (callsIn_wide.2 hA.out)).mono ?_; rintro e W1 ⟨rfl, hB1⟩; have hg := hgo.out W1 hB1; clear hB1 hgo hA c0 c1 c2 c3; have c6 := hg.out.1; have c7 := hg.out.2.1.cell)
          | (gi_at_builtin; refine wpListIn_append_own _ rfl _ _ 33 rfl w.heap.size 21 i0 (.int .i32 0) 1 4 Try.underlying33 hi hz0 hz1 hz2 rfl (by decide) _ _ _ rfl (hg.out.2.2.1.alloc _) ⟨W1.heap.size, 0, none⟩ 1 1 [.int .i32 x.1] rfl rfl (cell_one_new _ _ _) (by simp [Value.oneCell']) (by simp [maxLen]; omega) (by omega) (by have := hg.out.2.2.2.1; simp; omega) ?_; intro v' w9 hown' hgrow _; obtain ⟨g', cap', rfl⟩ := ownsRow_succ hown'; obtain ⟨hv1, hv2, hr2, hk2, hb2⟩ := hg.out.2.1.appended (by decide) hg.out.2.2.1 hg.out.2.2.2.1 (by omega) hown' hgrow; have hc1 := hv1.cell; have hf1 := hv1.frozen))
        have k0 : Block w9 w.heap.size 29 #[.pointer (some ⟨d, 0, none⟩)] := Boxed.kept (Boxed.alloc hg.out.2.2.2.2.2.1 _) hgrow (Boxed.not_row hg.out.2.2.2.2.2.1 (by decide) hg.out.2.2.1)
        have k1 : Block w9 (w.heap.size + 1) 3 #[.int .i64 nw] := Boxed.kept (Boxed.alloc hg.out.2.2.2.2.2.2.1 _) hgrow (Boxed.not_row hg.out.2.2.2.2.2.2.1 (by decide) hg.out.2.2.1)
        refine ⟨hg.out.2.2.2.2.1.trans (hk2.from _), hg.out.2.2.2.2.2.2.2.trans hb2, ⟨_, hv2, ?_, trivial⟩, k0.only (Only.setCell w9 ⟨w.heap.size + 2, 0, none⟩ _) (by simp), k1.only (Only.setCell w9 ⟨w.heap.size + 2, 0, none⟩ _) (by simp), (i4.trans hg.out.2.2.2.2.2.2.2).trans hb2⟩
        rw [waitL_hit pre hb.out.symm]
        simpa using hr2
    case done =>
      rintro xs W rfl ⟨⟨v, iv, ir, _⟩, i2, i3, i4⟩ hK
      have c7 := iv.cell
      have hr := Lib.hid (ownsRow_putObj ir (.deferred none) hK rfl)
      have hb := Lib.hid (i4.trans (belowK_b (w := w) (Nat.le_refl _) W w0.heap.size _ (.deferred none) hle0 hK rfl rfl))
      clear iv ir i2 i3
      gi_wp2
      refine ⟨by simp, .inl ⟨_, _, rfl, run_takeDeferred hK, ?_⟩⟩
      exact ⟨_, results_tmp rfl _ _ _, v, rfl, hr.out, hb.out⟩
    case stop =>
      rintro c pre W _ hf _
      exact hf.elim
end Go.Proofs.Ytkaeicaidomghaa.Tpd
