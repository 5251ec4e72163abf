/-
  typed: whether a rune is the first one.
-/
import Derived.Test.YtkaeicaidomghaaYOut
namespace Go.Proofs.Ytkaeicaidomghaa.Tpd
open Go Go.RowKit Go.Shelf Go.Proofs.Ytkaeicaidomghaa.Com
attribute [local go_sem] Oper.semAt_some

def FstI (w : World) (r : Int) (pre : List Key) (W : World) : Prop :=
  pre = [] ∧ Block W w.heap.size 21 #[.int .i32 r] ∧ Block W (w.heap.size + 1) 4 #[.bool false] ∧ Below w.heap.size w W
def FstX (w : World) (r : Int) (c : Code) (pre : List Key) (W : World) : Prop :=
  c = .ret ∧ ∃ x, pre = [x] ∧ Block W (w.heap.size + 1) 4 #[.bool (x.1 == r)] ∧ Below w.heap.size w W
def fstT (w : World) (d : Nat) (r : Int) (v : Value) (x : Key) : Array Value := #[.pointer (some ⟨d, 0, none⟩), .int .i32 r, undef, .pointer (some ⟨w.heap.size, 0, none⟩), .pointer (some ⟨w.heap.size + 1, 0, none⟩), v, .pointer (some ⟨d, 0, none⟩), .pointer (some ⟨d, 0, none⟩), .pointer (some ⟨d, 2, none⟩),
  .func (.func 19) #[.pointer (some ⟨d, 2, none⟩)] #[], .agg #[.int .i32 x.1, .int .i64 x.2], undef, undef, undef, undef]

set_option maxRecDepth 100000 in
set_option maxHeartbeats 4000000 in
theorem isFirst_any {w : World} {d : Nat} {life last : Int} {ks : List Key} (h : TL w d life last ks) (r : Int) :
    Calls Try.prog 18 #[.pointer (some ⟨d, 0, none⟩), .int .i32 r] w fun e w' => e = .returned (.bool (isFirstB ks r)) ∧ Below w.heap.size w w' := by
  have hlt := h.lt
  have hB0 : Below w.heap.size w ((w.alloc (.cells #[.int .i32 r] 21)).alloc (.cells #[.bool false] 4)) := ((Below.refl _ w).alloc (Nat.le_refl _) _).alloc (by simp) _
  have b0 := (Block.made w 21 #[.int .i32 r]).alloc (.cells #[.bool false] 4)
  have b1 := Block.made (w.alloc (.cells #[.int .i32 r] 21)) 4 #[.bool false]
  rw [World.size_alloc] at b1
  have hs0 : ((w.alloc (.cells #[.int .i32 r] 21)).alloc (.cells #[.bool false] 4)).heap.size = w.heap.size + 2 := by simp
  refine (callsIn_wide (n := 5)).1 ?_
  refine callsIn_of_wp_marks Try.func18 rfl trivial ?_ rfl
  simp only [Try.ntmps18, List.size_toArray, List.length_cons, List.length_nil, Nat.reduceAdd, Nat.reduceSub, Array.replicate_succ, Array.replicate_zero, List.push_toArray, List.append_toArray, List.nil_append, List.cons_append]
  gi_wp2
  generalize (w.alloc (.cells #[.int .i32 r] 21)).alloc (.cells #[.bool false] 4) = w0 at hB0 b0 b1 hs0 ⊢
  have hle : w.heap.size ≤ w0.heap.size := by omega
  have hT0 := h.below hB0
  refine range_meth (gf := 19) (rv := #[.pointer (some ⟨d, 2, none⟩)]) rfl (enters_of Try.func19 (by kernel_rfl) rfl) (all_hands (n0 := w.heap.size) hT0 hlt) (fun _ => rfl) belowK_t (belowK_b hle)
    (FstI w r) (FstX w r) ?own ?ownx ?start (fun pre x a1 W => FstI w r pre W ∧ ∃ B, KB W B x ∧ a1 = { tmps := fstT w d r (.pointer (some ⟨B, 0, none⟩)) x, defers := [] }) ?owna ?assign ?body ?done ?stop
  case own => exact fun pre => own_both own_pure (own_both box_own (own_both box_own (own_below hle)))
  case ownx => exact fun c pre => own_both own_pure (own_some fun x => own_both own_pure (own_both box_own (own_below hle)))
  case owna => exact fun pre x a1 => own_both (own_both own_pure (own_both box_own (own_both box_own (own_below hle)))) (own_some fun B => own_both box_own own_pure)
  case start => exact ⟨rfl, b0, b1, hB0⟩
  case assign =>
    rintro l pre x W ⟨i1, i2, i3, i4⟩
    have hk := Block.made W 23 #[.int .i32 x.1, .int .i64 x.2]
    have hn := below_new W (.cells #[.int .i32 x.1, .int .i64 x.2] 23)
    have hpost : ((FstI w r pre (W.alloc (.cells #[.int .i32 x.1, .int .i64 x.2] 23)) ∧ ∃ B, KB (W.alloc (.cells #[.int .i32 x.1, .int .i64 x.2] 23)) B x ∧ ({ tmps := fstT w d r (.pointer (some ⟨W.heap.size, 0, none⟩)) x, defers := [] } : Go.Act) = { tmps := fstT w d r (.pointer (some ⟨B, 0, none⟩)) x, defers := [] }) ∧
        KeepsFrom w0.heap.size W (W.alloc (.cells #[.int .i32 x.1, .int .i64 x.2] 23)) ∧ Below w.heap.size W (W.alloc (.cells #[.int .i32 x.1, .int .i64 x.2] 23))) :=
      ⟨⟨⟨i1, i2.alloc _, i3.alloc _, i4.alloc i4.size _⟩, _, hk, rfl⟩, (KeepsOthers.alloc _ _).from _, hn.mono i4.size⟩
    simp only [encK]
    unfold fstT at hpost ⊢
    gi_wp2
    exact hpost
  case body =>
    rintro l pre x a1 W ⟨⟨i1, i2, i3, i4⟩, B, hk, rfl⟩ hok
    have c0 := i2.cell 0 (v := .int .i32 r) rfl
    have c1 := i3.cell 0 (v := .bool false) rfl
    have z1 := i3.free 0
    have c2 := Block.cell hk 0 (v := .int .i32 x.1) rfl
    have hp : KeepsFrom w0.heap.size W (W.setCell ⟨w.heap.size + 1, 0, none⟩ (.bool (x.1 == r))) ∧ FstX w r .ret (pre ++ [x]) (W.setCell ⟨w.heap.size + 1, 0, none⟩ (.bool (x.1 == r))) :=
      ⟨(KeepsOthers.setCell _ _ _).from _, rfl, x, by rw [i1]; rfl, i3.set 0 _, i4.setCell (p := ⟨w.heap.size + 1, 0, none⟩) (by simp) _⟩
    replace hp := Lib.hid hp
    clear i1 i2 i3 i4 hk
    unfold fstT
    gi_wp2
    exact hp.out
  case done =>
    rintro xs W rfl ⟨rfl, i2, i3, i4⟩ hK
    have c1 := i3.cell 0 (v := .bool false) rfl
    have z1 := i3.free 0
    have i5 := i3.set 0 (.bool false)
    have hK2 := (KeepsOthers.setCell W ⟨w.heap.size + 1, 0, none⟩ (.bool false)).same _ _ hK rfl
    have i6 := box_own (D := 0) () _ _ _ i5 (grownBy_putObj' (W.setCell ⟨w.heap.size + 1, 0, none⟩ (.bool false)) w0.heap.size (.deferred none)) (fun r e => by cases e; exact ⟨Nat.zero_le _, _, hK2, rfl⟩)
    have hc := i6.cell 0 (v := .bool false) rfl
    have hb := Lib.hid ((i4.setCell (p := ⟨w.heap.size + 1, 0, none⟩) (by simp) (.bool false)).trans (belowK_b (w := w) (Nat.le_refl _) (W.setCell ⟨w.heap.size + 1, 0, none⟩ (.bool false)) w0.heap.size _ (.deferred none) hle hK2 rfl rfl))
    clear i2 i3 i5 i6
    gi_wp2
    refine ⟨by simp, .inl ⟨_, _, rfl, run_takeDeferred hK2, ?_⟩⟩
    refine ⟨.bool false, ?_, rfl, hb.out⟩
    simp [results, Try.f18, go_sem, hc]
  case stop =>
    rintro c pre W hpre ⟨rfl, x, rfl, i3, i4⟩ hK
    have i6 := box_own (D := 0) () _ _ _ i3 (grownBy_putObj' W w0.heap.size (.deferred none)) (fun r e => by cases e; exact ⟨Nat.zero_le _, _, hK, rfl⟩)
    have hc := i6.cell 0 (v := .bool (x.1 == r)) rfl
    have hg := Lib.hid (first_stop hpre r)
    have hb := Lib.hid (i4.trans (belowK_b (w := w) (Nat.le_refl _) W w0.heap.size _ (.deferred none) hle hK rfl rfl))
    clear i3 i6
    gi_wp2
    refine ⟨by simp, .inl ⟨_, _, rfl, run_takeDeferred hK, ?_⟩⟩
    refine ⟨.bool (x.1 == r), ?_, by rw [hg.out], hb.out⟩
    simp [results, Try.f18, go_sem, hc]
end Go.Proofs.Ytkaeicaidomghaa.Tpd
