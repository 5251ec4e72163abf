/-
  lines: a ring of the same lines.
-/
import Derived.Test.YtleooelhnnfjbaaLPut
namespace Go.Proofs.Ytleooelhnnfjbaa.Lns
open Go Go.RowKit Go.Proofs.Ytleooelhnnfjbaa.Com Go.Proofs.Ytleooelhnnfjbaa.Rw
section
variable {B : Nat} {w w' : World} {s nx most o : Nat} {sv : Value} {P R : List En}

def LCloneDone (w : World) (n : Nat) (X : List Value) (e : Ending) (w' : World) : Prop := ∃ sv', e = .returned sv' ∧ w'.ownsRow w.heap.size 42 2 sv' n X ∧ Below w.heap.size w w'
theorem own_news {w : World} {B : Nat} {e : TypeId} {s n : Nat} {ad : Addr} {c : Nat} {xs : List Value} (h : w.ownsRow B e s (.slice (some ad) n c) n xs) : ∀ j u, xs[j]? = some u → w.cell? (ad.add j) = some u := by
  intro j u hj
  rcases h.2 with ⟨h0, _⟩ | ⟨g', cap', cur, e', _, hg, _, _, _, ht⟩
  · cases h0
  · simp only [Value.slice.injEq, Option.some.injEq] at e'
    obtain ⟨rfl, _, rfl⟩ := e'
    rw [Addr.add_lit, Nat.zero_add, cell_of_row w g' _ cur _ (0, 0) hg]
    rw [← ht, List.getElem?_take] at hj
    split at hj
    · simpa using hj
    · cases hj
set_option maxHeartbeats 1000000 in
theorem lclone_any (h : SX0 B w s nx most sv o P) : Calls Try.prog 61 #[sv] w (LCloneDone w P.length (fl lineC P)) := by
  have hle := Nat.le_trans h.le h.most
  have hB : B ≤ w.heap.size := Nat.le_trans h.lo (Nat.le_of_lt h.blk.lt)
  have hown0 := h.own
  rcases h.own.2 with ⟨rfl, h0⟩ | ⟨g, cap, cur, rfl, hg, hh, hc, hm, _⟩
  · have hP : P = [] := List.eq_nil_of_length_eq_zero h0
    subst hP
    have hnil : ∀ W, (binOp .eql 31 (.slice none 0 0) (.slice none 0 0)).run Try.prog W = .ok (.bool true) W := fun W => Lib.run_eql_slice_nil W _ _ none 0 0 0 0 Try.underlying31
    clear h hown0
    go_enter Try.func61, Try.ntmps61
    go_wp2
    go_ret
    exact ⟨_, rfl, World.ownsRow_nil _ _ _ _, Below.refl _ _⟩
  · have hnil : ∀ W, (binOp .eql 31 (.slice (some ⟨g, 0, none⟩) P.length cap) (.slice none 0 0)).run Try.prog W = .ok (.bool false) W := fun W => Lib.run_eql_slice_nil W _ _ (some ⟨g, 0, none⟩) _ cap 0 0 Try.underlying31
    have hown : (w.alloc (.cells #[] 42)).ownsRow w.heap.size 42 2 (.slice (some ⟨w.heap.size, 0, none⟩) 0 0) 0 [] := by
      have := World.ownsRow_lit (e := 42) (base := w.heap.size) (size := 2) w #[] 0 (Nat.le_refl _) (by simp [maxLen]) (by simp)
      simpa using this
    have hnews := own_news (owns_only hown0 (Only.alloc [] w (.cells #[] 42)) (by simp))
    have hlen : (fl lineC P).length = P.length * 2 := by rw [fl_length lineC_length]
    have hone := fl_one' lineC_one P
    generalize fl lineC P = X at *
    generalize P.length = n at *
    replace hown := Lib.hid hown
    replace hnews := Lib.hid hnews
    replace hlen := Lib.hid hlen
    replace hone := Lib.hid hone
    clear h hown0 hh
    go_enter Try.func61, Try.ntmps61
    go_wp2_with (first
      | (with_reducible show wpList _ _ _ (⟨some 7, .call _, _, _, _, _⟩ :: _) _ _; go_must (refine wpList_appN elemL rfl (.tmp 5) (.tmp 6) rfl w.heap.size (.slice (some ⟨w.heap.size, 0, none⟩) 0 0) 0 [] ⟨g, 0, none⟩ n cap X rfl rfl hown.out hlen.out hnews.out hone.out (by simp) (by omega) ?_); intro v2 w2 hown2 ho2 hat2))
    go_ret
    rw [Nat.zero_add, List.nil_append] at hown2
    exact ⟨v2, rfl, hown2, ((Below.refl _ _).alloc (Nat.le_refl _) _).trans (ho2.below (by simp) (by simp [Value.ownBlock]))⟩
theorem owns_lower {w : World} {B B' : Nat} {e : TypeId} {s n : Nat} {v : Value} {xs : List Value} (h : w.ownsRow B e s v n xs) (hB : B' ≤ B) : w.ownsRow B' e s v n xs := by
  refine ⟨h.1, ?_⟩
  rcases h.2 with h2 | ⟨g, cap, cur, rfl, hg, r⟩
  · exact .inl h2
  · exact .inr ⟨g, cap, cur, rfl, by omega, r⟩
theorem infoR : (Try.prog.info? 74).map (·.size) = some 3 := by kernel_rfl
theorem block3 {w : World} {g : Nat} {t : TypeId} {a b c : Value} (h : Block w g t #[a, b, c]) (x y z : Value) : Block (((w.setCell ⟨g, 0, none⟩ x).setCell ⟨g, 1, none⟩ y).setCell ⟨g, 2, none⟩ z) g t #[x, y, z] := ((h.set 0 x).set 1 y).set 2 z
def TwinDone (w : World) (most o n : Nat) (X : List Value) (e : Ending) (w' : World) : Prop := ∃ sv', e = .returned (.agg #[.int .i64 most, sv', .int .i64 o]) ∧ w'.ownsRow w.heap.size 42 2 sv' n X ∧ Below w.heap.size w w'
set_option maxHeartbeats 1000000 in
theorem twin_any (h : SX0 B w s nx most sv o P) : Calls Try.prog 46 #[.pointer (some ⟨s, 1, none⟩)] w (TwinDone w most o P.length (fl lineC P)) := by
  have hbn := below_new w (.cells #[.int .i64 0, .slice none 0 0, .int .i64 0] 74)
  have hdr : Below w.heap.size w (w.alloc (.cells #[.int .i64 0, .slice none 0 0, .int .i64 0] 74)).drew := below_dr hbn 1
  have hcl := lclone_any (h.only (Only.of_below hdr []) (by simp) (by simp))
  have hcells := fun w' (hb : Below w.heap.size w w') => (h.only (Only.of_below hb []) (by simp) (by simp)).cells
  have hbx : Block (w.alloc (.cells #[.int .i64 0, .slice none 0 0, .int .i64 0] 74)).drew w.heap.size 74 #[.int .i64 0, .slice none 0 0, .int .i64 0] := (Block.made w _ _).only (only_drew [] _) (by simp)
  obtain ⟨ao, c, hsv, _⟩ := h.len
  subst hsv
  generalize fl lineC P = X at hcl ⊢
  generalize P.length = n at hcl hcells ⊢
  have hc0 := (hcells _ hbn).2
  obtain ⟨c1, c2, c3⟩ := hc0
  replace hcl := Lib.hid hcl
  replace hcells := Lib.hid hcells
  replace hbx := Lib.hid hbx
  replace hdr := Lib.hid hdr
  clear h
  go_enter Try.func46, Try.ntmps46
  go_wp2
  go_region_held3 (fun w' => w'.cell? ⟨s, 1, none⟩ = some (.int .i64 most) ∧ w'.cell? ⟨s, 2, none⟩ = some (.slice ao n c) ∧ w'.cell? ⟨s, 3, none⟩ = some (.int .i64 o))
    (first | exact ⟨c1, c2, c3⟩ | exact (hcells.out _ hb2.out).2 | exact (hcells.out _ (((hb2.out.setCell (Nat.le_refl _) _).setCell (Nat.le_refl _) _).setCell (Nat.le_refl _) _)).2 | go_keep)
    (first
      | (go_at_call 61; (with_reducible refine hcl.out.mono ?_); rintro e w1 ⟨sv', rfl, hown1, hb1⟩; have hb2 := Lib.hid (below_next hdr.out hb1); have hbk := hbx.out.only (Only.of_below hb1 []) (by simp); have f0 := hbk.free 0; have f1 := hbk.free 1; have f2 := hbk.free 2; have k0 := hbk.cell 0 rfl; have k1 := hbk.cell 1 rfl; have k2 := hbk.cell 2 rfl; obtain ⟨av, cv, rfl, _⟩ := owns_shape hown1))
  go_wp2
  exact bodyPost_ret (v := .agg #[.int .i64 most, .slice av n cv, .int .i64 o]) (results_cell_row rfl _ _ w.heap.size 74 _ (0, 0) _ rfl (block3 hbk _ _ _) Try.underlying74 rfl infoR) rfl ⟨_, rfl, owns_lower (owns_only hown1 (((Only.setCell w1 ⟨w.heap.size, 0, none⟩ _).trans (Only.setCell _ ⟨w.heap.size, 1, none⟩ _)).trans (Only.setCell _ ⟨w.heap.size, 2, none⟩ _)) (fun g hg => not_in1 (owns_typ hown1 g hg) (Block.typ hbk) (by decide))) (by simp), ((hb2.out.setCell (Nat.le_refl _) _).setCell (Nat.le_refl _) _).setCell (Nat.le_refl _) _⟩
end
end Go.Proofs.Ytleooelhnnfjbaa.Lns
