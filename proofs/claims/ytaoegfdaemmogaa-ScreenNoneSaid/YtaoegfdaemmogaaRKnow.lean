/-
  row: the law's own known answers.
-/
import Derived.Test.YtaoegfdaemmogaaRCopy
import Derived.Laws.Cover4
namespace Go.Proofs.Ytaoegfdaemmogaa.Rw
open Go Go.RowKit Go.Proofs.Ytaoegfdaemmogaa.Com

/-! The text of a row. -/
/-- The cells of the place i of a row that was handed out, as a load meets them. -/
theorem Api.load {B : Nat} {w : World} {g n cap : Nat} {ps : List (Cel × Value)} (h : Api B w (.slice (some ⟨g, 0, none⟩) n cap) ps) {i : Nat} (hi : i < ps.length) : ∀ j v, (apiP ps[i])[j]? = some v → w.cell? ((⟨g, i * 6, none⟩ : Addr).add j) = some v := by
  intro j v hj
  have hj6 := (List.getElem?_eq_some_iff.1 hj).1
  rw [apiP_length] at hj6
  have e := fl_at apiP_length hi hj6
  rw [hj] at e
  have hlt : i * 6 + j < ps.length * 6 := by omega
  rcases h.own.2 with ⟨h0, _⟩ | ⟨g', cap', cur, e', _, hg, _, _, _, ht⟩
  · cases h0
  · simp only [Value.slice.injEq, Option.some.injEq, Addr.mk.injEq, and_true] at e'
    obtain ⟨rfl, rfl, rfl⟩ := e'
    rw [Addr.add_lit, cell_of_row w g _ cur _ (0, 0) hg]
    rw [← ht, List.getElem?_take, if_pos hlt] at e
    simpa using e
theorem Api.lt {B : Nat} {w : World} {v : Value} {ps : List (Cel × Value)} (h : Api B w v ps) : ∀ g, v.ownBlock = some g → B ≤ g ∧ g < w.heap.size := World.ownsRow.lt h.own

/-! a, a wide rune, b. -/
end Go.Proofs.Ytaoegfdaemmogaa.Rw
