/-
  lines: a ring of the same lines.
-/
import Derived.Test.YtaoegfdaemmogaaLPut
namespace Go.Proofs.Ytaoegfdaemmogaa.Lns
open Go Go.RowKit Go.Proofs.Ytaoegfdaemmogaa.Com Go.Proofs.Ytaoegfdaemmogaa.Rw
section
variable {B : Nat} {w w' : World} {s nx most o : Nat} {sv : Value} {P R : List En}

def LCloneDone (w : World) (n : Nat) (X : List Value) (e : Ending) (w' : World) : Prop := ∃ sv', e = .returned sv' ∧ w'.ownsRow w.heap.size 92 2 sv' n X ∧ Below w.heap.size w w'
theorem own_news {w : World} {B : Nat} {e : TypeId} {s n : Nat} {ad : Addr} {c : Nat} {xs : List Value} (h : w.ownsRow B e s (.slice (some ad) n c) n xs) : ∀ j u, xs[j]? = some u → w.cell? (ad.add j) = some u := by
  intro j u hj
  rcases h.2 with ⟨h0, _⟩ | ⟨g', cap', cur, e', _, hg, _, _, _, ht⟩
  · cases h0
  · simp only [Value.slice.injEq, Option.some.injEq] at e'
    obtain ⟨rfl, _, rfl⟩ := e'
    rw [Addr.add_lit, Nat.zero_add, cell_of_row w g' _ cur _ (0, 0) hg]
    rw [← ht, List.getElem?_take] at hj
    split at hj
    · simpa using hj
    · cases hj
theorem owns_lower {w : World} {B B' : Nat} {e : TypeId} {s n : Nat} {v : Value} {xs : List Value} (h : w.ownsRow B e s v n xs) (hB : B' ≤ B) : w.ownsRow B' e s v n xs := by
  refine ⟨h.1, ?_⟩
  rcases h.2 with h2 | ⟨g, cap, cur, rfl, hg, r⟩
  · exact .inl h2
  · exact .inr ⟨g, cap, cur, rfl, by omega, r⟩
theorem infoR : (Try.prog.info? 76).map (·.size) = some 3 := by kernel_rfl
theorem block3 {w : World} {g : Nat} {t : TypeId} {a b c : Value} (h : Block w g t #[a, b, c]) (x y z : Value) : Block (((w.setCell ⟨g, 0, none⟩ x).setCell ⟨g, 1, none⟩ y).setCell ⟨g, 2, none⟩ z) g t #[x, y, z] := ((h.set 0 x).set 1 y).set 2 z
def TwinDone (w : World) (most o n : Nat) (X : List Value) (e : Ending) (w' : World) : Prop := ∃ sv', e = .returned (.agg #[.int .i64 most, sv', .int .i64 o]) ∧ w'.ownsRow w.heap.size 92 2 sv' n X ∧ Below w.heap.size w w'
end
end Go.Proofs.Ytaoegfdaemmogaa.Lns
