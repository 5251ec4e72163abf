/-
  lines: Copy and At.
-/
import Derived.Test.YtaoegfdaemmogaaLStore
namespace Go.Proofs.Ytaoegfdaemmogaa.Lns
open Go Go.RowKit Go.Proofs.Ytaoegfdaemmogaa.Com Go.Proofs.Ytaoegfdaemmogaa.Rw
section
variable {B : Nat} {w w' : World} {s nx most o : Nat} {sv : Value} {P R : List En}

def SCopyDone (B : Nat) (w : World) (nx most : Nat) (R : List En) (e : Ending) (w' : World) : Prop :=
  ∃ s' sv', e = .returned (.pointer (some ⟨s', 0, none⟩)) ∧ SX B w' s' nx most sv' R ∧ Below w.heap.size w w' ∧ w.heap.size ≤ s' ∧ ∀ g, sv'.ownBlock = some g → w.heap.size ≤ g
theorem _root_.Go.Proofs.Ytaoegfdaemmogaa.Rw.Api.other {B : Nat} {w w' : World} {v : Value} {ps : List (Cel × Value)} (h : Api B w v ps) {k : Nat} {t : TypeId} (ho : Only [k] w w') (ht : Typ w k t) (h1 : 119 ≠ t) (h2 : 21 ≠ t) : Api B w' v ps :=
  h.fr (Fr.of_only (B := 0) (ts := [t]) ho (fun x hx _ => by
    obtain rfl : x = k := by simpa using hx
    exact ⟨Nat.zero_le _, t, by simp, ht⟩)) (by simpa using h1) (by simpa using h2)
def AtNo (w : World) (x : Int) (e : Ending) (w' : World) : Prop := e = .returned (.tuple #[.agg #[.int .i64 0, .slice none 0 0], .int .i64 x]) ∧ Below w.heap.size w w'
def AtDone (w : World) (e0 : En) (e : Ending) (w' : World) : Prop := ∃ g2 ps, e = .returned (.tuple #[.agg #[.int .i64 e0.id, .slice (some ⟨g2, 0, none⟩) e0.l.length e0.l.length], .int .i64 0]) ∧ Api w.heap.size w' (.slice (some ⟨g2, 0, none⟩) e0.l.length e0.l.length) ps ∧ ps.map (·.1) = e0.l ∧ Below w.heap.size w w' ∧ w.heap.size ≤ g2
end
end Go.Proofs.Ytaoegfdaemmogaa.Lns
