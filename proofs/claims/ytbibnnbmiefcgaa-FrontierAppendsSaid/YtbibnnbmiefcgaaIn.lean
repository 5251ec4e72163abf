/-
  A slice of numbers that comes in as an argument, as the words of memory tell it.
-/
import Derived.Test.YtbibnnbmiefcgaaCom
import Derived.ProofKit
import Derived.OpenShut
import Derived.ShutString
import Derived.ChangeOld
namespace Go.Proofs.Ytbibnnbmiefcgaa.Com
open Go Go.RowKit Go.ChangeShapes Go.WideShapes

/-- Each of them fits its kind. -/
def Fits (k : IntKind) (l : List Int) : Prop := ∀ n ∈ l, (Lit.int k n).wf = true

theorem nums_in {H : Type} {enc : TypeId × Value → H} {P : Program} {W : World} {t e : TypeId} {k : IntKind} {a : Option Addr} {len cap : Nat} {d : DataW H} {p : List MemPlace} (ht : P.underlying t = some (.slice e)) (he : P.underlying e = some (.int k)) (hc : P.cellsOf e = 1)
    (h : DataW.Trod enc P W 0 (fun _ => true) true t (.slice a len cap) d p) : ∃ l : List Int, l.length = len ∧ len ≤ cap ∧ cap ≤ maxLen ∧ Nums W W.heap.size k a l ∧ Fits k l := by
  obtain ⟨fuel, hf⟩ := h
  rcases open_ints ht he hc hf with ⟨hcs, _⟩ | ⟨x, l, c, zs, hcs, _, hl, hm, hz, _, hcell, hwz⟩
  · simp [Value.cells] at hcs
    obtain ⟨rfl, rfl, rfl⟩ := hcs
    exact ⟨[], rfl, Nat.le_refl _, by simp [maxLen], Nums.nil _ _ _ _, by simp [Fits]⟩
  · simp [Value.cells] at hcs
    obtain ⟨rfl, rfl, rfl⟩ := hcs
    have hz' : zs.length = cap := by simpa using hz
    refine ⟨zs.take len, by simp; omega, hl, hm, fun i y hy => ?_, fun n hn => hwz n (List.mem_of_mem_take hn)⟩
    rw [List.getElem?_take] at hy
    split at hy
    · have hi : i < zs.length := (List.getElem?_eq_some_iff.1 hy).1
      have hg : zs.getD i 0 = y := by simp [List.getD, hy]
      have hcl := hcell i hi
      rw [hg] at hcl
      have hlt := World.block_lt_of_cell? _ _ hcl
      rw [block_add] at hlt
      exact ⟨x, rfl, hlt, hcl⟩
    · cases hy

end Go.Proofs.Ytbibnnbmiefcgaa.Com
