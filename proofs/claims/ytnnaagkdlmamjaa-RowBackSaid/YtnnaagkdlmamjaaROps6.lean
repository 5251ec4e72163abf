/-
  row: many calls that come in as an argument.
-/
import Derived.Test.YtnnaagkdlmamjaaRRow
namespace Go.Proofs.Ytnnaagkdlmamjaa.Rw
open Go Go.ChangeShapes Go.WideShapes Go.ChangeAt Go.RowKit Go.Deep

/-- The calls lie there, one behind the other. -/
def OpsAt (w : World) (ao : Option Addr) (os : List Opr) : Prop := ∀ i o, os[i]? = some o → ∃ ad, ao = some ad ∧ ad.block < w.heap.size ∧ ∀ j v, (opV o)[j]? = some v → w.cell? ((ad.add (i * 8)).add j) = some v
theorem opV_length (o : Opr) : (opV o).length = 8 := rfl
instance : Inhabited Opr := ⟨⟨0, 0, 0, 0, false, ⟨0, 0, 0⟩⟩⟩
theorem ops_in {H : Type} {enc : TypeId × Value → H} {W : World} {a : Option Addr} {n c : Nat} {d : DataW H} {p : List MemPlace}
    (h : DataW.Trod enc Try.prog W 0 (fun _ => true) true 22 (.slice a n c) d p) : ∃ l : List Opr, l.length = n ∧ l.length ≤ c ∧ c ≤ maxLen ∧ OpsAt W a l ∧ ∀ o ∈ l, o.Ok := by
  obtain ⟨fuel, hf⟩ := h
  rcases open_slice Try.underlying22 hf with ⟨hcs, _⟩ | ⟨x, l, cp, m, k, D, Pl, hcs, _, hl, hm, hmm, _, hx⟩
  · simp [Value.cells] at hcs
    obtain ⟨rfl, rfl, rfl⟩ := hcs
    exact ⟨[], rfl, Nat.le_refl _, by simp [maxLen], fun i o h => by simp at h, by simp⟩
  · simp [Value.cells] at hcs
    obtain ⟨rfl, rfl, rfl⟩ := hcs
    simp only [if_true] at hmm
    subst hmm
    rw [cOp] at hx
    obtain ⟨V, hV⟩ := choose_lt (α := Opr) (n := n) (p := fun i o => W.cells? 0 (x.add (i * 8)) 8 = some (opV o) ∧ o.Ok) (fun i hi => by
      obtain ⟨cs', h1, h2⟩ := hx i (by omega)
      obtain ⟨o, rfl, hk⟩ := trod_op h2
      exact ⟨o, h1, hk⟩)
    refine ⟨(List.range n).map V, by simp, by simpa using hl, hm, fun i o hi => ?_, fun o ho => ?_⟩
    · obtain ⟨hin, rfl⟩ : i < n ∧ V i = o := by
        rw [List.getElem?_map] at hi
        rcases Nat.lt_or_ge i n with hh | hh
        · rw [List.getElem?_range hh] at hi
          exact ⟨hh, by simpa using hi⟩
        · rw [List.getElem?_eq_none (by simpa using hh)] at hi
          simp at hi
      obtain ⟨h1, _⟩ := hV i hin
      obtain ⟨_, _, hcell⟩ := World.cells?_some h1
      refine ⟨x, rfl, ?_, fun j v hv => ?_⟩
      · have h0 := hcell 0 (by omega)
        rw [show (opV (V i))[0]? = some (.int .i64 (V i).kind) from rfl] at h0
        have hlt := World.block_lt_of_cell? _ _ h0
        rw [block_add, block_add] at hlt
        exact hlt
      · have hj : j < 8 := by
          have := (List.getElem?_eq_some_iff.1 hv).1
          rwa [opV_length] at this
        rw [hcell j hj]
        exact hv
    · obtain ⟨i, hi, rfl⟩ := List.mem_map.1 ho
      exact (hV i (List.mem_range.1 hi)).2
theorem OpsAt.below {w w' : World} {ao : Option Addr} {os : List Opr} (h : OpsAt w ao os) (hb : Below w.heap.size w w') : OpsAt w' ao os := fun i o hi => by
  obtain ⟨ad, rfl, hlt, hc⟩ := h i o hi
  refine ⟨ad, rfl, Nat.lt_of_lt_of_le hlt hb.size, fun j v hv => ?_⟩
  exact (World.cell?_of_block (w := w) (hb.block _ (by rw [block_add, block_add]; exact hlt))).trans (hc j v hv)
end Go.Proofs.Ytnnaagkdlmamjaa.Rw
