/-
  tabs: many calls that come in as an argument.
-/
import Derived.Test.YtihmagpgbjlggaaDoorTRow
import Derived.Test.YtihmagpgbjlggaaDoorMem3
namespace Go.Proofs.YtihmagpgbjlggaaDoor.Tbs
open Go Go.ChangeShapes Go.WideShapes Go.ChangeAt Go.RowKit Go.Deep

structure Opr where
  kind : Int
  col : Int
  n : Int
instance : Inhabited Opr := ⟨⟨0, 0, 0⟩⟩
def opV (o : Opr) : List Value := [.int .i64 o.kind, .int .i64 o.col, .int .i64 o.n]
theorem opV_length (o : Opr) : (opV o).length = 3 := rfl
theorem cOp : Tryd.prog.cellsOf 32 = 3 := by kernel_rfl
theorem cInt : Tryd.prog.cellsOf 3 = 1 := by kernel_rfl
theorem op_info (o : Opr) : (Tryd.prog.info? 32).map (·.size) = some (opV o).length := by rw [opV_length]; kernel_rfl
def Opr.Ok (o : Opr) : Prop := (Lit.int .i64 o.kind).wf = true ∧ (Lit.int .i64 o.col).wf = true ∧ (Lit.int .i64 o.n).wf = true
section
variable {H : Type} {enc : TypeId × Value → H} {W : World} {base : Nat} {spare : Nat → Bool} {held : Bool}
theorem trod_op {fuel : Nat} {cs : List Value} {x : DataW H × List MemPlace} (h : DataW.trod enc Tryd.prog W base spare held fuel 32 cs = some x) : ∃ o : Opr, cs = opV o ∧ o.Ok := by
  obtain ⟨y0, y1, y2, m', hy, hl, e0, e1, e2⟩ := trod_struct3 Tryd.underlying32 h
  rw [cInt] at e0 e1 e2
  rw [cOp] at hl
  obtain ⟨z0, q0, rfl, w0⟩ := DataW.trod_int Tryd.underlying3 e0
  obtain ⟨z1, q1, rfl, w1⟩ := DataW.trod_int Tryd.underlying3 e1
  obtain ⟨z2, q2, rfl, w2⟩ := DataW.trod_int Tryd.underlying3 e2
  match cs, hl with
  | [a, b, c], _ =>
    simp at q0 q1 q2
    subst q0
    subst q1
    subst q2
    exact ⟨⟨z0, z1, z2⟩, rfl, w0, w1, w2⟩
end
/-- The calls lie there, one behind the other. -/
def OpsAt (w : World) (ao : Option Addr) (os : List Opr) : Prop := ∀ i o, os[i]? = some o → ∃ ad, ao = some ad ∧ ad.block < w.heap.size ∧ ∀ j v, (opV o)[j]? = some v → w.cell? ((ad.add (i * 3)).add j) = some v
theorem ops_in {H : Type} {enc : TypeId × Value → H} {W : World} {a : Option Addr} {n c : Nat} {d : DataW H} {p : List MemPlace}
    (h : DataW.Trod enc Tryd.prog W 0 (fun _ => true) true 22 (.slice a n c) d p) : ∃ l : List Opr, l.length = n ∧ l.length ≤ c ∧ c ≤ maxLen ∧ OpsAt W a l ∧ ∀ o ∈ l, o.Ok := by
  obtain ⟨fuel, hf⟩ := h
  rcases open_slice Tryd.underlying22 hf with ⟨hcs, _⟩ | ⟨x, l, cp, m, k, D, Pl, hcs, _, hl, hm, hmm, _, hx⟩
  · simp [Value.cells] at hcs
    obtain ⟨rfl, rfl, rfl⟩ := hcs
    exact ⟨[], rfl, Nat.le_refl _, by simp [maxLen], fun i o h => by simp at h, by simp⟩
  · simp [Value.cells] at hcs
    obtain ⟨rfl, rfl, rfl⟩ := hcs
    simp only [if_true] at hmm
    subst hmm
    rw [cOp] at hx
    obtain ⟨V, hV⟩ := choose_lt (α := Opr) (n := n) (p := fun i o => W.cells? 0 (x.add (i * 3)) 3 = some (opV o) ∧ o.Ok) (fun i hi => by
      obtain ⟨cs', h1, h2⟩ := hx i (by omega)
      obtain ⟨o, rfl, hk⟩ := trod_op h2
      exact ⟨o, h1, hk⟩)
    refine ⟨(List.range n).map V, by simp, by simpa using hl, hm, fun i o hi => ?_, fun o ho => ?_⟩
    · obtain ⟨hin, rfl⟩ : i < n ∧ V i = o := by
        rw [List.getElem?_map] at hi
        rcases Nat.lt_or_ge i n with hh | hh
        · rw [List.getElem?_range hh] at hi
          exact ⟨hh, by simpa using hi⟩
        · rw [List.getElem?_eq_none (by simpa using hh)] at hi
          simp at hi
      obtain ⟨h1, _⟩ := hV i hin
      obtain ⟨_, _, hcell⟩ := World.cells?_some h1
      refine ⟨x, rfl, ?_, fun j v hv => ?_⟩
      · have h0 := hcell 0 (by omega)
        rw [show (opV (V i))[0]? = some (.int .i64 (V i).kind) from rfl] at h0
        have hlt := World.block_lt_of_cell? _ _ h0
        rw [block_add, block_add] at hlt
        exact hlt
      · have hj : j < 3 := by
          have := (List.getElem?_eq_some_iff.1 hv).1
          rwa [opV_length] at this
        rw [hcell j hj]
        exact hv
    · obtain ⟨i, hi, rfl⟩ := List.mem_map.1 ho
      exact (hV i (List.mem_range.1 hi)).2
theorem OpsAt.below {w w' : World} {ao : Option Addr} {os : List Opr} (h : OpsAt w ao os) (hb : Below w.heap.size w w') : OpsAt w' ao os := fun i o hi => by
  obtain ⟨ad, rfl, hlt, hc⟩ := h i o hi
  refine ⟨ad, rfl, Nat.lt_of_lt_of_le hlt hb.size, fun j v hv => ?_⟩
  exact (World.cell?_of_block (w := w) (hb.block _ (by rw [block_add, block_add]; exact hlt))).trans (hc j v hv)

end Go.Proofs.YtihmagpgbjlggaaDoor.Tbs
