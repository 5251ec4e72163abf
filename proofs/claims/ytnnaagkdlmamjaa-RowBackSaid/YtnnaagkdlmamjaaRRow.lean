/-
  row: a call, an attribute as an argument; many of them.
-/
import Derived.Test.YtnnaagkdlmamjaaRows
import Derived.Test.YtnnaagkdlmamjaaRKnow
import Derived.Test.YtnnaagkdlmamjaaRNone
import Derived.ProofKit
import Derived.LaidMore
import Derived.OpenShut
import Derived.Stop.Joined
import Derived.Deep.Strs
import Derived.Deep.Slices
namespace Go.Proofs.Ytnnaagkdlmamjaa.Rw
open Go Go.ChangeShapes Go.WideShapes Go.ChangeAt Go.RowKit Go.Deep

theorem own : ownKnob Try.prog.godebug = none := by kernel_rfl
theorem laidOut : laidOutB Try.prog = true := by kernel_rfl
theorem cInt : Try.prog.cellsOf 3 = 1 := by kernel_rfl
theorem cI32 : Try.prog.cellsOf 21 = 1 := by kernel_rfl
theorem cBool : Try.prog.cellsOf 4 = 1 := by kernel_rfl
theorem cU32 : Try.prog.cellsOf 31 = 1 := by kernel_rfl
theorem cU16 : Try.prog.cellsOf 32 = 1 := by kernel_rfl
theorem cAtt : Try.prog.cellsOf 34 = 3 := by kernel_rfl
theorem cOp : Try.prog.cellsOf 36 = 8 := by kernel_rfl

def At.Ok (a : At) : Prop := (Lit.int .u32 a.f).wf = true ∧ (Lit.int .u32 a.b).wf = true ∧ (Lit.int .u16 a.g).wf = true
def Opr.Ok (o : Opr) : Prop := (Lit.int .i64 o.kind).wf = true ∧ (Lit.int .i64 o.col).wf = true ∧ (Lit.int .i64 o.n).wf = true ∧ (Lit.int .i32 o.r).wf = true ∧ o.a.Ok
section
variable {H : Type} {enc : TypeId × Value → H} {W : World} {base : Nat} {spare : Nat → Bool} {held : Bool}
theorem trod_att {fuel : Nat} {cs : List Value} {x : DataW H × List MemPlace} (h : DataW.trod enc Try.prog W base spare held fuel 34 cs = some x) : ∃ a : At, cs = attV a ∧ a.Ok := by
  obtain ⟨y0, y1, y2, m', hy, hl, e0, e1, e2⟩ := trod_struct3 Try.underlying34 h
  rw [cU32] at e0 e1
  rw [cU16] at e2
  rw [cAtt] at hl
  obtain ⟨z0, q0, rfl, w0⟩ := DataW.trod_int Try.underlying31 e0
  obtain ⟨z1, q1, rfl, w1⟩ := DataW.trod_int Try.underlying31 e1
  obtain ⟨z2, q2, rfl, w2⟩ := DataW.trod_int Try.underlying32 e2
  match cs, hl with
  | [x, y, z], _ =>
    simp at q0 q1 q2
    subst q0
    subst q1
    subst q2
    exact ⟨⟨z0, z1, z2⟩, rfl, w0, w1, w2⟩
theorem trod_op {fuel : Nat} {cs : List Value} {x : DataW H × List MemPlace} (h : DataW.trod enc Try.prog W base spare held fuel 36 cs = some x) : ∃ o : Opr, cs = opV o ∧ o.Ok := by
  obtain ⟨xs, n, _, hx, hl, hlen, hf⟩ := DataW.trod_struct Try.underlying36 h
  rw [cOp] at hl
  have f0 : DataW.trod enc Try.prog W base spare held n 3 ((cs.drop 0).take (Try.prog.cellsOf 3)) = xs[0]? := hf 0 _ rfl
  have f1 : DataW.trod enc Try.prog W base spare held n 3 ((cs.drop 1).take (Try.prog.cellsOf 3)) = xs[1]? := hf 1 _ rfl
  have f2 : DataW.trod enc Try.prog W base spare held n 3 ((cs.drop 2).take (Try.prog.cellsOf 3)) = xs[2]? := hf 2 _ rfl
  have f3 : DataW.trod enc Try.prog W base spare held n 21 ((cs.drop 3).take (Try.prog.cellsOf 21)) = xs[3]? := hf 3 _ rfl
  have f4 : DataW.trod enc Try.prog W base spare held n 4 ((cs.drop 4).take (Try.prog.cellsOf 4)) = xs[4]? := hf 4 _ rfl
  have f5 : DataW.trod enc Try.prog W base spare held n 34 ((cs.drop 5).take (Try.prog.cellsOf 34)) = xs[5]? := hf 5 _ rfl
  rw [cInt] at f0 f1 f2
  rw [cI32] at f3
  rw [cBool] at f4
  rw [cAtt] at f5
  match xs, hlen with
  | [y0, y1, y2, y3, y4, y5], _ =>
    obtain ⟨z0, q0, _, w0⟩ := DataW.trod_int Try.underlying3 f0
    obtain ⟨z1, q1, _, w1⟩ := DataW.trod_int Try.underlying3 f1
    obtain ⟨z2, q2, _, w2⟩ := DataW.trod_int Try.underlying3 f2
    obtain ⟨z3, q3, _, w3⟩ := DataW.trod_int Try.underlying21 f3
    obtain ⟨z4, q4, _⟩ := DataW.trod_bool Try.underlying4 f4
    obtain ⟨a, q5, ha⟩ := trod_att f5
    match cs, hl with
    | [c0, c1, c2, c3, c4, c5, c6, c7], _ =>
      simp at q0 q1 q2 q3 q4
      simp [attV] at q5
      obtain ⟨q5, q6, q7⟩ := q5
      subst q0 q1 q2 q3 q4 q5 q6 q7
      exact ⟨⟨z0, z1, z2, z3, z4, a⟩, rfl, w0, w1, w2, w3, ha⟩
theorem open_op {r : Reach} {b0 : Nat} {v : Value} {d : DataW H} {p : List MemPlace} (hv : Value.okWide Try.prog W r b0 36 v) (h : DataW.Trod enc Try.prog W base spare held 36 v d p) : ∃ o : Opr, v = .agg (opV o).toArray ∧ o.Ok := by
  obtain ⟨cs, rfl, _⟩ := okWide_struct Try.underlying36 hv
  obtain ⟨fuel, hf⟩ := h
  obtain ⟨o, ho, hk⟩ := trod_op hf
  refine ⟨o, ?_, hk⟩
  have : cs.toList = opV o := ho
  rw [← this]
theorem open_att {r : Reach} {b0 : Nat} {v : Value} {d : DataW H} {p : List MemPlace} (hv : Value.okWide Try.prog W r b0 34 v) (h : DataW.Trod enc Try.prog W base spare held 34 v d p) : ∃ a : At, v = .agg (attV a).toArray ∧ a.Ok := by
  obtain ⟨cs, rfl, _⟩ := okWide_struct Try.underlying34 hv
  obtain ⟨fuel, hf⟩ := h
  obtain ⟨o, ho, hk⟩ := trod_att hf
  refine ⟨o, ?_, hk⟩
  have : cs.toList = attV o := ho
  rw [← this]
end
theorem lawNone6 (o : Opr) (_ : o.Ok) (w : World) : Calls Try.prog 6 #[.agg (opV o).toArray] w fun e w' => e = .returned (.bool true) ∧ Below w.heap.size w w' := lawNone o w
end Go.Proofs.Ytnnaagkdlmamjaa.Rw
