/-
  modes: flags as a law's argument.
-/
import Derived.Test.YtkmedfffmalbgaaDoorRows
import Derived.Test.YtkmedfffmalbgaaDoorMLeaf
import Derived.ProofKit
import Derived.OpenShut
import Derived.Stop.Joined
import Derived.Lib.SmallJoins
namespace Go.Proofs.YtkmedfffmalbgaaDoor.Mds
open Go Go.ChangeShapes Go.WideShapes Go.ChangeAt Go.RowKit Go.Joins

theorem own : ownKnob Tryd.prog.godebug = none := by kernel_rfl
theorem cellsM : Tryd.prog.cellsOf 23 = 8 := by kernel_rfl
theorem cellsB : Tryd.prog.cellsOf 4 = 1 := by kernel_rfl
section
variable {H : Type} {enc : TypeId × Value → H} {W : World} {base : Nat} {spare : Nat → Bool} {held : Bool}
theorem trod_flag {fuel : Nat} {v : Value} {y : DataW H × List MemPlace} (h : DataW.trod enc Tryd.prog W base spare held fuel 4 [v] = some y) : ∃ b : Bool, v = .bool b := by
  obtain ⟨b, q, _⟩ := DataW.trod_bool Tryd.underlying4 h
  exact ⟨b, by simpa using q⟩
set_option maxRecDepth 100000 in
theorem trod_md {fuel : Nat} {cs : List Value} {x : DataW H × List MemPlace} (h : DataW.trod enc Tryd.prog W base spare held fuel 23 cs = some x) : ∃ m : Md, cs = (mA m).toList := by
  obtain ⟨xs, n, _, hx, hl, hlen, hf⟩ := DataW.trod_struct Tryd.underlying23 h
  rw [cellsM] at hl
  have f0 : DataW.trod enc Tryd.prog W base spare held n 4 ((cs.drop 0).take (Tryd.prog.cellsOf 4)) = xs[0]? := hf 0 _ rfl
  have f1 : DataW.trod enc Tryd.prog W base spare held n 4 ((cs.drop 1).take (Tryd.prog.cellsOf 4)) = xs[1]? := hf 1 _ rfl
  have f2 : DataW.trod enc Tryd.prog W base spare held n 4 ((cs.drop 2).take (Tryd.prog.cellsOf 4)) = xs[2]? := hf 2 _ rfl
  have f3 : DataW.trod enc Tryd.prog W base spare held n 4 ((cs.drop 3).take (Tryd.prog.cellsOf 4)) = xs[3]? := hf 3 _ rfl
  have f4 : DataW.trod enc Tryd.prog W base spare held n 4 ((cs.drop 4).take (Tryd.prog.cellsOf 4)) = xs[4]? := hf 4 _ rfl
  have f5 : DataW.trod enc Tryd.prog W base spare held n 4 ((cs.drop 5).take (Tryd.prog.cellsOf 4)) = xs[5]? := hf 5 _ rfl
  have f6 : DataW.trod enc Tryd.prog W base spare held n 4 ((cs.drop 6).take (Tryd.prog.cellsOf 4)) = xs[6]? := hf 6 _ rfl
  have f7 : DataW.trod enc Tryd.prog W base spare held n 4 ((cs.drop 7).take (Tryd.prog.cellsOf 4)) = xs[7]? := hf 7 _ rfl
  rw [cellsB] at f0 f1 f2 f3 f4 f5 f6 f7
  match xs, hlen with
  | [y0, y1, y2, y3, y4, y5, y6, y7], _ =>
    match cs, hl with
    | [c0, c1, c2, c3, c4, c5, c6, c7], _ =>
      obtain ⟨z0, rfl⟩ := trod_flag f0
      obtain ⟨z1, rfl⟩ := trod_flag f1
      obtain ⟨z2, rfl⟩ := trod_flag f2
      obtain ⟨z3, rfl⟩ := trod_flag f3
      obtain ⟨z4, rfl⟩ := trod_flag f4
      obtain ⟨z5, rfl⟩ := trod_flag f5
      obtain ⟨z6, rfl⟩ := trod_flag f6
      obtain ⟨z7, rfl⟩ := trod_flag f7
      exact ⟨⟨z0, z1, z2, z3, z4, z5, z6, z7⟩, rfl⟩
theorem open_md {r : Reach} {b0 : Nat} {v : Value} {d : DataW H} {p : List MemPlace} (hv : Value.okWide Tryd.prog W r b0 23 v) (h : DataW.Trod enc Tryd.prog W base spare held 23 v d p) : ∃ m : Md, v = .agg (mA m) := by
  obtain ⟨cs, rfl, _⟩ := okWide_struct Tryd.underlying23 hv
  obtain ⟨fuel, hf⟩ := h
  obtain ⟨m, hk⟩ := trod_md hf
  exact ⟨m, by obtain ⟨l⟩ := cs; simp only [Value.cells] at hk; subst hk; rfl⟩
end

end Go.Proofs.YtkmedfffmalbgaaDoor.Mds
