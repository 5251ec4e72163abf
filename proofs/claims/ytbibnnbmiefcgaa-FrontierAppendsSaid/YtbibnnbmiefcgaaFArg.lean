/-
  frontier: events and bools as arguments.
-/
import Derived.Test.YtbibnnbmiefcgaaRows
import Derived.Test.YtbibnnbmiefcgaaFLeaf
import Derived.ProofKit
import Derived.LaidMore
import Derived.OpenShut
import Derived.Stop.Joined
import Derived.Deep.Strs
import Derived.Deep.Slices
namespace Go.Proofs.Ytbibnnbmiefcgaa.Fro
open Go Go.ChangeShapes Go.WideShapes Go.ChangeAt Go.RowKit Go.Deep Go.Proofs.Ytbibnnbmiefcgaa.Com

theorem own : ownKnob Try.prog.godebug = none := by kernel_rfl
theorem laidOut : laidOutB Try.prog = true := by kernel_rfl
theorem cInt : Try.prog.cellsOf 3 = 1 := by kernel_rfl
theorem cI32 : Try.prog.cellsOf 21 = 1 := by kernel_rfl
theorem cU64 : Try.prog.cellsOf 27 = 1 := by kernel_rfl
theorem cU8 : Try.prog.cellsOf 5 = 1 := by kernel_rfl
theorem cBool : Try.prog.cellsOf 4 = 1 := by kernel_rfl
theorem cEv : Try.prog.cellsOf 29 = 10 := by kernel_rfl
section
variable {H : Type} {enc : TypeId × Value → H} {W : World} {base : Nat} {spare : Nat → Bool} {held : Bool}
theorem in_u8 {n : Int} (h : (Lit.int .u8 n).wf = true) : 0 ≤ n ∧ n ≤ 255 := by
  simp [Lit.wf, IntKind.min, IntKind.max, IntKind.signed, IntKind.bits] at h
  omega
set_option maxRecDepth 100000 in
theorem trod_ev {fuel : Nat} {cs : List Value} {x : DataW H × List MemPlace} (h : DataW.trod enc Try.prog W base spare held fuel 29 cs = some x) : ∃ e : Ev, cs = evL e ∧ e.Ok := by
  obtain ⟨xs, n, _, hx, hl, hlen, hf⟩ := DataW.trod_struct Try.underlying29 h
  rw [cEv] at hl
  have f0 : DataW.trod enc Try.prog W base spare held n 5 ((cs.drop 0).take (Try.prog.cellsOf 5)) = xs[0]? := hf 0 _ rfl
  have f1 : DataW.trod enc Try.prog W base spare held n 27 ((cs.drop 1).take (Try.prog.cellsOf 27)) = xs[1]? := hf 1 _ rfl
  have f2 : DataW.trod enc Try.prog W base spare held n 3 ((cs.drop 2).take (Try.prog.cellsOf 3)) = xs[2]? := hf 2 _ rfl
  have f3 : DataW.trod enc Try.prog W base spare held n 3 ((cs.drop 3).take (Try.prog.cellsOf 3)) = xs[3]? := hf 3 _ rfl
  have f4 : DataW.trod enc Try.prog W base spare held n 4 ((cs.drop 4).take (Try.prog.cellsOf 4)) = xs[4]? := hf 4 _ rfl
  have f5 : DataW.trod enc Try.prog W base spare held n 21 ((cs.drop 5).take (Try.prog.cellsOf 21)) = xs[5]? := hf 5 _ rfl
  have f6 : DataW.trod enc Try.prog W base spare held n 4 ((cs.drop 6).take (Try.prog.cellsOf 4)) = xs[6]? := hf 6 _ rfl
  have f7 : DataW.trod enc Try.prog W base spare held n 4 ((cs.drop 7).take (Try.prog.cellsOf 4)) = xs[7]? := hf 7 _ rfl
  have f8 : DataW.trod enc Try.prog W base spare held n 4 ((cs.drop 8).take (Try.prog.cellsOf 4)) = xs[8]? := hf 8 _ rfl
  have f9 : DataW.trod enc Try.prog W base spare held n 4 ((cs.drop 9).take (Try.prog.cellsOf 4)) = xs[9]? := hf 9 _ rfl
  rw [cU8] at f0
  rw [cU64] at f1
  rw [cInt] at f2 f3
  rw [cI32] at f5
  rw [cBool] at f4 f6 f7 f8 f9
  match xs, hlen with
  | [y0, y1, y2, y3, y4, y5, y6, y7, y8, y9], _ =>
    obtain ⟨z0, q0, _, w0⟩ := DataW.trod_int Try.underlying5 f0
    obtain ⟨z1, q1, _, w1⟩ := DataW.trod_int Try.underlying27 f1
    obtain ⟨z2, q2, _, w2⟩ := DataW.trod_int Try.underlying3 f2
    obtain ⟨z3, q3, _, w3⟩ := DataW.trod_int Try.underlying3 f3
    obtain ⟨z4, q4, _⟩ := DataW.trod_bool Try.underlying4 f4
    obtain ⟨z5, q5, _, w5⟩ := DataW.trod_int Try.underlying21 f5
    obtain ⟨z6, q6, _⟩ := DataW.trod_bool Try.underlying4 f6
    obtain ⟨z7, q7, _⟩ := DataW.trod_bool Try.underlying4 f7
    obtain ⟨z8, q8, _⟩ := DataW.trod_bool Try.underlying4 f8
    obtain ⟨z9, q9, _⟩ := DataW.trod_bool Try.underlying4 f9
    match cs, hl with
    | [c0, c1, c2, c3, c4, c5, c6, c7, c8, c9], _ =>
      simp at q0 q1 q2 q3 q4 q5 q6 q7 q8 q9
      subst q0 q1 q2 q3 q4 q5 q6 q7 q8 q9
      exact ⟨⟨z0, z1, z2, z3, z4, z5, z6, z7, z8, z9⟩, rfl, in_u8 w0⟩
end
theorem add_zero (a : Addr) : a.add 0 = a := by simp [Addr.add]
/-- The events lie there, one behind the other. -/
def EvsAt (w : World) (ao : Option Addr) (l : List Ev) : Prop := ∀ i e, l[i]? = some e → ∃ ad, ao = some ad ∧ ad.block < w.heap.size ∧ ∀ j v, (evL e)[j]? = some v → w.cell? ((ad.add (i * 10)).add j) = some v
theorem evs_in {H : Type} {enc : TypeId × Value → H} {W : World} {a : Option Addr} {n c : Nat} {d : DataW H} {p : List MemPlace}
    (h : DataW.Trod enc Try.prog W 0 (fun _ => true) true 22 (.slice a n c) d p) : ∃ l : List Ev, l.length = n ∧ l.length ≤ c ∧ c ≤ maxLen ∧ EvsAt W a l ∧ ∀ e ∈ l, e.Ok := by
  obtain ⟨fuel, hf⟩ := h
  rcases open_slice Try.underlying22 hf with ⟨hcs, _⟩ | ⟨x, l, cp, m, k, D, Pl, hcs, _, hl, hm, hmm, _, hx⟩
  · simp [Value.cells] at hcs
    obtain ⟨rfl, rfl, rfl⟩ := hcs
    exact ⟨[], rfl, Nat.le_refl _, by simp [maxLen], fun i o h => by simp at h, by simp⟩
  · simp [Value.cells] at hcs
    obtain ⟨rfl, rfl, rfl⟩ := hcs
    simp only [if_true] at hmm
    subst hmm
    rw [cEv] at hx
    obtain ⟨V, hV⟩ := choose_lt (α := Ev) (n := n) (p := fun i o => W.cells? 0 (x.add (i * 10)) 10 = some (evL o) ∧ o.Ok) (fun i hi => by
      obtain ⟨cs', h1, h2⟩ := hx i (by omega)
      obtain ⟨o, rfl, hk⟩ := trod_ev h2
      exact ⟨o, h1, hk⟩)
    refine ⟨(List.range n).map V, by simp, by simpa using hl, hm, fun i o hi => ?_, fun o ho => ?_⟩
    · obtain ⟨hin, rfl⟩ : i < n ∧ V i = o := by
        rw [List.getElem?_map] at hi
        rcases Nat.lt_or_ge i n with hh | hh
        · rw [List.getElem?_range hh] at hi
          exact ⟨hh, by simpa using hi⟩
        · rw [List.getElem?_eq_none (by simpa using hh)] at hi
          simp at hi
      obtain ⟨h1, _⟩ := hV i hin
      obtain ⟨_, _, hcell⟩ := World.cells?_some h1
      refine ⟨x, rfl, ?_, fun j v hv => ?_⟩
      · have h0 := hcell 0 (by omega)
        rw [show (evL (V i))[0]? = some (.int .u8 (V i).k) from rfl] at h0
        have hlt := World.block_lt_of_cell? _ _ h0
        rw [ChangeShapes.block_add, ChangeShapes.block_add] at hlt
        exact hlt
      · have hj : j < 10 := by
          have := (List.getElem?_eq_some_iff.1 hv).1
          rwa [evL_len] at this
        rw [hcell j hj]
        exact hv
    · obtain ⟨i, hi, rfl⟩ := List.mem_map.1 ho
      exact (hV i (List.mem_range.1 hi)).2
theorem EvsAt.below {w w' : World} {ao : Option Addr} {l : List Ev} (h : EvsAt w ao l) (hb : Below w.heap.size w w') : EvsAt w' ao l := fun i o hi => by
  obtain ⟨ad, rfl, hlt, hc⟩ := h i o hi
  refine ⟨ad, rfl, Nat.lt_of_lt_of_le hlt hb.size, fun j v hv => ?_⟩
  exact (World.cell?_of_block (w := w) (hb.block _ (by rw [ChangeShapes.block_add, ChangeShapes.block_add]; exact hlt))).trans (hc j v hv)
/-- Bools that lie there. -/
def BsAt (w : World) (ao : Option Addr) (l : List Bool) : Prop := ∀ i b, l[i]? = some b → ∃ ad, ao = some ad ∧ ad.block < w.heap.size ∧ w.cell? (ad.add i) = some (.bool b)
theorem BsAt.below {w w' : World} {ao : Option Addr} {l : List Bool} (h : BsAt w ao l) (hb : Below w.heap.size w w') : BsAt w' ao l := fun i o hi => by
  obtain ⟨ad, rfl, hlt, hc⟩ := h i o hi
  exact ⟨ad, rfl, Nat.lt_of_lt_of_le hlt hb.size, (World.cell?_of_block (w := w) (hb.block _ (by rw [ChangeShapes.block_add]; exact hlt))).trans hc⟩
theorem bs_in {H : Type} {enc : TypeId × Value → H} {W : World} {a : Option Addr} {n c : Nat} {d : DataW H} {p : List MemPlace}
    (h : DataW.Trod enc Try.prog W 0 (fun _ => true) true 23 (.slice a n c) d p) : ∃ l : List Bool, l.length = n ∧ l.length ≤ c ∧ c ≤ maxLen ∧ BsAt W a l := by
  obtain ⟨fuel, hf⟩ := h
  rcases open_slice Try.underlying23 hf with ⟨hcs, _⟩ | ⟨x, l, cp, m, k, D, Pl, hcs, _, hl, hm, hmm, _, hx⟩
  · simp [Value.cells] at hcs
    obtain ⟨rfl, rfl, rfl⟩ := hcs
    exact ⟨[], rfl, Nat.le_refl _, by simp [maxLen], fun i o h => by simp at h⟩
  · simp [Value.cells] at hcs
    obtain ⟨rfl, rfl, rfl⟩ := hcs
    simp only [if_true] at hmm
    subst hmm
    rw [cBool] at hx
    obtain ⟨V, hV⟩ := choose_lt (α := Bool) (n := n) (p := fun i o => W.cells? 0 (x.add (i * 1)) 1 = some [.bool o]) (fun i hi => by
      obtain ⟨cs', h1, h2⟩ := hx i (by omega)
      obtain ⟨z, q, _⟩ := DataW.trod_bool Try.underlying4 h2
      subst q
      exact ⟨z, h1⟩)
    refine ⟨(List.range n).map V, by simp, by simpa using hl, hm, fun i o hi => ?_⟩
    obtain ⟨hin, rfl⟩ : i < n ∧ V i = o := by
      rw [List.getElem?_map] at hi
      rcases Nat.lt_or_ge i n with hh | hh
      · rw [List.getElem?_range hh] at hi
        exact ⟨hh, by simpa using hi⟩
      · rw [List.getElem?_eq_none (by simpa using hh)] at hi
        simp at hi
    have h1 := hV i hin
    obtain ⟨_, _, hcell⟩ := World.cells?_some h1
    have h0 := hcell 0 (by omega)
    rw [show ([Value.bool (V i)])[0]? = some (.bool (V i)) from rfl, Nat.mul_one, add_zero] at h0
    have hlt := World.block_lt_of_cell? _ _ h0
    rw [ChangeShapes.block_add] at hlt
    exact ⟨x, rfl, hlt, h0⟩
theorem infoE (e : Ev) : (Try.prog.info? 29).map (·.size) = some (evL e).length := by kernel_rfl
end Go.Proofs.Ytbibnnbmiefcgaa.Fro
