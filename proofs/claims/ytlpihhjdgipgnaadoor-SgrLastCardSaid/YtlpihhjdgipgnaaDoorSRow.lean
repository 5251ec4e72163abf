/-
  sgr: from the rows' condition (the table of the flags reads as the program's initialiser lays it) to the cells that the walks read; a start that meets it; an attribute as an argument.
-/
import Derived.Test.YtlpihhjdgipgnaaDoorRows
import Derived.Test.YtlpihhjdgipgnaaDoorSLeaf
import Derived.ProofKit
import Derived.LaidMore
import Derived.OpenShut
import Derived.Stop.Joined
import Derived.Deep.Strs
import Derived.Lib.LaidTab
namespace Go.Proofs.YtlpihhjdgipgnaaDoor.Sgr
open Go Go.ChangeShapes Go.WideShapes Go.ChangeAt Go.RowKit Go.Deep

theorem own : ownKnob Tryd.prog.godebug = none := by kernel_rfl
theorem laidOut : laidOutB Tryd.prog = true := by kernel_rfl
theorem g0 : Tryd.prog.globalNamed "tactile/sgr.flags" = some 0 := by kernel_rfl
theorem t0 : (Tryd.prog.globals[0]?).map (·.type) = some 49 := by kernel_rfl
theorem cInt : Tryd.prog.cellsOf 3 = 1 := by kernel_rfl
theorem cU32 : Tryd.prog.cellsOf 22 = 1 := by kernel_rfl
theorem cU16 : Tryd.prog.cellsOf 23 = 1 := by kernel_rfl
theorem cTab : Tryd.prog.cellsOf 49 = 8 := by kernel_rfl
theorem cAtt : Tryd.prog.cellsOf 25 = 3 := by kernel_rfl

theorem size_of_cell {w : World} {a : Addr} {v : Value} (h : w.cell? a = some v) : a.block < w.heap.size := by
  unfold World.cell? at h
  by_cases c : a.block < w.heap.size
  · exact c
  · rw [Array.getElem?_eq_none (by omega)] at h
    cases h

def laid1 : List (String × DataW Unit) := [("tactile/sgr.flags", Rows.laid_tactile_sgr_flags)]

theorem tabs_of_laid {W : World} (h : laidMetH Tryd.prog laid1 W) : Tab W := by
  rw [MakeChecks.laidMetH_plain _ _ _ (by kernel_rfl)] at h
  obtain ⟨ps, ⟨i0, u0, cs0, f0, p0, q0, hg0, ht0, hv0, hd0, _, _⟩, _, _⟩ := h
  obtain rfl := Option.some.inj (g0.symm.trans hg0)
  obtain rfl := Option.some.inj (t0.symm.trans ht0)
  have r0 := Lib.cells_of_tab (zs := tab) Tryd.underlying49 Tryd.underlying3 cInt cTab (show _ = some (Lib.tabData .i64 tab, p0) from hd0)
  have hgr : ∀ k, k < 8 → W.cell? ⟨0, k, none⟩ = some (.int .i64 (tab.getD k 0)) := fun k hk => by
    have hk' : k < tab.length := hk
    rw [World.var?_cell g0 hv0 k, ← Array.getElem?_toList, r0]
    simp [List.getD, hk']
  exact ⟨size_of_cell (hgr 0 (by omega)), hgr⟩

/-- The door's own heap meets the condition. -/
theorem door_met (os : Os) (args : Array Value) : laidMetH Tryd.prog laid1 ((World.doorLaid Tryd.prog 400 os).forCall (fun _ _ => 0) ⟨#[], args, []⟩).memory :=
  laidMetH_of_parts3 (fuel := 8) (laidMet_of_run' 8 (by kernel_rfl) (by kernel_rfl)) (by kernel_rfl) (by kernel_rfl)

section
variable {H : Type} {enc : TypeId × Value → H} {W : World}
/-- What an attribute reads as. -/
def attD (a : At) : DataW H := .agg [.lit (.int .u32 a.f), .lit (.int .u32 a.b), .lit (.int .u16 a.g)]
theorem open_att {v : Value} {d : DataW H} {p : List MemPlace} (hv : Value.okWide Tryd.prog W .any 0 25 v) (h : DataW.Trod enc Tryd.prog W 0 (fun _ => true) true 25 v d p) :
    ∃ a : At, v = .agg #[.int .u32 a.f, .int .u32 a.b, .int .u16 a.g] ∧ d = attD a ∧ p = [] ∧ (Lit.int .u32 a.f).wf = true ∧ (Lit.int .u32 a.b).wf = true ∧ (Lit.int .u16 a.g).wf = true := by
  obtain ⟨cs, rfl, hsz⟩ := okWide_struct Tryd.underlying25 hv
  rw [cAtt] at hsz
  obtain ⟨fuel, hf⟩ := h
  obtain ⟨y0, y1, y2, m', hy, -, e0, e1, e2⟩ := trod_struct3 Tryd.underlying25 hf
  rw [cU32] at e0 e1
  rw [cU16] at e2
  obtain ⟨z0, q0, rfl, w0⟩ := DataW.trod_int Tryd.underlying22 e0
  obtain ⟨z1, q1, rfl, w1⟩ := DataW.trod_int Tryd.underlying22 e1
  obtain ⟨z2, q2, rfl, w2⟩ := DataW.trod_int Tryd.underlying23 e2
  obtain ⟨l⟩ := cs
  simp only [Value.cells] at q0 q1 q2
  match l, hsz with
  | [x, y, z], _ =>
    simp at q0 q1 q2 hy
    subst q0
    subst q1
    subst q2
    exact ⟨⟨z0, z1, z2⟩, rfl, hy.1, hy.2, w0, w1, w2⟩
theorem shut_att {sp : Nat → Bool} {a : At} (w0 : (Lit.int .u32 a.f).wf = true) (w1 : (Lit.int .u32 a.b).wf = true) (w2 : (Lit.int .u16 a.g).wf = true) :
    DataW.Trod enc Tryd.prog W 0 sp true 25 (.agg #[.int .u32 a.f, .int .u32 a.b, .int .u16 a.g]) (attD a) [] := by
  have h0 : DataW.trod enc Tryd.prog W 0 sp true 1 22 [.int .u32 a.f] = some (.lit (.int .u32 a.f), []) := by simp [DataW.trod, Tryd.underlying22, w0]
  have h1 : DataW.trod enc Tryd.prog W 0 sp true 1 22 [.int .u32 a.b] = some (.lit (.int .u32 a.b), []) := by simp [DataW.trod, Tryd.underlying22, w1]
  have h2 : DataW.trod enc Tryd.prog W 0 sp true 1 23 [.int .u16 a.g] = some (.lit (.int .u16 a.g), []) := by simp [DataW.trod, Tryd.underlying23, w2]
  refine ⟨2, ?_⟩
  have := trod_struct3_mk (enc := enc) (w := W) (base := 0) (spare := sp) (held := true) (n := 1) (cs := [.int .u32 a.f, .int .u32 a.b, .int .u16 a.g]) (y0 := (.lit (.int .u32 a.f), [])) (y1 := (.lit (.int .u32 a.b), [])) (y2 := (.lit (.int .u16 a.g), [])) Tryd.underlying25 (by rw [cAtt]; rfl) (by rw [cU32]; exact h0) (by rw [cU32]; exact h1) (by rw [cU16]; exact h2)
  exact this
theorem att_ok {a : At} (w0 : (Lit.int .u32 a.f).wf = true) (w1 : (Lit.int .u32 a.b).wf = true) (w2 : (Lit.int .u16 a.g).wf = true) : a.Ok := by
  have h0 := bounds_u32 w0
  have h1 := bounds_u32 w1
  have h2 := bounds_u16 w2
  exact ⟨h0.1, h0.2, h1.1, h1.2, h2.1, h2.2⟩
end

end Go.Proofs.YtlpihhjdgipgnaaDoor.Sgr
