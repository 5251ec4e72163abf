/-
  From the rows' condition (the three variables read as the program's initialisers lay them) to the cells that the walks read; a start that meets it.
-/
import Derived.Test.YtjffiikdfoejhaaDoorRows
import Derived.Test.YtjffiikdfoejhaaDoorSearch
import Derived.ProofKit
import Derived.LaidMore
import Derived.OpenShut
import Derived.Stop.Joined
import Derived.Deep.Strs
import Derived.Lib.LaidTab
namespace Go.Proofs.YtjffiikdfoejhaaDoor.Cht
open Go Go.ChangeShapes Go.WideShapes Go.ChangeAt Go.RowKit Go.Deep

theorem own : ownKnob Tryd.prog.godebug = none := by kernel_rfl
theorem g0 : Tryd.prog.globalNamed "tactile/chartab.widths" = some 0 := by kernel_rfl
theorem g1 : Tryd.prog.globalNamed "tactile/chartab.classes" = some 1 := by kernel_rfl
theorem g2 : Tryd.prog.globalNamed "tactile/chartab.graphics" = some 2 := by kernel_rfl
theorem t0 : (Tryd.prog.globals[0]?).map (·.type) = some 34 := by kernel_rfl
theorem t1 : (Tryd.prog.globals[1]?).map (·.type) = some 35 := by kernel_rfl
theorem t2 : (Tryd.prog.globals[2]?).map (·.type) = some 41 := by kernel_rfl
theorem cSpan : Tryd.prog.cellsOf 33 = 3 := by kernel_rfl
theorem cInt : Tryd.prog.cellsOf 21 = 1 := by kernel_rfl
theorem cByte : Tryd.prog.cellsOf 5 = 1 := by kernel_rfl
theorem cGraph : Tryd.prog.cellsOf 41 = 31 := by kernel_rfl

def rowDatum {H : Type} (x : Int × Int × Int) : DataW H := .agg [.lit (.int .i32 x.1), .lit (.int .i32 x.2.1), .lit (.int .u8 x.2.2)]

/-- An array of rows that reads as the rows l holds them, cell for cell. -/
theorem rows_cells {H : Type} {enc : TypeId × Value → H} {w : World} {base : Nat} {sp : Nat → Bool} {held : Bool} {fuel : Nat} {t n : Nat} {cs : List Value} {l : List (Int × Int × Int)} {p : List MemPlace}
    (ht : Tryd.prog.underlying t = some (.array n 33)) (h : DataW.trod enc Tryd.prog w base sp held fuel t cs = some (.agg (l.map rowDatum), p)) (k : Nat) (hk : k < n) :
    cs[k * 3]? = some (.int .i32 (l.getD k (0, 0, 0)).1) ∧ cs[k * 3 + 1]? = some (.int .i32 (l.getD k (0, 0, 0)).2.1) ∧ cs[k * 3 + 2]? = some (.int .u8 (l.getD k (0, 0, 0)).2.2) := by
  obtain ⟨xs, m, -, hx, -, hn, hel⟩ := DataW.trod_array ht h
  have hk' := hel k hk
  rw [cSpan] at hk'
  have hl : l.map rowDatum = xs.map (·.1) := by
    have := congrArg Prod.fst hx
    simpa using this
  have hlen : l.length = n := by
    have := congrArg List.length hl
    simpa [hn] using this
  have hkl : k < l.length := by omega
  have hkx : k < xs.length := by omega
  rw [List.getElem?_eq_getElem hkx] at hk'
  have hd : rowDatum (l[k]'hkl) = (xs[k]'hkx).1 := by
    have := congrArg (·[k]?) hl
    simpa [hkl, hkx] using this
  obtain ⟨y0, y1, y2, m', hy, -, e0, e1, e2⟩ := trod_struct3 Tryd.underlying33 hk'
  rw [cInt] at e0 e1
  rw [cByte] at e2
  obtain ⟨z0, q0, rfl, -⟩ := DataW.trod_int Tryd.underlying21 e0
  obtain ⟨z1, q1, rfl, -⟩ := DataW.trod_int Tryd.underlying21 e1
  obtain ⟨z2, q2, rfl, -⟩ := DataW.trod_int Tryd.underlying5 e2
  rw [hy] at hd
  simp only [rowDatum, DataW.agg.injEq, List.cons.injEq, DataW.lit.injEq, Lit.int.injEq, true_and, and_true] at hd
  obtain ⟨d0, d1, d2⟩ := hd
  have hg : l.getD k (0, 0, 0) = l[k]'hkl := by simp [List.getD, hkl]
  rw [hg, d0, d1, d2]
  refine ⟨?_, ?_, ?_⟩
  · have := congrArg (·[0]?) q0
    simpa [List.getElem?_take, List.getElem?_drop] using this
  · have := congrArg (·[0]?) q1
    simpa [List.getElem?_take, List.getElem?_drop] using this
  · have := congrArg (·[0]?) q2
    simpa [List.getElem?_take, List.getElem?_drop] using this

theorem size_of_cell {w : World} {a : Addr} {v : Value} (h : w.cell? a = some v) : a.block < w.heap.size := by
  unfold World.cell? at h
  by_cases c : a.block < w.heap.size
  · exact c
  · rw [Array.getElem?_eq_none (by omega)] at h
    cases h

def laid3 : List (String × DataW Unit) := [("tactile/chartab.widths", Rows.laid_tactile_chartab_widths), ("tactile/chartab.classes", Rows.laid_tactile_chartab_classes), ("tactile/chartab.graphics", Rows.laid_tactile_chartab_graphics)]

theorem tabs_of_laid {W : World} (h : laidMetH Tryd.prog laid3 W) : Tabs W := by
  rw [MakeChecks.laidMetH_plain _ _ _ (by kernel_rfl)] at h
  obtain ⟨ps, ⟨i0, u0, cs0, f0, p0, q0, hg0, ht0, hv0, hd0, ⟨i1, u1, cs1, f1, p1, q1, hg1, ht1, hv1, hd1, ⟨i2, u2, cs2, f2, p2, q2, hg2, ht2, hv2, hd2, _, _⟩, _⟩, _⟩, _, _⟩ := h
  obtain rfl := Option.some.inj (g0.symm.trans hg0)
  obtain rfl := Option.some.inj (g1.symm.trans hg1)
  obtain rfl := Option.some.inj (g2.symm.trans hg2)
  obtain rfl := Option.some.inj (t0.symm.trans ht0)
  obtain rfl := Option.some.inj (t1.symm.trans ht1)
  obtain rfl := Option.some.inj (t2.symm.trans ht2)
  have r0 := rows_cells (l := wrows) Tryd.underlying34 (show _ = some (DataW.agg (wrows.map rowDatum), p0) from hd0)
  have r1 := rows_cells (l := crows) Tryd.underlying35 (show _ = some (DataW.agg (crows.map rowDatum), p1) from hd1)
  have r2 := Lib.cells_of_tab (zs := graphs) Tryd.underlying41 Tryd.underlying21 cInt cGraph (show _ = some (Lib.tabData .i32 graphs, p2) from hd2)
  have hgr : ∀ k, k < 31 → W.cell? ⟨2, k, none⟩ = some (.int .i32 (graphs.getD k 0)) := fun k hk => by
    have hk' : k < graphs.length := hk
    rw [World.var?_cell g2 hv2 k, ← Array.getElem?_toList, r2]
    simp [List.getD, hk']
  refine ⟨?_, fun k hk => ?_, fun k hk => ?_, hgr⟩
  · have := size_of_cell (hgr 0 (by omega))
    exact this
  · obtain ⟨a, b, c⟩ := r0 k hk
    exact ⟨by rw [World.var?_cell g0 hv0, ← Array.getElem?_toList]; exact a, by rw [World.var?_cell g0 hv0, ← Array.getElem?_toList]; exact b, by rw [World.var?_cell g0 hv0, ← Array.getElem?_toList]; exact c⟩
  · obtain ⟨a, b, c⟩ := r1 k hk
    exact ⟨by rw [World.var?_cell g1 hv1, ← Array.getElem?_toList]; exact a, by rw [World.var?_cell g1 hv1, ← Array.getElem?_toList]; exact b, by rw [World.var?_cell g1 hv1, ← Array.getElem?_toList]; exact c⟩

/-- The door's own heap meets the condition. -/
theorem door_met (os : Os) (args : Array Value) : laidMetH Tryd.prog laid3 ((World.doorLaid Tryd.prog 400 os).forCall (fun _ _ => 0) ⟨#[], args, []⟩).memory :=
  laidMetH_of_parts3 (fuel := 8) (laidMet_of_run' 8 (by kernel_rfl) (by kernel_rfl)) (by kernel_rfl) (by kernel_rfl)

end Go.Proofs.YtjffiikdfoejhaaDoor.Cht
