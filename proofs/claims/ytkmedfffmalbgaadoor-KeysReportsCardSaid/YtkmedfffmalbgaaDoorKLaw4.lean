/-
  keys: KeysReports.
-/
import Derived.Test.YtkmedfffmalbgaaDoorKRpA
import Derived.Test.YtkmedfffmalbgaaDoorKRpB
namespace Go.Proofs.YtkmedfffmalbgaaDoor.Kys
open Go Go.RowKit Go.Proofs.YtkmedfffmalbgaaDoor.Com Go.Proofs.YtkmedfffmalbgaaDoor.Mds

theorem reports_law (m : Md) (row : Int) (hr : (Lit.int .i64 row).wf = true) (col : Int) (hc : (Lit.int .i64 col).wf = true) (kd : Int) (hk : (Lit.int .u8 kd).wf = true) (W : World) (hT : Tab W) :
    Calls Tryd.prog 4 #[.agg (mA m), .int .i64 row, .int .i64 col, .int .u8 kd] W (Yes W) := by
  have h1 : row ≤ 9223372036854775807 := by
    simp [Lit.wf, IntKind.min, IntKind.max, IntKind.signed, IntKind.bits] at hr
    omega
  have h2 : col ≤ 9223372036854775807 := by
    simp [Lit.wf, IntKind.min, IntKind.max, IntKind.signed, IntKind.bits] at hc
    omega
  have h3 : 0 ≤ kd ∧ kd ≤ 255 := by
    simp [Lit.wf, IntKind.min, IntKind.max, IntKind.signed, IntKind.bits] at hk
    omega
  by_cases h : 2 ≤ kd ∧ kd ≤ 5
  · exact reports_arrow m row col kd h1 h2 h3 h W hT
  · by_cases hk : kd < 2
    · exact reports_low m row col kd h1 h2 h3 h hk W hT
    · exact reports_high m row col kd h1 h2 h3 h (by omega) W hT

end Go.Proofs.YtkmedfffmalbgaaDoor.Kys
