/-
  NARROWER THAN 'FOR EVERY INPUT', by the rows' own cells (each row's printed sentence says how): ChartabMay: laid · ChartabWidth: laid · ChartabClass: laid · ChartabCase: laid · ChartabCharset: laid · ChartabName: laid · ChartabFits: laid · ChartabTurns: laid.
  DERIVED. THE GIVEN ROWS OF THIS SEAT. 8 by the template 'for every input the law returns true; each argument reads behind the call as it read before'; 0 by the template 'total and deterministic' (their statements: YtjffiikdfoejhaaDoorTotals.lean).
  GIVEN WITH THE SEED: the statements are not yours to turn. If you find one false, say at which input.
  Laid BY PROGRAM, IN A SANDBOX (cutbox-rows.mjs): the forced cells as the released guide's own fill.sh prints them over the translation 79b48b619fa82042… (all of the seat's roots in one cut). By AI agents, Wed Nov 11 2026. No macro, syntax, notation, axiom, sorry.
-/
import Derived.Test.YtjffiikdfoejhaaDoorChecked
import GoSem.Claim
import GoSem.ClaimJoined
import GoSem.ClaimMapViews
import Derived.JoinedTies
import Derived.KernelRfl
namespace Go.Proofs.YtjffiikdfoejhaaDoor
/- THE CELL 'sum', in the pinned program and in every row, IS THE sha256 OF THE DUMP (.gsa) THAT YtjffiikdfoejhaaDoorProg.lean LOADS. Nothing in Lean hashes anything: it is a label: what it is worth is what the hold of that sum in a sandbox is worth. -/
noncomputable def Tryd.pinned : Pinned := { name := "ytjffiikdfoejhaadoor", sum := "79b48b619fa8204298da384974d0e2ab3ec3eddcd6afaa71ce161e7883402505", checked := Tryd.checked }
namespace Rows
def none {H : Type} : Left H := { results := [], args := [] }

/- WHAT THE LISTED PACKAGE-LEVEL VARIABLES READ AS WHEN THE CALL BEGINS. Each datum BY PROGRAM (the guide's laid-datum.mjs) off the statement by which the dump's own 'gosem.cut.vars' lays the variable. In a bare row this is a premise. The card (YtjffiikdfoejhaaDoorCards.lean) ties it to the program's text. -/
def laid_tactile_chartab_widths {H : Type} : DataW H := .agg [.agg [.lit (.int .i32 0), .lit (.int .i32 31), .lit (.int .u8 0)], .agg [.lit (.int .i32 127), .lit (.int .i32 159), .lit (.int .u8 0)], .agg [.lit (.int .i32 768), .lit (.int .i32 879), .lit (.int .u8 0)], .agg [.lit (.int .i32 1155), .lit (.int .i32 1161), .lit (.int .u8 0)], .agg [.lit (.int .i32 1425), .lit (.int .i32 1469), .lit (.int .u8 0)], .agg [.lit (.int .i32 1552), .lit (.int .i32 1562), .lit (.int .u8 0)], .agg [.lit (.int .i32 1611), .lit (.int .i32 1631), .lit (.int .u8 0)], .agg [.lit (.int .i32 3633), .lit (.int .i32 3633), .lit (.int .u8 0)], .agg [.lit (.int .i32 3636), .lit (.int .i32 3642), .lit (.int .u8 0)], .agg [.lit (.int .i32 3655), .lit (.int .i32 3662), .lit (.int .u8 0)], .agg [.lit (.int .i32 4352), .lit (.int .i32 4447), .lit (.int .u8 2)], .agg [.lit (.int .i32 6832), .lit (.int .i32 6911), .lit (.int .u8 0)], .agg [.lit (.int .i32 7616), .lit (.int .i32 7679), .lit (.int .u8 0)], .agg [.lit (.int .i32 8203), .lit (.int .i32 8207), .lit (.int .u8 0)], .agg [.lit (.int .i32 8400), .lit (.int .i32 8447), .lit (.int .u8 0)], .agg [.lit (.int .i32 11904), .lit (.int .i32 12350), .lit (.int .u8 2)], .agg [.lit (.int .i32 12353), .lit (.int .i32 42191), .lit (.int .u8 2)], .agg [.lit (.int .i32 44032), .lit (.int .i32 55203), .lit (.int .u8 2)], .agg [.lit (.int .i32 63744), .lit (.int .i32 64255), .lit (.int .u8 2)], .agg [.lit (.int .i32 65024), .lit (.int .i32 65039), .lit (.int .u8 0)], .agg [.lit (.int .i32 65056), .lit (.int .i32 65071), .lit (.int .u8 0)], .agg [.lit (.int .i32 65072), .lit (.int .i32 65135), .lit (.int .u8 2)], .agg [.lit (.int .i32 65280), .lit (.int .i32 65376), .lit (.int .u8 2)], .agg [.lit (.int .i32 65504), .lit (.int .i32 65510), .lit (.int .u8 2)], .agg [.lit (.int .i32 127744), .lit (.int .i32 128591), .lit (.int .u8 2)], .agg [.lit (.int .i32 129280), .lit (.int .i32 129535), .lit (.int .u8 2)], .agg [.lit (.int .i32 131072), .lit (.int .i32 196605), .lit (.int .u8 2)], .agg [.lit (.int .i32 196608), .lit (.int .i32 262141), .lit (.int .u8 2)], .agg [.lit (.int .i32 917760), .lit (.int .i32 917999), .lit (.int .u8 0)]]
def laid_tactile_chartab_classes {H : Type} : DataW H := .agg [.agg [.lit (.int .i32 32), .lit (.int .i32 32), .lit (.int .u8 1)], .agg [.lit (.int .i32 48), .lit (.int .i32 57), .lit (.int .u8 2)], .agg [.lit (.int .i32 65), .lit (.int .i32 90), .lit (.int .u8 4)], .agg [.lit (.int .i32 97), .lit (.int .i32 122), .lit (.int .u8 3)], .agg [.lit (.int .i32 160), .lit (.int .i32 160), .lit (.int .u8 1)], .agg [.lit (.int .i32 192), .lit (.int .i32 214), .lit (.int .u8 4)], .agg [.lit (.int .i32 216), .lit (.int .i32 222), .lit (.int .u8 4)], .agg [.lit (.int .i32 223), .lit (.int .i32 246), .lit (.int .u8 3)], .agg [.lit (.int .i32 248), .lit (.int .i32 255), .lit (.int .u8 3)], .agg [.lit (.int .i32 8192), .lit (.int .i32 8202), .lit (.int .u8 1)], .agg [.lit (.int .i32 8239), .lit (.int .i32 8239), .lit (.int .u8 1)], .agg [.lit (.int .i32 8287), .lit (.int .i32 8287), .lit (.int .u8 1)], .agg [.lit (.int .i32 12288), .lit (.int .i32 12288), .lit (.int .u8 1)]]
def laid_tactile_chartab_graphics {H : Type} : DataW H := .agg [.lit (.int .i32 9670), .lit (.int .i32 9618), .lit (.int .i32 9225), .lit (.int .i32 9228), .lit (.int .i32 9229), .lit (.int .i32 9226), .lit (.int .i32 176), .lit (.int .i32 177), .lit (.int .i32 9252), .lit (.int .i32 9227), .lit (.int .i32 9496), .lit (.int .i32 9488), .lit (.int .i32 9484), .lit (.int .i32 9492), .lit (.int .i32 9532), .lit (.int .i32 9146), .lit (.int .i32 9147), .lit (.int .i32 9472), .lit (.int .i32 9148), .lit (.int .i32 9149), .lit (.int .i32 9500), .lit (.int .i32 9508), .lit (.int .i32 9524), .lit (.int .i32 9516), .lit (.int .i32 9474), .lit (.int .i32 8804), .lit (.int .i32 8805), .lit (.int .i32 960), .lit (.int .i32 8800), .lit (.int .i32 163), .lit (.int .i32 183)]

/-- 'tactilelaw01.ChartabMay': WHATEVER THE INPUT: true; the input reads as it did. -/
def chartabMaySpec : ChangeSpec := { name := "chartabMay", fn := fun _ => fun
  | [d] => { results := [.lit (.bool true)], args := [d] }
  | _ => none }
def chartabMayRow : OpenClaim := { program := "ytjffiikdfoejhaadoor", sum := "79b48b619fa8204298da384974d0e2ab3ec3eddcd6afaa71ce161e7883402505", func := "tactile/tactilelaw01.ChartabMay", spec := "chartabMay", named := ["tactile/chartab.classes", "tactile/chartab.widths", "tactile/chartab.graphics"], apart := false, laid := [("tactile/chartab.widths", laid_tactile_chartab_widths), ("tactile/chartab.classes", laid_tactile_chartab_classes), ("tactile/chartab.graphics", laid_tactile_chartab_graphics)] }
def ChartabMaySaid : Prop := chartabMayRow.holds Tryd.pinned (OpenSpec.ofChange chartabMaySpec)

/-- ITS FALSE NEIGHBOUR: 'it returns false'. Refute it at one input. -/
def chartabMayWrong : ChangeSpec := { name := "chartabMay", fn := fun _ => fun
  | [d] => { results := [.lit (.bool false)], args := [d] }
  | _ => none }
def ChartabMayWrongFalsely : Prop := chartabMayRow.holds Tryd.pinned (OpenSpec.ofChange chartabMayWrong)

/-- 'tactilelaw01.ChartabWidth': WHATEVER THE INPUT: true; the input reads as it did. -/
def chartabWidthSpec : ChangeSpec := { name := "chartabWidth", fn := fun _ => fun
  | [d] => { results := [.lit (.bool true)], args := [d] }
  | _ => none }
def chartabWidthRow : OpenClaim := { program := "ytjffiikdfoejhaadoor", sum := "79b48b619fa8204298da384974d0e2ab3ec3eddcd6afaa71ce161e7883402505", func := "tactile/tactilelaw01.ChartabWidth", spec := "chartabWidth", named := ["tactile/chartab.widths", "tactile/chartab.classes", "tactile/chartab.graphics"], apart := false, laid := [("tactile/chartab.widths", laid_tactile_chartab_widths), ("tactile/chartab.classes", laid_tactile_chartab_classes), ("tactile/chartab.graphics", laid_tactile_chartab_graphics)] }
def ChartabWidthSaid : Prop := chartabWidthRow.holds Tryd.pinned (OpenSpec.ofChange chartabWidthSpec)

/-- ITS FALSE NEIGHBOUR: 'it returns false'. Refute it at one input. -/
def chartabWidthWrong : ChangeSpec := { name := "chartabWidth", fn := fun _ => fun
  | [d] => { results := [.lit (.bool false)], args := [d] }
  | _ => none }
def ChartabWidthWrongFalsely : Prop := chartabWidthRow.holds Tryd.pinned (OpenSpec.ofChange chartabWidthWrong)

/-- 'tactilelaw01.ChartabClass': WHATEVER THE INPUT: true; the input reads as it did. -/
def chartabClassSpec : ChangeSpec := { name := "chartabClass", fn := fun _ => fun
  | [d] => { results := [.lit (.bool true)], args := [d] }
  | _ => none }
def chartabClassRow : OpenClaim := { program := "ytjffiikdfoejhaadoor", sum := "79b48b619fa8204298da384974d0e2ab3ec3eddcd6afaa71ce161e7883402505", func := "tactile/tactilelaw01.ChartabClass", spec := "chartabClass", named := ["tactile/chartab.classes", "tactile/chartab.widths", "tactile/chartab.graphics"], apart := false, laid := [("tactile/chartab.widths", laid_tactile_chartab_widths), ("tactile/chartab.classes", laid_tactile_chartab_classes), ("tactile/chartab.graphics", laid_tactile_chartab_graphics)] }
def ChartabClassSaid : Prop := chartabClassRow.holds Tryd.pinned (OpenSpec.ofChange chartabClassSpec)

/-- ITS FALSE NEIGHBOUR: 'it returns false'. Refute it at one input. -/
def chartabClassWrong : ChangeSpec := { name := "chartabClass", fn := fun _ => fun
  | [d] => { results := [.lit (.bool false)], args := [d] }
  | _ => none }
def ChartabClassWrongFalsely : Prop := chartabClassRow.holds Tryd.pinned (OpenSpec.ofChange chartabClassWrong)

/-- 'tactilelaw01.ChartabCase': WHATEVER THE INPUT: true; the input reads as it did. -/
def chartabCaseSpec : ChangeSpec := { name := "chartabCase", fn := fun _ => fun
  | [d] => { results := [.lit (.bool true)], args := [d] }
  | _ => none }
def chartabCaseRow : OpenClaim := { program := "ytjffiikdfoejhaadoor", sum := "79b48b619fa8204298da384974d0e2ab3ec3eddcd6afaa71ce161e7883402505", func := "tactile/tactilelaw01.ChartabCase", spec := "chartabCase", named := ["tactile/chartab.classes", "tactile/chartab.widths", "tactile/chartab.graphics"], apart := false, laid := [("tactile/chartab.widths", laid_tactile_chartab_widths), ("tactile/chartab.classes", laid_tactile_chartab_classes), ("tactile/chartab.graphics", laid_tactile_chartab_graphics)] }
def ChartabCaseSaid : Prop := chartabCaseRow.holds Tryd.pinned (OpenSpec.ofChange chartabCaseSpec)

/-- ITS FALSE NEIGHBOUR: 'it returns false'. Refute it at one input. -/
def chartabCaseWrong : ChangeSpec := { name := "chartabCase", fn := fun _ => fun
  | [d] => { results := [.lit (.bool false)], args := [d] }
  | _ => none }
def ChartabCaseWrongFalsely : Prop := chartabCaseRow.holds Tryd.pinned (OpenSpec.ofChange chartabCaseWrong)

/-- 'tactilelaw01.ChartabCharset': WHATEVER THE INPUT: true; the input reads as it did. -/
def chartabCharsetSpec : ChangeSpec := { name := "chartabCharset", fn := fun _ => fun
  | [d1, d2] => { results := [.lit (.bool true)], args := [d1, d2] }
  | _ => none }
def chartabCharsetRow : OpenClaim := { program := "ytjffiikdfoejhaadoor", sum := "79b48b619fa8204298da384974d0e2ab3ec3eddcd6afaa71ce161e7883402505", func := "tactile/tactilelaw01.ChartabCharset", spec := "chartabCharset", named := ["tactile/chartab.graphics", "tactile/chartab.classes", "tactile/chartab.widths"], apart := false, laid := [("tactile/chartab.widths", laid_tactile_chartab_widths), ("tactile/chartab.classes", laid_tactile_chartab_classes), ("tactile/chartab.graphics", laid_tactile_chartab_graphics)] }
def ChartabCharsetSaid : Prop := chartabCharsetRow.holds Tryd.pinned (OpenSpec.ofChange chartabCharsetSpec)

/-- ITS FALSE NEIGHBOUR: 'it returns false'. Refute it at one input. -/
def chartabCharsetWrong : ChangeSpec := { name := "chartabCharset", fn := fun _ => fun
  | [d1, d2] => { results := [.lit (.bool false)], args := [d1, d2] }
  | _ => none }
def ChartabCharsetWrongFalsely : Prop := chartabCharsetRow.holds Tryd.pinned (OpenSpec.ofChange chartabCharsetWrong)

/-- 'tactilelaw01.ChartabName': WHATEVER THE INPUT: true; the input reads as it did. -/
def chartabNameSpec : ChangeSpec := { name := "chartabName", fn := fun _ => fun
  | [d] => { results := [.lit (.bool true)], args := [d] }
  | _ => none }
def chartabNameRow : OpenClaim := { program := "ytjffiikdfoejhaadoor", sum := "79b48b619fa8204298da384974d0e2ab3ec3eddcd6afaa71ce161e7883402505", func := "tactile/tactilelaw01.ChartabName", spec := "chartabName", named := ["tactile/chartab.classes", "tactile/chartab.widths", "tactile/chartab.graphics"], apart := false, laid := [("tactile/chartab.widths", laid_tactile_chartab_widths), ("tactile/chartab.classes", laid_tactile_chartab_classes), ("tactile/chartab.graphics", laid_tactile_chartab_graphics)] }
def ChartabNameSaid : Prop := chartabNameRow.holds Tryd.pinned (OpenSpec.ofChange chartabNameSpec)

/-- ITS FALSE NEIGHBOUR: 'it returns false'. Refute it at one input. -/
def chartabNameWrong : ChangeSpec := { name := "chartabName", fn := fun _ => fun
  | [d] => { results := [.lit (.bool false)], args := [d] }
  | _ => none }
def ChartabNameWrongFalsely : Prop := chartabNameRow.holds Tryd.pinned (OpenSpec.ofChange chartabNameWrong)

/-- 'tactilelaw01.ChartabFits': WHATEVER THE INPUT: true; the input reads as it did. -/
def chartabFitsSpec : ChangeSpec := { name := "chartabFits", fn := fun _ => fun
  | [d1, d2] => { results := [.lit (.bool true)], args := [d1, d2] }
  | _ => none }
def chartabFitsRow : OpenClaim := { program := "ytjffiikdfoejhaadoor", sum := "79b48b619fa8204298da384974d0e2ab3ec3eddcd6afaa71ce161e7883402505", func := "tactile/tactilelaw01.ChartabFits", spec := "chartabFits", named := ["tactile/chartab.widths", "tactile/chartab.classes", "tactile/chartab.graphics"], apart := false, laid := [("tactile/chartab.widths", laid_tactile_chartab_widths), ("tactile/chartab.classes", laid_tactile_chartab_classes), ("tactile/chartab.graphics", laid_tactile_chartab_graphics)] }
def ChartabFitsSaid : Prop := chartabFitsRow.holds Tryd.pinned (OpenSpec.ofChange chartabFitsSpec)

/-- ITS FALSE NEIGHBOUR: 'it returns false'. Refute it at one input. -/
def chartabFitsWrong : ChangeSpec := { name := "chartabFits", fn := fun _ => fun
  | [d1, d2] => { results := [.lit (.bool false)], args := [d1, d2] }
  | _ => none }
def ChartabFitsWrongFalsely : Prop := chartabFitsRow.holds Tryd.pinned (OpenSpec.ofChange chartabFitsWrong)

/-- 'tactilelaw01.ChartabTurns': WHATEVER THE INPUT: true; the input reads as it did. -/
def chartabTurnsSpec : ChangeSpec := { name := "chartabTurns", fn := fun _ => fun
  | [d] => { results := [.lit (.bool true)], args := [d] }
  | _ => none }
def chartabTurnsRow : OpenClaim := { program := "ytjffiikdfoejhaadoor", sum := "79b48b619fa8204298da384974d0e2ab3ec3eddcd6afaa71ce161e7883402505", func := "tactile/tactilelaw01.ChartabTurns", spec := "chartabTurns", named := ["tactile/chartab.classes", "tactile/chartab.widths", "tactile/chartab.graphics"], apart := false, laid := [("tactile/chartab.widths", laid_tactile_chartab_widths), ("tactile/chartab.classes", laid_tactile_chartab_classes), ("tactile/chartab.graphics", laid_tactile_chartab_graphics)] }
def ChartabTurnsSaid : Prop := chartabTurnsRow.holds Tryd.pinned (OpenSpec.ofChange chartabTurnsSpec)

/-- ITS FALSE NEIGHBOUR: 'it returns false'. Refute it at one input. -/
def chartabTurnsWrong : ChangeSpec := { name := "chartabTurns", fn := fun _ => fun
  | [d] => { results := [.lit (.bool false)], args := [d] }
  | _ => none }
def ChartabTurnsWrongFalsely : Prop := chartabTurnsRow.holds Tryd.pinned (OpenSpec.ofChange chartabTurnsWrong)

/- THE SECOND FORM. 'bulk': how many values and letters a reading holds, each counted each time it is reached (what is shared counts as often as it is met; a slice's spare places count too). A statement '..UptoSaid' is the law's where the arguments, and the package variables that the reading takes, are together of bulk at most 1048576: NARROWER than '..Said'. Prove '..Said' where nothing that the law and all that it calls make is longer than what came in: it says more and counts as full. Else prove '..UptoSaid'. A law counts once. -/
mutual
def uptoBulk {H : Type} : DataW H → Nat
  | .lit (.string bytes) => bytes.length + 1
  | .lit _ => 1
  | .nil => 1
  | .ptr d => uptoBulk d + 1
  | .slice elems spare => uptoBulkAll elems + uptoBulkAll spare + 1
  | .agg parts => uptoBulkAll parts + 1
  | .iface _ d => uptoBulk d + 1
  | .map entries => uptoBulkEntries entries + 1
  | .held _ => 1
def uptoBulkAll {H : Type} : List (DataW H) → Nat
  | [] => 0
  | d :: r => uptoBulk d + uptoBulkAll r
def uptoBulkEntries {H : Type} : List (Lit × DataW H) → Nat
  | [] => 0
  | x :: r => uptoBulkEntry x + uptoBulkEntries r
def uptoBulkEntry {H : Type} : Lit × DataW H → Nat
  | (.string bytes, d) => bytes.length + uptoBulk d + 1
  | (_, d) => uptoBulk d + 1
 end
def uptoSmall : (H : Type) → List (DataW H) → Bool := fun _ ds => decide (uptoBulkAll ds ≤ 1048576)
def OpenSpec.upto (s : _root_.Go.ChangeSpec) : _root_.Go.OpenSpec := { _root_.Go.OpenSpec.ofChange s with cond := some uptoSmall }

/-- 'tactilelaw01.ChartabMay', WHERE WHAT IT READS IS OF BULK AT MOST 1048576: true; the input reads as it did. -/
def chartabMayUptoRow : OpenClaim := { program := "ytjffiikdfoejhaadoor", sum := "79b48b619fa8204298da384974d0e2ab3ec3eddcd6afaa71ce161e7883402505", func := "tactile/tactilelaw01.ChartabMay", spec := "chartabMay", named := ["tactile/chartab.classes", "tactile/chartab.widths", "tactile/chartab.graphics"], apart := false, laid := [("tactile/chartab.widths", laid_tactile_chartab_widths), ("tactile/chartab.classes", laid_tactile_chartab_classes), ("tactile/chartab.graphics", laid_tactile_chartab_graphics)], narrowed := true }
def ChartabMayUptoSaid : Prop := chartabMayUptoRow.holds Tryd.pinned (OpenSpec.upto chartabMaySpec)

/-- 'tactilelaw01.ChartabWidth', WHERE WHAT IT READS IS OF BULK AT MOST 1048576: true; the input reads as it did. -/
def chartabWidthUptoRow : OpenClaim := { program := "ytjffiikdfoejhaadoor", sum := "79b48b619fa8204298da384974d0e2ab3ec3eddcd6afaa71ce161e7883402505", func := "tactile/tactilelaw01.ChartabWidth", spec := "chartabWidth", named := ["tactile/chartab.widths", "tactile/chartab.classes", "tactile/chartab.graphics"], apart := false, laid := [("tactile/chartab.widths", laid_tactile_chartab_widths), ("tactile/chartab.classes", laid_tactile_chartab_classes), ("tactile/chartab.graphics", laid_tactile_chartab_graphics)], narrowed := true }
def ChartabWidthUptoSaid : Prop := chartabWidthUptoRow.holds Tryd.pinned (OpenSpec.upto chartabWidthSpec)

/-- 'tactilelaw01.ChartabClass', WHERE WHAT IT READS IS OF BULK AT MOST 1048576: true; the input reads as it did. -/
def chartabClassUptoRow : OpenClaim := { program := "ytjffiikdfoejhaadoor", sum := "79b48b619fa8204298da384974d0e2ab3ec3eddcd6afaa71ce161e7883402505", func := "tactile/tactilelaw01.ChartabClass", spec := "chartabClass", named := ["tactile/chartab.classes", "tactile/chartab.widths", "tactile/chartab.graphics"], apart := false, laid := [("tactile/chartab.widths", laid_tactile_chartab_widths), ("tactile/chartab.classes", laid_tactile_chartab_classes), ("tactile/chartab.graphics", laid_tactile_chartab_graphics)], narrowed := true }
def ChartabClassUptoSaid : Prop := chartabClassUptoRow.holds Tryd.pinned (OpenSpec.upto chartabClassSpec)

/-- 'tactilelaw01.ChartabCase', WHERE WHAT IT READS IS OF BULK AT MOST 1048576: true; the input reads as it did. -/
def chartabCaseUptoRow : OpenClaim := { program := "ytjffiikdfoejhaadoor", sum := "79b48b619fa8204298da384974d0e2ab3ec3eddcd6afaa71ce161e7883402505", func := "tactile/tactilelaw01.ChartabCase", spec := "chartabCase", named := ["tactile/chartab.classes", "tactile/chartab.widths", "tactile/chartab.graphics"], apart := false, laid := [("tactile/chartab.widths", laid_tactile_chartab_widths), ("tactile/chartab.classes", laid_tactile_chartab_classes), ("tactile/chartab.graphics", laid_tactile_chartab_graphics)], narrowed := true }
def ChartabCaseUptoSaid : Prop := chartabCaseUptoRow.holds Tryd.pinned (OpenSpec.upto chartabCaseSpec)

/-- 'tactilelaw01.ChartabCharset', WHERE WHAT IT READS IS OF BULK AT MOST 1048576: true; the input reads as it did. -/
def chartabCharsetUptoRow : OpenClaim := { program := "ytjffiikdfoejhaadoor", sum := "79b48b619fa8204298da384974d0e2ab3ec3eddcd6afaa71ce161e7883402505", func := "tactile/tactilelaw01.ChartabCharset", spec := "chartabCharset", named := ["tactile/chartab.graphics", "tactile/chartab.classes", "tactile/chartab.widths"], apart := false, laid := [("tactile/chartab.widths", laid_tactile_chartab_widths), ("tactile/chartab.classes", laid_tactile_chartab_classes), ("tactile/chartab.graphics", laid_tactile_chartab_graphics)], narrowed := true }
def ChartabCharsetUptoSaid : Prop := chartabCharsetUptoRow.holds Tryd.pinned (OpenSpec.upto chartabCharsetSpec)

/-- 'tactilelaw01.ChartabName', WHERE WHAT IT READS IS OF BULK AT MOST 1048576: true; the input reads as it did. -/
def chartabNameUptoRow : OpenClaim := { program := "ytjffiikdfoejhaadoor", sum := "79b48b619fa8204298da384974d0e2ab3ec3eddcd6afaa71ce161e7883402505", func := "tactile/tactilelaw01.ChartabName", spec := "chartabName", named := ["tactile/chartab.classes", "tactile/chartab.widths", "tactile/chartab.graphics"], apart := false, laid := [("tactile/chartab.widths", laid_tactile_chartab_widths), ("tactile/chartab.classes", laid_tactile_chartab_classes), ("tactile/chartab.graphics", laid_tactile_chartab_graphics)], narrowed := true }
def ChartabNameUptoSaid : Prop := chartabNameUptoRow.holds Tryd.pinned (OpenSpec.upto chartabNameSpec)

/-- 'tactilelaw01.ChartabFits', WHERE WHAT IT READS IS OF BULK AT MOST 1048576: true; the input reads as it did. -/
def chartabFitsUptoRow : OpenClaim := { program := "ytjffiikdfoejhaadoor", sum := "79b48b619fa8204298da384974d0e2ab3ec3eddcd6afaa71ce161e7883402505", func := "tactile/tactilelaw01.ChartabFits", spec := "chartabFits", named := ["tactile/chartab.widths", "tactile/chartab.classes", "tactile/chartab.graphics"], apart := false, laid := [("tactile/chartab.widths", laid_tactile_chartab_widths), ("tactile/chartab.classes", laid_tactile_chartab_classes), ("tactile/chartab.graphics", laid_tactile_chartab_graphics)], narrowed := true }
def ChartabFitsUptoSaid : Prop := chartabFitsUptoRow.holds Tryd.pinned (OpenSpec.upto chartabFitsSpec)

/-- 'tactilelaw01.ChartabTurns', WHERE WHAT IT READS IS OF BULK AT MOST 1048576: true; the input reads as it did. -/
def chartabTurnsUptoRow : OpenClaim := { program := "ytjffiikdfoejhaadoor", sum := "79b48b619fa8204298da384974d0e2ab3ec3eddcd6afaa71ce161e7883402505", func := "tactile/tactilelaw01.ChartabTurns", spec := "chartabTurns", named := ["tactile/chartab.classes", "tactile/chartab.widths", "tactile/chartab.graphics"], apart := false, laid := [("tactile/chartab.widths", laid_tactile_chartab_widths), ("tactile/chartab.classes", laid_tactile_chartab_classes), ("tactile/chartab.graphics", laid_tactile_chartab_graphics)], narrowed := true }
def ChartabTurnsUptoSaid : Prop := chartabTurnsUptoRow.holds Tryd.pinned (OpenSpec.upto chartabTurnsSpec)

end Rows
end Go.Proofs.YtjffiikdfoejhaaDoor
