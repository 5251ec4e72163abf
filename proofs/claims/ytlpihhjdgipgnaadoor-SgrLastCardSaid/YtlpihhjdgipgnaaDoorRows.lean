/-
  NARROWER THAN 'FOR EVERY INPUT', by the rows' own cells (each row's printed sentence says how): SgrApplies: laid · SgrTells: laid · SgrParts: laid · SgrLast: laid.
  DERIVED. THE GIVEN ROWS OF THIS SEAT. 4 by the template 'for every input the law returns true; each argument reads behind the call as it read before'; 0 by the template 'total and deterministic' (their statements: YtlpihhjdgipgnaaDoorTotals.lean).
  GIVEN WITH THE SEED: the statements are not yours to turn. If you find one false, say at which input.
  Laid BY PROGRAM, IN A SANDBOX (cutbox-rows.mjs): the forced cells as the released guide's own fill.sh prints them over the translation 51437d9495edb6c9… (all of the seat's roots in one cut). By AI agents, Wed Nov 11 2026. No macro, syntax, notation, axiom, sorry.
-/
import Derived.Test.YtlpihhjdgipgnaaDoorChecked
import GoSem.Claim
import GoSem.ClaimJoined
import GoSem.ClaimMapViews
import Derived.JoinedTies
import Derived.KernelRfl
namespace Go.Proofs.YtlpihhjdgipgnaaDoor
/- THE CELL 'sum', in the pinned program and in every row, IS THE sha256 OF THE DUMP (.gsa) THAT YtlpihhjdgipgnaaDoorProg.lean LOADS. Nothing in Lean hashes anything: it is a label: what it is worth is what the hold of that sum in a sandbox is worth. -/
noncomputable def Tryd.pinned : Pinned := { name := "ytlpihhjdgipgnaadoor", sum := "51437d9495edb6c9038bbc8971f015c3daafd49b8f5e7615cca903110c579094", checked := Tryd.checked }
namespace Rows
def none {H : Type} : Left H := { results := [], args := [] }

/- WHAT THE LISTED PACKAGE-LEVEL VARIABLES READ AS WHEN THE CALL BEGINS. Each datum BY PROGRAM (the guide's laid-datum.mjs) off the statement by which the dump's own 'gosem.cut.vars' lays the variable. In a bare row this is a premise. The card (YtlpihhjdgipgnaaDoorCards.lean) ties it to the program's text. -/
def laid_tactile_sgr_flags {H : Type} : DataW H := .agg [.lit (.int .i64 1), .lit (.int .i64 2), .lit (.int .i64 3), .lit (.int .i64 4), .lit (.int .i64 5), .lit (.int .i64 7), .lit (.int .i64 8), .lit (.int .i64 9)]

/-- 'tactilelaw05.SgrApplies': WHATEVER THE INPUT: true; the input reads as it did. -/
def sgrAppliesSpec : ChangeSpec := { name := "sgrApplies", fn := fun _ => fun
  | [d1, d2] => { results := [.lit (.bool true)], args := [d1, d2] }
  | _ => none }
def sgrAppliesRow : OpenClaim := { program := "ytlpihhjdgipgnaadoor", sum := "51437d9495edb6c9038bbc8971f015c3daafd49b8f5e7615cca903110c579094", func := "tactile/tactilelaw05.SgrApplies", spec := "sgrApplies", named := ["tactile/sgr.flags"], apart := false, laid := [("tactile/sgr.flags", laid_tactile_sgr_flags)] }
def SgrAppliesSaid : Prop := sgrAppliesRow.holds Tryd.pinned (OpenSpec.ofChange sgrAppliesSpec)

/-- ITS FALSE NEIGHBOUR: 'it returns false'. Refute it at one input. -/
def sgrAppliesWrong : ChangeSpec := { name := "sgrApplies", fn := fun _ => fun
  | [d1, d2] => { results := [.lit (.bool false)], args := [d1, d2] }
  | _ => none }
def SgrAppliesWrongFalsely : Prop := sgrAppliesRow.holds Tryd.pinned (OpenSpec.ofChange sgrAppliesWrong)

/-- 'tactilelaw05.SgrTells': WHATEVER THE INPUT: true; the input reads as it did. -/
def sgrTellsSpec : ChangeSpec := { name := "sgrTells", fn := fun _ => fun
  | [d1, d2] => { results := [.lit (.bool true)], args := [d1, d2] }
  | _ => none }
def sgrTellsRow : OpenClaim := { program := "ytlpihhjdgipgnaadoor", sum := "51437d9495edb6c9038bbc8971f015c3daafd49b8f5e7615cca903110c579094", func := "tactile/tactilelaw05.SgrTells", spec := "sgrTells", named := ["tactile/sgr.flags"], apart := false, laid := [("tactile/sgr.flags", laid_tactile_sgr_flags)] }
def SgrTellsSaid : Prop := sgrTellsRow.holds Tryd.pinned (OpenSpec.ofChange sgrTellsSpec)

/-- ITS FALSE NEIGHBOUR: 'it returns false'. Refute it at one input. -/
def sgrTellsWrong : ChangeSpec := { name := "sgrTells", fn := fun _ => fun
  | [d1, d2] => { results := [.lit (.bool false)], args := [d1, d2] }
  | _ => none }
def SgrTellsWrongFalsely : Prop := sgrTellsRow.holds Tryd.pinned (OpenSpec.ofChange sgrTellsWrong)

/-- 'tactilelaw05.SgrParts': WHATEVER THE INPUT: true; the input reads as it did. -/
def sgrPartsSpec : ChangeSpec := { name := "sgrParts", fn := fun _ => fun
  | [d1, d2, d3] => { results := [.lit (.bool true)], args := [d1, d2, d3] }
  | _ => none }
def sgrPartsRow : OpenClaim := { program := "ytlpihhjdgipgnaadoor", sum := "51437d9495edb6c9038bbc8971f015c3daafd49b8f5e7615cca903110c579094", func := "tactile/tactilelaw05.SgrParts", spec := "sgrParts", named := ["tactile/sgr.flags"], apart := false, laid := [("tactile/sgr.flags", laid_tactile_sgr_flags)] }
def SgrPartsSaid : Prop := sgrPartsRow.holds Tryd.pinned (OpenSpec.ofChange sgrPartsSpec)

/-- ITS FALSE NEIGHBOUR: 'it returns false'. Refute it at one input. -/
def sgrPartsWrong : ChangeSpec := { name := "sgrParts", fn := fun _ => fun
  | [d1, d2, d3] => { results := [.lit (.bool false)], args := [d1, d2, d3] }
  | _ => none }
def SgrPartsWrongFalsely : Prop := sgrPartsRow.holds Tryd.pinned (OpenSpec.ofChange sgrPartsWrong)

/-- 'tactilelaw05.SgrLast': WHATEVER THE INPUT: true; the input reads as it did. -/
def sgrLastSpec : ChangeSpec := { name := "sgrLast", fn := fun _ => fun
  | [d1, d2, d3] => { results := [.lit (.bool true)], args := [d1, d2, d3] }
  | _ => none }
def sgrLastRow : OpenClaim := { program := "ytlpihhjdgipgnaadoor", sum := "51437d9495edb6c9038bbc8971f015c3daafd49b8f5e7615cca903110c579094", func := "tactile/tactilelaw05.SgrLast", spec := "sgrLast", named := ["tactile/sgr.flags"], apart := false, laid := [("tactile/sgr.flags", laid_tactile_sgr_flags)] }
def SgrLastSaid : Prop := sgrLastRow.holds Tryd.pinned (OpenSpec.ofChange sgrLastSpec)

/-- ITS FALSE NEIGHBOUR: 'it returns false'. Refute it at one input. -/
def sgrLastWrong : ChangeSpec := { name := "sgrLast", fn := fun _ => fun
  | [d1, d2, d3] => { results := [.lit (.bool false)], args := [d1, d2, d3] }
  | _ => none }
def SgrLastWrongFalsely : Prop := sgrLastRow.holds Tryd.pinned (OpenSpec.ofChange sgrLastWrong)

/- THE SECOND FORM. 'bulk': how many values and letters a reading holds, each counted each time it is reached (what is shared counts as often as it is met; a slice's spare places count too). A statement '..UptoSaid' is the law's where the arguments, and the package variables that the reading takes, are together of bulk at most 1048576: NARROWER than '..Said'. Prove '..Said' where nothing that the law and all that it calls make is longer than what came in: it says more and counts as full. Else prove '..UptoSaid'. A law counts once. -/
mutual
def uptoBulk {H : Type} : DataW H → Nat
  | .lit (.string bytes) => bytes.length + 1
  | .lit _ => 1
  | .nil => 1
  | .ptr d => uptoBulk d + 1
  | .slice elems spare => uptoBulkAll elems + uptoBulkAll spare + 1
  | .agg parts => uptoBulkAll parts + 1
  | .iface _ d => uptoBulk d + 1
  | .map entries => uptoBulkEntries entries + 1
  | .held _ => 1
def uptoBulkAll {H : Type} : List (DataW H) → Nat
  | [] => 0
  | d :: r => uptoBulk d + uptoBulkAll r
def uptoBulkEntries {H : Type} : List (Lit × DataW H) → Nat
  | [] => 0
  | x :: r => uptoBulkEntry x + uptoBulkEntries r
def uptoBulkEntry {H : Type} : Lit × DataW H → Nat
  | (.string bytes, d) => bytes.length + uptoBulk d + 1
  | (_, d) => uptoBulk d + 1
 end
def uptoSmall : (H : Type) → List (DataW H) → Bool := fun _ ds => decide (uptoBulkAll ds ≤ 1048576)
def OpenSpec.upto (s : _root_.Go.ChangeSpec) : _root_.Go.OpenSpec := { _root_.Go.OpenSpec.ofChange s with cond := some uptoSmall }

/-- 'tactilelaw05.SgrApplies', WHERE WHAT IT READS IS OF BULK AT MOST 1048576: true; the input reads as it did. -/
def sgrAppliesUptoRow : OpenClaim := { program := "ytlpihhjdgipgnaadoor", sum := "51437d9495edb6c9038bbc8971f015c3daafd49b8f5e7615cca903110c579094", func := "tactile/tactilelaw05.SgrApplies", spec := "sgrApplies", named := ["tactile/sgr.flags"], apart := false, laid := [("tactile/sgr.flags", laid_tactile_sgr_flags)], narrowed := true }
def SgrAppliesUptoSaid : Prop := sgrAppliesUptoRow.holds Tryd.pinned (OpenSpec.upto sgrAppliesSpec)

/-- 'tactilelaw05.SgrTells', WHERE WHAT IT READS IS OF BULK AT MOST 1048576: true; the input reads as it did. -/
def sgrTellsUptoRow : OpenClaim := { program := "ytlpihhjdgipgnaadoor", sum := "51437d9495edb6c9038bbc8971f015c3daafd49b8f5e7615cca903110c579094", func := "tactile/tactilelaw05.SgrTells", spec := "sgrTells", named := ["tactile/sgr.flags"], apart := false, laid := [("tactile/sgr.flags", laid_tactile_sgr_flags)], narrowed := true }
def SgrTellsUptoSaid : Prop := sgrTellsUptoRow.holds Tryd.pinned (OpenSpec.upto sgrTellsSpec)

/-- 'tactilelaw05.SgrParts', WHERE WHAT IT READS IS OF BULK AT MOST 1048576: true; the input reads as it did. -/
def sgrPartsUptoRow : OpenClaim := { program := "ytlpihhjdgipgnaadoor", sum := "51437d9495edb6c9038bbc8971f015c3daafd49b8f5e7615cca903110c579094", func := "tactile/tactilelaw05.SgrParts", spec := "sgrParts", named := ["tactile/sgr.flags"], apart := false, laid := [("tactile/sgr.flags", laid_tactile_sgr_flags)], narrowed := true }
def SgrPartsUptoSaid : Prop := sgrPartsUptoRow.holds Tryd.pinned (OpenSpec.upto sgrPartsSpec)

/-- 'tactilelaw05.SgrLast', WHERE WHAT IT READS IS OF BULK AT MOST 1048576: true; the input reads as it did. -/
def sgrLastUptoRow : OpenClaim := { program := "ytlpihhjdgipgnaadoor", sum := "51437d9495edb6c9038bbc8971f015c3daafd49b8f5e7615cca903110c579094", func := "tactile/tactilelaw05.SgrLast", spec := "sgrLast", named := ["tactile/sgr.flags"], apart := false, laid := [("tactile/sgr.flags", laid_tactile_sgr_flags)], narrowed := true }
def SgrLastUptoSaid : Prop := sgrLastUptoRow.holds Tryd.pinned (OpenSpec.upto sgrLastSpec)

end Rows
end Go.Proofs.YtlpihhjdgipgnaaDoor
