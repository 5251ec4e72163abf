/-
  No cell of these rows narrows 'for every input' (looked for: loops, veiled, ifaces, maps, wideKeys, modest, calm, conditions, laid).
  DERIVED. THE GIVEN ROWS OF THIS SEAT. 3 by the template 'for every input the law returns true; each argument reads behind the call as it read before'; 0 by the template 'total and deterministic' (their statements: YtgkpcjhnphfkgaaTotals.lean).
  GIVEN WITH THE SEED: the statements are not yours to turn. If you find one false, say at which input.
  Laid BY PROGRAM, IN A SANDBOX (cutbox-rows.mjs): the forced cells as the released guide's own fill.sh prints them over the translation 7c73d1e03f8f0308… (all of the seat's roots in one cut). By AI agents, Wed Nov 11 2026. No macro, syntax, notation, axiom, sorry.
-/
import Derived.Test.YtgkpcjhnphfkgaaChecked
import GoSem.Claim
import GoSem.ClaimJoined
import GoSem.ClaimMapViews
import Derived.JoinedTies
import Derived.KernelRfl
namespace Go.Proofs.Ytgkpcjhnphfkgaa
/- THE CELL 'sum', in the pinned program and in every row, IS THE sha256 OF THE DUMP (.gsa) THAT YtgkpcjhnphfkgaaProg.lean LOADS. Nothing in Lean hashes anything: it is a label: what it is worth is what the hold of that sum in a sandbox is worth. -/
noncomputable def Try.pinned : Pinned := { name := "ytgkpcjhnphfkgaa", sum := "7c73d1e03f8f03086cf1176948f3cf39af2c00070ff079a69ecd8d76811369b2", checked := Try.checked }
namespace Rows
def none {H : Type} : Left H := { results := [], args := [] }

/-- 'tactilelaw04.ParserCan': WHATEVER THE INPUT: true; the input reads as it did. -/
def parserCanSpec : ChangeSpec := { name := "parserCan", fn := fun _ => fun
  | [d1, d2] => { results := [.lit (.bool true)], args := [d1, d2] }
  | _ => none }
def parserCanRow : OpenClaim := { program := "ytgkpcjhnphfkgaa", sum := "7c73d1e03f8f03086cf1176948f3cf39af2c00070ff079a69ecd8d76811369b2", func := "tactile/tactilelaw04.ParserCan", spec := "parserCan", unfollowed := true, recurses := true, apart := false }
def ParserCanSaid : Prop := parserCanRow.holds Try.pinned (OpenSpec.ofChange parserCanSpec)

/-- ITS FALSE NEIGHBOUR: 'it returns false'. Refute it at one input. -/
def parserCanWrong : ChangeSpec := { name := "parserCan", fn := fun _ => fun
  | [d1, d2] => { results := [.lit (.bool false)], args := [d1, d2] }
  | _ => none }
def ParserCanWrongFalsely : Prop := parserCanRow.holds Try.pinned (OpenSpec.ofChange parserCanWrong)

/-- 'tactilelaw04.ParserActs': WHATEVER THE INPUT: true; the input reads as it did. -/
def parserActsSpec : ChangeSpec := { name := "parserActs", fn := fun _ => fun
  | [d] => { results := [.lit (.bool true)], args := [d] }
  | _ => none }
def parserActsRow : OpenClaim := { program := "ytgkpcjhnphfkgaa", sum := "7c73d1e03f8f03086cf1176948f3cf39af2c00070ff079a69ecd8d76811369b2", func := "tactile/tactilelaw04.ParserActs", spec := "parserActs", unfollowed := true, recurses := true, apart := false }
def ParserActsSaid : Prop := parserActsRow.holds Try.pinned (OpenSpec.ofChange parserActsSpec)

/-- ITS FALSE NEIGHBOUR: 'it returns false'. Refute it at one input. -/
def parserActsWrong : ChangeSpec := { name := "parserActs", fn := fun _ => fun
  | [d] => { results := [.lit (.bool false)], args := [d] }
  | _ => none }
def ParserActsWrongFalsely : Prop := parserActsRow.holds Try.pinned (OpenSpec.ofChange parserActsWrong)

/-- 'tactilelaw04.ParserNone': WHATEVER THE INPUT: true; the input reads as it did. -/
def parserNoneSpec : ChangeSpec := { name := "parserNone", fn := fun _ => fun
  | [d] => { results := [.lit (.bool true)], args := [d] }
  | _ => none }
def parserNoneRow : OpenClaim := { program := "ytgkpcjhnphfkgaa", sum := "7c73d1e03f8f03086cf1176948f3cf39af2c00070ff079a69ecd8d76811369b2", func := "tactile/tactilelaw04.ParserNone", spec := "parserNone", unfollowed := true, recurses := true, apart := false }
def ParserNoneSaid : Prop := parserNoneRow.holds Try.pinned (OpenSpec.ofChange parserNoneSpec)

/-- ITS FALSE NEIGHBOUR: 'it returns false'. Refute it at one input. -/
def parserNoneWrong : ChangeSpec := { name := "parserNone", fn := fun _ => fun
  | [d] => { results := [.lit (.bool false)], args := [d] }
  | _ => none }
def ParserNoneWrongFalsely : Prop := parserNoneRow.holds Try.pinned (OpenSpec.ofChange parserNoneWrong)

/- THE SECOND FORM. 'bulk': how many values and letters a reading holds, each counted each time it is reached (what is shared counts as often as it is met; a slice's spare places count too). A statement '..UptoSaid' is the law's where the arguments, and the package variables that the reading takes, are together of bulk at most 1048576: NARROWER than '..Said'. Prove '..Said' where nothing that the law and all that it calls make is longer than what came in: it says more and counts as full. Else prove '..UptoSaid'. A law counts once. -/
mutual
def uptoBulk {H : Type} : DataW H → Nat
  | .lit (.string bytes) => bytes.length + 1
  | .lit _ => 1
  | .nil => 1
  | .ptr d => uptoBulk d + 1
  | .slice elems spare => uptoBulkAll elems + uptoBulkAll spare + 1
  | .agg parts => uptoBulkAll parts + 1
  | .iface _ d => uptoBulk d + 1
  | .map entries => uptoBulkEntries entries + 1
  | .held _ => 1
def uptoBulkAll {H : Type} : List (DataW H) → Nat
  | [] => 0
  | d :: r => uptoBulk d + uptoBulkAll r
def uptoBulkEntries {H : Type} : List (Lit × DataW H) → Nat
  | [] => 0
  | x :: r => uptoBulkEntry x + uptoBulkEntries r
def uptoBulkEntry {H : Type} : Lit × DataW H → Nat
  | (.string bytes, d) => bytes.length + uptoBulk d + 1
  | (_, d) => uptoBulk d + 1
 end
def uptoSmall : (H : Type) → List (DataW H) → Bool := fun _ ds => decide (uptoBulkAll ds ≤ 1048576)
def OpenSpec.upto (s : _root_.Go.ChangeSpec) : _root_.Go.OpenSpec := { _root_.Go.OpenSpec.ofChange s with cond := some uptoSmall }

/-- 'tactilelaw04.ParserCan', WHERE WHAT IT READS IS OF BULK AT MOST 1048576: true; the input reads as it did. -/
def parserCanUptoRow : OpenClaim := { program := "ytgkpcjhnphfkgaa", sum := "7c73d1e03f8f03086cf1176948f3cf39af2c00070ff079a69ecd8d76811369b2", func := "tactile/tactilelaw04.ParserCan", spec := "parserCan", unfollowed := true, recurses := true, apart := false, narrowed := true }
def ParserCanUptoSaid : Prop := parserCanUptoRow.holds Try.pinned (OpenSpec.upto parserCanSpec)

/-- 'tactilelaw04.ParserActs', WHERE WHAT IT READS IS OF BULK AT MOST 1048576: true; the input reads as it did. -/
def parserActsUptoRow : OpenClaim := { program := "ytgkpcjhnphfkgaa", sum := "7c73d1e03f8f03086cf1176948f3cf39af2c00070ff079a69ecd8d76811369b2", func := "tactile/tactilelaw04.ParserActs", spec := "parserActs", unfollowed := true, recurses := true, apart := false, narrowed := true }
def ParserActsUptoSaid : Prop := parserActsUptoRow.holds Try.pinned (OpenSpec.upto parserActsSpec)

/-- 'tactilelaw04.ParserNone', WHERE WHAT IT READS IS OF BULK AT MOST 1048576: true; the input reads as it did. -/
def parserNoneUptoRow : OpenClaim := { program := "ytgkpcjhnphfkgaa", sum := "7c73d1e03f8f03086cf1176948f3cf39af2c00070ff079a69ecd8d76811369b2", func := "tactile/tactilelaw04.ParserNone", spec := "parserNone", unfollowed := true, recurses := true, apart := false, narrowed := true }
def ParserNoneUptoSaid : Prop := parserNoneUptoRow.holds Try.pinned (OpenSpec.upto parserNoneSpec)

end Rows
end Go.Proofs.Ytgkpcjhnphfkgaa
