/-
  NARROWER THAN 'FOR EVERY INPUT', by the rows' own cells (each row's printed sentence says how): HostSplits: laid · HostKeys: laid.
  DERIVED. THE GIVEN ROWS OF THIS SEAT. 2 by the template 'for every input the law returns true; each argument reads behind the call as it read before'; 0 by the template 'total and deterministic' (their statements: YtecnpoigegiooaaGreatDoorTotals.lean).
  GIVEN WITH THE SEED: the statements are not yours to turn. If you find one false, say at which input.
  Laid BY PROGRAM, IN A SANDBOX (cutbox-rows.mjs): the forced cells as the released guide's own fill.sh prints them over the translation 6e403788b18207e0… (all of the seat's roots in one cut). By AI agents, Wed Nov 11 2026. No macro, syntax, notation, axiom, sorry.
-/
import Derived.Test.YtecnpoigegiooaaGreatDoorChecked
import GoSem.Claim
import GoSem.ClaimJoined
import GoSem.ClaimMapViews
import Derived.JoinedTies
import Derived.KernelRfl
namespace Go.Proofs.YtecnpoigegiooaaGreatDoor
/- THE CELL 'sum', in the pinned program and in every row, IS THE sha256 OF THE DUMP (.gsa) THAT YtecnpoigegiooaaGreatDoorProg.lean LOADS. Nothing in Lean hashes anything: it is a label: what it is worth is what the hold of that sum in a sandbox is worth. -/
noncomputable def Tryz.pinned : Pinned := { name := "ytecnpoigegiooaagreatdoor", sum := "6e403788b18207e0936f7f3a89a35f736808f2a670f8960a6857be7cb2870840", checked := Tryz.checked }
namespace Rows
def none {H : Type} : Left H := { results := [], args := [] }

/- WHAT THE LISTED PACKAGE-LEVEL VARIABLES READ AS WHEN THE CALL BEGINS. Each datum BY PROGRAM (the guide's laid-datum.mjs) off the statement by which the dump's own 'gosem.cut.vars' lays the variable. In a bare row this is a premise. The card (YtecnpoigegiooaaGreatDoorCards.lean) ties it to the program's text. -/
def laid_math_bits_deBruijn32tab {H : Type} : DataW H := .agg [.lit (.int .u8 0), .lit (.int .u8 1), .lit (.int .u8 28), .lit (.int .u8 2), .lit (.int .u8 29), .lit (.int .u8 14), .lit (.int .u8 24), .lit (.int .u8 3), .lit (.int .u8 30), .lit (.int .u8 22), .lit (.int .u8 20), .lit (.int .u8 15), .lit (.int .u8 25), .lit (.int .u8 17), .lit (.int .u8 4), .lit (.int .u8 8), .lit (.int .u8 31), .lit (.int .u8 27), .lit (.int .u8 13), .lit (.int .u8 23), .lit (.int .u8 21), .lit (.int .u8 19), .lit (.int .u8 16), .lit (.int .u8 7), .lit (.int .u8 26), .lit (.int .u8 12), .lit (.int .u8 18), .lit (.int .u8 6), .lit (.int .u8 11), .lit (.int .u8 5), .lit (.int .u8 10), .lit (.int .u8 9)]
def laid_math_bits_deBruijn64tab {H : Type} : DataW H := .agg [.lit (.int .u8 0), .lit (.int .u8 1), .lit (.int .u8 56), .lit (.int .u8 2), .lit (.int .u8 57), .lit (.int .u8 49), .lit (.int .u8 28), .lit (.int .u8 3), .lit (.int .u8 61), .lit (.int .u8 58), .lit (.int .u8 42), .lit (.int .u8 50), .lit (.int .u8 38), .lit (.int .u8 29), .lit (.int .u8 17), .lit (.int .u8 4), .lit (.int .u8 62), .lit (.int .u8 47), .lit (.int .u8 59), .lit (.int .u8 36), .lit (.int .u8 45), .lit (.int .u8 43), .lit (.int .u8 51), .lit (.int .u8 22), .lit (.int .u8 53), .lit (.int .u8 39), .lit (.int .u8 33), .lit (.int .u8 30), .lit (.int .u8 24), .lit (.int .u8 18), .lit (.int .u8 12), .lit (.int .u8 5), .lit (.int .u8 63), .lit (.int .u8 55), .lit (.int .u8 48), .lit (.int .u8 27), .lit (.int .u8 60), .lit (.int .u8 41), .lit (.int .u8 37), .lit (.int .u8 16), .lit (.int .u8 46), .lit (.int .u8 35), .lit (.int .u8 44), .lit (.int .u8 21), .lit (.int .u8 52), .lit (.int .u8 32), .lit (.int .u8 23), .lit (.int .u8 11), .lit (.int .u8 54), .lit (.int .u8 26), .lit (.int .u8 40), .lit (.int .u8 15), .lit (.int .u8 34), .lit (.int .u8 20), .lit (.int .u8 31), .lit (.int .u8 10), .lit (.int .u8 25), .lit (.int .u8 14), .lit (.int .u8 19), .lit (.int .u8 9), .lit (.int .u8 13), .lit (.int .u8 8), .lit (.int .u8 7), .lit (.int .u8 6)]
def laid_internal_strconv_uint64pow10 {H : Type} : DataW H := .agg [.lit (.int .u64 1), .lit (.int .u64 10), .lit (.int .u64 100), .lit (.int .u64 1000), .lit (.int .u64 10000), .lit (.int .u64 100000), .lit (.int .u64 1000000), .lit (.int .u64 10000000), .lit (.int .u64 100000000), .lit (.int .u64 1000000000), .lit (.int .u64 10000000000), .lit (.int .u64 100000000000), .lit (.int .u64 1000000000000), .lit (.int .u64 10000000000000), .lit (.int .u64 100000000000000), .lit (.int .u64 1000000000000000), .lit (.int .u64 10000000000000000), .lit (.int .u64 100000000000000000), .lit (.int .u64 1000000000000000000), .lit (.int .u64 10000000000000000000)]
def laid_tactile_chartab_widths {H : Type} : DataW H := .agg [.agg [.lit (.int .i32 0), .lit (.int .i32 31), .lit (.int .u8 0)], .agg [.lit (.int .i32 127), .lit (.int .i32 159), .lit (.int .u8 0)], .agg [.lit (.int .i32 768), .lit (.int .i32 879), .lit (.int .u8 0)], .agg [.lit (.int .i32 1155), .lit (.int .i32 1161), .lit (.int .u8 0)], .agg [.lit (.int .i32 1425), .lit (.int .i32 1469), .lit (.int .u8 0)], .agg [.lit (.int .i32 1552), .lit (.int .i32 1562), .lit (.int .u8 0)], .agg [.lit (.int .i32 1611), .lit (.int .i32 1631), .lit (.int .u8 0)], .agg [.lit (.int .i32 3633), .lit (.int .i32 3633), .lit (.int .u8 0)], .agg [.lit (.int .i32 3636), .lit (.int .i32 3642), .lit (.int .u8 0)], .agg [.lit (.int .i32 3655), .lit (.int .i32 3662), .lit (.int .u8 0)], .agg [.lit (.int .i32 4352), .lit (.int .i32 4447), .lit (.int .u8 2)], .agg [.lit (.int .i32 6832), .lit (.int .i32 6911), .lit (.int .u8 0)], .agg [.lit (.int .i32 7616), .lit (.int .i32 7679), .lit (.int .u8 0)], .agg [.lit (.int .i32 8203), .lit (.int .i32 8207), .lit (.int .u8 0)], .agg [.lit (.int .i32 8400), .lit (.int .i32 8447), .lit (.int .u8 0)], .agg [.lit (.int .i32 11904), .lit (.int .i32 12350), .lit (.int .u8 2)], .agg [.lit (.int .i32 12353), .lit (.int .i32 42191), .lit (.int .u8 2)], .agg [.lit (.int .i32 44032), .lit (.int .i32 55203), .lit (.int .u8 2)], .agg [.lit (.int .i32 63744), .lit (.int .i32 64255), .lit (.int .u8 2)], .agg [.lit (.int .i32 65024), .lit (.int .i32 65039), .lit (.int .u8 0)], .agg [.lit (.int .i32 65056), .lit (.int .i32 65071), .lit (.int .u8 0)], .agg [.lit (.int .i32 65072), .lit (.int .i32 65135), .lit (.int .u8 2)], .agg [.lit (.int .i32 65280), .lit (.int .i32 65376), .lit (.int .u8 2)], .agg [.lit (.int .i32 65504), .lit (.int .i32 65510), .lit (.int .u8 2)], .agg [.lit (.int .i32 127744), .lit (.int .i32 128591), .lit (.int .u8 2)], .agg [.lit (.int .i32 129280), .lit (.int .i32 129535), .lit (.int .u8 2)], .agg [.lit (.int .i32 131072), .lit (.int .i32 196605), .lit (.int .u8 2)], .agg [.lit (.int .i32 196608), .lit (.int .i32 262141), .lit (.int .u8 2)], .agg [.lit (.int .i32 917760), .lit (.int .i32 917999), .lit (.int .u8 0)]]
def laid_tactile_chartab_graphics {H : Type} : DataW H := .agg [.lit (.int .i32 9670), .lit (.int .i32 9618), .lit (.int .i32 9225), .lit (.int .i32 9228), .lit (.int .i32 9229), .lit (.int .i32 9226), .lit (.int .i32 176), .lit (.int .i32 177), .lit (.int .i32 9252), .lit (.int .i32 9227), .lit (.int .i32 9496), .lit (.int .i32 9488), .lit (.int .i32 9484), .lit (.int .i32 9492), .lit (.int .i32 9532), .lit (.int .i32 9146), .lit (.int .i32 9147), .lit (.int .i32 9472), .lit (.int .i32 9148), .lit (.int .i32 9149), .lit (.int .i32 9500), .lit (.int .i32 9508), .lit (.int .i32 9524), .lit (.int .i32 9516), .lit (.int .i32 9474), .lit (.int .i32 8804), .lit (.int .i32 8805), .lit (.int .i32 960), .lit (.int .i32 8800), .lit (.int .i32 163), .lit (.int .i32 183)]
def laid_tactile_sgr_flags {H : Type} : DataW H := .agg [.lit (.int .i64 1), .lit (.int .i64 2), .lit (.int .i64 3), .lit (.int .i64 4), .lit (.int .i64 5), .lit (.int .i64 7), .lit (.int .i64 8), .lit (.int .i64 9)]

/-- 'tactilelaw13.HostSplits': WHATEVER THE INPUT: true; the input reads as it did. -/
def hostSplitsSpec : ChangeSpec := { name := "hostSplits", fn := fun _ => fun
  | [d1, d2, d3, d4, d5] => { results := [.lit (.bool true)], args := [d1, d2, d3, d4, d5] }
  | _ => none }
def hostSplitsRow : OpenClaim := { program := "ytecnpoigegiooaagreatdoor", sum := "6e403788b18207e0936f7f3a89a35f736808f2a670f8960a6857be7cb2870840", func := "tactile/tactilelaw13.HostSplits", spec := "hostSplits", unfollowed := true, recurses := true, named := ["tactile/chartab.graphics", "tactile/chartab.widths", "math/bits.deBruijn64tab", "tactile/sgr.flags", "internal/strconv.uint64pow10", "math/bits.deBruijn32tab"], plainKeys := false, apart := false, laid := [("math/bits.deBruijn32tab", laid_math_bits_deBruijn32tab), ("math/bits.deBruijn64tab", laid_math_bits_deBruijn64tab), ("internal/strconv.uint64pow10", laid_internal_strconv_uint64pow10), ("tactile/chartab.widths", laid_tactile_chartab_widths), ("tactile/chartab.graphics", laid_tactile_chartab_graphics), ("tactile/sgr.flags", laid_tactile_sgr_flags)] }
def HostSplitsSaid : Prop := hostSplitsRow.holds Tryz.pinned (OpenSpec.ofChange hostSplitsSpec)

/-- ITS FALSE NEIGHBOUR: 'it returns false'. Refute it at one input. -/
def hostSplitsWrong : ChangeSpec := { name := "hostSplits", fn := fun _ => fun
  | [d1, d2, d3, d4, d5] => { results := [.lit (.bool false)], args := [d1, d2, d3, d4, d5] }
  | _ => none }
def HostSplitsWrongFalsely : Prop := hostSplitsRow.holds Tryz.pinned (OpenSpec.ofChange hostSplitsWrong)

/-- 'tactilelaw13.HostKeys': WHATEVER THE INPUT: true; the input reads as it did. -/
def hostKeysSpec : ChangeSpec := { name := "hostKeys", fn := fun _ => fun
  | [d1, d2, d3, d4, d5, d6, d7] => { results := [.lit (.bool true)], args := [d1, d2, d3, d4, d5, d6, d7] }
  | _ => none }
def hostKeysRow : OpenClaim := { program := "ytecnpoigegiooaagreatdoor", sum := "6e403788b18207e0936f7f3a89a35f736808f2a670f8960a6857be7cb2870840", func := "tactile/tactilelaw13.HostKeys", spec := "hostKeys", unfollowed := true, recurses := true, named := ["tactile/chartab.graphics", "tactile/chartab.widths", "math/bits.deBruijn64tab", "tactile/sgr.flags", "internal/strconv.uint64pow10", "math/bits.deBruijn32tab"], plainKeys := false, apart := false, laid := [("math/bits.deBruijn32tab", laid_math_bits_deBruijn32tab), ("math/bits.deBruijn64tab", laid_math_bits_deBruijn64tab), ("internal/strconv.uint64pow10", laid_internal_strconv_uint64pow10), ("tactile/chartab.widths", laid_tactile_chartab_widths), ("tactile/chartab.graphics", laid_tactile_chartab_graphics), ("tactile/sgr.flags", laid_tactile_sgr_flags)] }
def HostKeysSaid : Prop := hostKeysRow.holds Tryz.pinned (OpenSpec.ofChange hostKeysSpec)

/-- ITS FALSE NEIGHBOUR: 'it returns false'. Refute it at one input. -/
def hostKeysWrong : ChangeSpec := { name := "hostKeys", fn := fun _ => fun
  | [d1, d2, d3, d4, d5, d6, d7] => { results := [.lit (.bool false)], args := [d1, d2, d3, d4, d5, d6, d7] }
  | _ => none }
def HostKeysWrongFalsely : Prop := hostKeysRow.holds Tryz.pinned (OpenSpec.ofChange hostKeysWrong)

/- THE SECOND FORM. 'bulk': how many values and letters a reading holds, each counted each time it is reached (what is shared counts as often as it is met; a slice's spare places count too). A statement '..UptoSaid' is the law's where the arguments, and the package variables that the reading takes, are together of bulk at most 1048576: NARROWER than '..Said'. Prove '..Said' where nothing that the law and all that it calls make is longer than what came in: it says more and counts as full. Else prove '..UptoSaid'. A law counts once. -/
mutual
def uptoBulk {H : Type} : DataW H → Nat
  | .lit (.string bytes) => bytes.length + 1
  | .lit _ => 1
  | .nil => 1
  | .ptr d => uptoBulk d + 1
  | .slice elems spare => uptoBulkAll elems + uptoBulkAll spare + 1
  | .agg parts => uptoBulkAll parts + 1
  | .iface _ d => uptoBulk d + 1
  | .map entries => uptoBulkEntries entries + 1
  | .held _ => 1
def uptoBulkAll {H : Type} : List (DataW H) → Nat
  | [] => 0
  | d :: r => uptoBulk d + uptoBulkAll r
def uptoBulkEntries {H : Type} : List (Lit × DataW H) → Nat
  | [] => 0
  | x :: r => uptoBulkEntry x + uptoBulkEntries r
def uptoBulkEntry {H : Type} : Lit × DataW H → Nat
  | (.string bytes, d) => bytes.length + uptoBulk d + 1
  | (_, d) => uptoBulk d + 1
 end
def uptoSmall : (H : Type) → List (DataW H) → Bool := fun _ ds => decide (uptoBulkAll ds ≤ 1048576)
def OpenSpec.upto (s : _root_.Go.ChangeSpec) : _root_.Go.OpenSpec := { _root_.Go.OpenSpec.ofChange s with cond := some uptoSmall }

/-- 'tactilelaw13.HostSplits', WHERE WHAT IT READS IS OF BULK AT MOST 1048576: true; the input reads as it did. -/
def hostSplitsUptoRow : OpenClaim := { program := "ytecnpoigegiooaagreatdoor", sum := "6e403788b18207e0936f7f3a89a35f736808f2a670f8960a6857be7cb2870840", func := "tactile/tactilelaw13.HostSplits", spec := "hostSplits", unfollowed := true, recurses := true, named := ["tactile/chartab.graphics", "tactile/chartab.widths", "math/bits.deBruijn64tab", "tactile/sgr.flags", "internal/strconv.uint64pow10", "math/bits.deBruijn32tab"], plainKeys := false, apart := false, laid := [("math/bits.deBruijn32tab", laid_math_bits_deBruijn32tab), ("math/bits.deBruijn64tab", laid_math_bits_deBruijn64tab), ("internal/strconv.uint64pow10", laid_internal_strconv_uint64pow10), ("tactile/chartab.widths", laid_tactile_chartab_widths), ("tactile/chartab.graphics", laid_tactile_chartab_graphics), ("tactile/sgr.flags", laid_tactile_sgr_flags)], narrowed := true }
def HostSplitsUptoSaid : Prop := hostSplitsUptoRow.holds Tryz.pinned (OpenSpec.upto hostSplitsSpec)

/-- 'tactilelaw13.HostKeys', WHERE WHAT IT READS IS OF BULK AT MOST 1048576: true; the input reads as it did. -/
def hostKeysUptoRow : OpenClaim := { program := "ytecnpoigegiooaagreatdoor", sum := "6e403788b18207e0936f7f3a89a35f736808f2a670f8960a6857be7cb2870840", func := "tactile/tactilelaw13.HostKeys", spec := "hostKeys", unfollowed := true, recurses := true, named := ["tactile/chartab.graphics", "tactile/chartab.widths", "math/bits.deBruijn64tab", "tactile/sgr.flags", "internal/strconv.uint64pow10", "math/bits.deBruijn32tab"], plainKeys := false, apart := false, laid := [("math/bits.deBruijn32tab", laid_math_bits_deBruijn32tab), ("math/bits.deBruijn64tab", laid_math_bits_deBruijn64tab), ("internal/strconv.uint64pow10", laid_internal_strconv_uint64pow10), ("tactile/chartab.widths", laid_tactile_chartab_widths), ("tactile/chartab.graphics", laid_tactile_chartab_graphics), ("tactile/sgr.flags", laid_tactile_sgr_flags)], narrowed := true }
def HostKeysUptoSaid : Prop := hostKeysUptoRow.holds Tryz.pinned (OpenSpec.upto hostKeysSpec)

end Rows
end Go.Proofs.YtecnpoigegiooaaGreatDoor
