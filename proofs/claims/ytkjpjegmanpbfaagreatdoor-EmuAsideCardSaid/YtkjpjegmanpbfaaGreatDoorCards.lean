/-
  DERIVED. GIVEN WITH THE SEED: THE CARDS: each row of YtkjpjegmanpbfaaGreatDoorRows.lean that lists a variable, with what it lists TIED to the program's text (the seventh form; the later family's looks); each row that meets fmt, with fmt's text TOLD by the authors' own Lean function (tested against real Go, not proved from fmt's source: count such statements apart). THE CARD IS WHAT COUNTS. Prove the row's statement (the work); the ties are given (YtkjpjegmanpbfaaGreatDoorTie.lean); close each card by the builder's one call (the guide's Derived/Test/ToyasCard.lean, 'card_holds'). Laid BY PROGRAM, IN A SANDBOX (cutbox-door.mjs). By AI agents, Wed Nov 11 2026. No macro, syntax, notation, axiom, sorry.
-/
import Derived.Test.YtkjpjegmanpbfaaGreatDoorRows
import GoSem.ClaimSeven
namespace Go.Proofs.YtkjpjegmanpbfaaGreatDoor
namespace Rows

/-- THE TIED CARD OF 'tactilelaw12.EmuNone'. -/
def emuNoneCard : Claim7 := { stood := { row := emuNoneRow, standIns := [], harness := (true, "9b5f8af963fa389aeceb90a4abebde179caba37f15cb347212a11732d8a698aa"), looks := false }, kinds := [], alts := [], laidByText := true, laidKinds := [.data, .data, .data, .data, .data, .data], laidTests := true, laidLooks := .later }
def EmuNoneCardSaid : Prop := Claim7.holds Tryz.pinned (.plain (OpenSpec.ofChange emuNoneSpec)) emuNoneCard

/-- THE TIED CARD OF 'tactilelaw12.EmuReset'. -/
def emuResetCard : Claim7 := { stood := { row := emuResetRow, standIns := [], harness := (true, "9b5f8af963fa389aeceb90a4abebde179caba37f15cb347212a11732d8a698aa"), looks := false }, kinds := [], alts := [], laidByText := true, laidKinds := [.data, .data, .data, .data, .data, .data], laidTests := true, laidLooks := .later }
def EmuResetCardSaid : Prop := Claim7.holds Tryz.pinned (.plain (OpenSpec.ofChange emuResetSpec)) emuResetCard

/-- THE TIED CARD OF 'tactilelaw12.EmuAside'. -/
def emuAsideCard : Claim7 := { stood := { row := emuAsideRow, standIns := [], harness := (true, "9b5f8af963fa389aeceb90a4abebde179caba37f15cb347212a11732d8a698aa"), looks := false }, kinds := [], alts := [], laidByText := true, laidKinds := [.data, .data, .data, .data, .data, .data], laidTests := true, laidLooks := .later }
def EmuAsideCardSaid : Prop := Claim7.holds Tryz.pinned (.plain (OpenSpec.ofChange emuAsideSpec)) emuAsideCard

/-- THE TIED CARD OF 'tactilelaw12.EmuPlain'. -/
def emuPlainCard : Claim7 := { stood := { row := emuPlainRow, standIns := [], harness := (true, "9b5f8af963fa389aeceb90a4abebde179caba37f15cb347212a11732d8a698aa"), looks := false }, kinds := [], alts := [], laidByText := true, laidKinds := [.data, .data, .data, .data, .data, .data], laidTests := true, laidLooks := .later }
def EmuPlainCardSaid : Prop := Claim7.holds Tryz.pinned (.plain (OpenSpec.ofChange emuPlainSpec)) emuPlainCard

/-- THE SECOND FORM's CARD OF 'tactilelaw12.EmuNone'. -/
def emuNoneUptoCard : Claim7 := { stood := { row := emuNoneUptoRow, standIns := [], harness := (true, "9b5f8af963fa389aeceb90a4abebde179caba37f15cb347212a11732d8a698aa"), looks := false }, kinds := [], alts := [], laidByText := true, laidKinds := [.data, .data, .data, .data, .data, .data], laidTests := true, laidLooks := .later }
def EmuNoneUptoCardSaid : Prop := Claim7.holds Tryz.pinned (.plain (OpenSpec.upto emuNoneSpec)) emuNoneUptoCard

/-- THE SECOND FORM's CARD OF 'tactilelaw12.EmuReset'. -/
def emuResetUptoCard : Claim7 := { stood := { row := emuResetUptoRow, standIns := [], harness := (true, "9b5f8af963fa389aeceb90a4abebde179caba37f15cb347212a11732d8a698aa"), looks := false }, kinds := [], alts := [], laidByText := true, laidKinds := [.data, .data, .data, .data, .data, .data], laidTests := true, laidLooks := .later }
def EmuResetUptoCardSaid : Prop := Claim7.holds Tryz.pinned (.plain (OpenSpec.upto emuResetSpec)) emuResetUptoCard

/-- THE SECOND FORM's CARD OF 'tactilelaw12.EmuAside'. -/
def emuAsideUptoCard : Claim7 := { stood := { row := emuAsideUptoRow, standIns := [], harness := (true, "9b5f8af963fa389aeceb90a4abebde179caba37f15cb347212a11732d8a698aa"), looks := false }, kinds := [], alts := [], laidByText := true, laidKinds := [.data, .data, .data, .data, .data, .data], laidTests := true, laidLooks := .later }
def EmuAsideUptoCardSaid : Prop := Claim7.holds Tryz.pinned (.plain (OpenSpec.upto emuAsideSpec)) emuAsideUptoCard

/-- THE SECOND FORM's CARD OF 'tactilelaw12.EmuPlain'. -/
def emuPlainUptoCard : Claim7 := { stood := { row := emuPlainUptoRow, standIns := [], harness := (true, "9b5f8af963fa389aeceb90a4abebde179caba37f15cb347212a11732d8a698aa"), looks := false }, kinds := [], alts := [], laidByText := true, laidKinds := [.data, .data, .data, .data, .data, .data], laidTests := true, laidLooks := .later }
def EmuPlainUptoCardSaid : Prop := Claim7.holds Tryz.pinned (.plain (OpenSpec.upto emuPlainSpec)) emuPlainUptoCard
end Rows
end Go.Proofs.YtkjpjegmanpbfaaGreatDoor
