/-
  DERIVED. GIVEN WITH THE SEED: THE CARDS: each row of YtecnpoigegiooaaGreatDoorRows.lean that lists a variable, with what it lists TIED to the program's text (the seventh form; the later family's looks); each row that meets fmt, with fmt's text TOLD by the authors' own Lean function (tested against real Go, not proved from fmt's source: count such statements apart). THE CARD IS WHAT COUNTS. Prove the row's statement (the work); the ties are given (YtecnpoigegiooaaGreatDoorTie.lean); close each card by the builder's one call (the guide's Derived/Test/ToyasCard.lean, 'card_holds'). Laid BY PROGRAM, IN A SANDBOX (cutbox-door.mjs). By AI agents, Wed Nov 11 2026. No macro, syntax, notation, axiom, sorry.
-/
import Derived.Test.YtecnpoigegiooaaGreatDoorRows
import GoSem.ClaimSeven
namespace Go.Proofs.YtecnpoigegiooaaGreatDoor
namespace Rows

/-- THE TIED CARD OF 'tactilelaw13.HostSplits'. -/
def hostSplitsCard : Claim7 := { stood := { row := hostSplitsRow, standIns := [], harness := (true, "f73014697015073ae4413a1efba90f1e5ba61e72d5a4b32804cc33a79009ba85"), looks := false }, kinds := [], alts := [], laidByText := true, laidKinds := [.data, .data, .data, .data, .data, .data], laidTests := true, laidLooks := .later }
def HostSplitsCardSaid : Prop := Claim7.holds Tryz.pinned (.plain (OpenSpec.ofChange hostSplitsSpec)) hostSplitsCard

/-- THE TIED CARD OF 'tactilelaw13.HostKeys'. -/
def hostKeysCard : Claim7 := { stood := { row := hostKeysRow, standIns := [], harness := (true, "f73014697015073ae4413a1efba90f1e5ba61e72d5a4b32804cc33a79009ba85"), looks := false }, kinds := [], alts := [], laidByText := true, laidKinds := [.data, .data, .data, .data, .data, .data], laidTests := true, laidLooks := .later }
def HostKeysCardSaid : Prop := Claim7.holds Tryz.pinned (.plain (OpenSpec.ofChange hostKeysSpec)) hostKeysCard

/-- THE SECOND FORM's CARD OF 'tactilelaw13.HostSplits'. -/
def hostSplitsUptoCard : Claim7 := { stood := { row := hostSplitsUptoRow, standIns := [], harness := (true, "f73014697015073ae4413a1efba90f1e5ba61e72d5a4b32804cc33a79009ba85"), looks := false }, kinds := [], alts := [], laidByText := true, laidKinds := [.data, .data, .data, .data, .data, .data], laidTests := true, laidLooks := .later }
def HostSplitsUptoCardSaid : Prop := Claim7.holds Tryz.pinned (.plain (OpenSpec.upto hostSplitsSpec)) hostSplitsUptoCard

/-- THE SECOND FORM's CARD OF 'tactilelaw13.HostKeys'. -/
def hostKeysUptoCard : Claim7 := { stood := { row := hostKeysUptoRow, standIns := [], harness := (true, "f73014697015073ae4413a1efba90f1e5ba61e72d5a4b32804cc33a79009ba85"), looks := false }, kinds := [], alts := [], laidByText := true, laidKinds := [.data, .data, .data, .data, .data, .data], laidTests := true, laidLooks := .later }
def HostKeysUptoCardSaid : Prop := Claim7.holds Tryz.pinned (.plain (OpenSpec.upto hostKeysSpec)) hostKeysUptoCard
end Rows
end Go.Proofs.YtecnpoigegiooaaGreatDoor
