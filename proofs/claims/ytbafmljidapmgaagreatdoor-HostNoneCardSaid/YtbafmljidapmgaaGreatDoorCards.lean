/-
  DERIVED. GIVEN WITH THE SEED: THE CARDS: each row of YtbafmljidapmgaaGreatDoorRows.lean that lists a variable, with what it lists TIED to the program's text (the seventh form; the later family's looks); each row that meets fmt, with fmt's text TOLD by the authors' own Lean function (tested against real Go, not proved from fmt's source: count such statements apart). THE CARD IS WHAT COUNTS. Prove the row's statement (the work); the ties are given (YtbafmljidapmgaaGreatDoorTie.lean); close each card by the builder's one call (the guide's Derived/Test/ToyasCard.lean, 'card_holds'). Laid BY PROGRAM, IN A SANDBOX (cutbox-door.mjs). By AI agents, Wed Nov 11 2026. No macro, syntax, notation, axiom, sorry.
-/
import Derived.Test.YtbafmljidapmgaaGreatDoorRows
import GoSem.ClaimSeven
namespace Go.Proofs.YtbafmljidapmgaaGreatDoor
namespace Rows

/-- THE TIED CARD OF 'tactilelaw13.HostPlays'. -/
def hostPlaysCard : Claim7 := { stood := { row := hostPlaysRow, standIns := [], harness := (true, "5fc4c342e7e1249e8e261104053bb4d6d1f33a530cf442a8f7c3e13cc646ce00"), looks := false }, kinds := [], alts := [], laidByText := true, laidKinds := [.data, .data, .data, .data, .data, .data], laidTests := true, laidLooks := .later }
def HostPlaysCardSaid : Prop := Claim7.holds Tryz.pinned (.plain (OpenSpec.ofChange hostPlaysSpec)) hostPlaysCard

/-- THE TIED CARD OF 'tactilelaw13.HostSplits'. -/
def hostSplitsCard : Claim7 := { stood := { row := hostSplitsRow, standIns := [], harness := (true, "5fc4c342e7e1249e8e261104053bb4d6d1f33a530cf442a8f7c3e13cc646ce00"), looks := false }, kinds := [], alts := [], laidByText := true, laidKinds := [.data, .data, .data, .data, .data, .data], laidTests := true, laidLooks := .later }
def HostSplitsCardSaid : Prop := Claim7.holds Tryz.pinned (.plain (OpenSpec.ofChange hostSplitsSpec)) hostSplitsCard

/-- THE TIED CARD OF 'tactilelaw13.HostKeys'. -/
def hostKeysCard : Claim7 := { stood := { row := hostKeysRow, standIns := [], harness := (true, "5fc4c342e7e1249e8e261104053bb4d6d1f33a530cf442a8f7c3e13cc646ce00"), looks := false }, kinds := [], alts := [], laidByText := true, laidKinds := [.data, .data, .data, .data, .data, .data], laidTests := true, laidLooks := .later }
def HostKeysCardSaid : Prop := Claim7.holds Tryz.pinned (.plain (OpenSpec.ofChange hostKeysSpec)) hostKeysCard

/-- THE TIED CARD OF 'tactilelaw13.HostNone'. -/
def hostNoneCard : Claim7 := { stood := { row := hostNoneRow, standIns := [], harness := (true, "5fc4c342e7e1249e8e261104053bb4d6d1f33a530cf442a8f7c3e13cc646ce00"), looks := false }, kinds := [], alts := [], laidByText := true, laidKinds := [.data, .data, .data, .data, .data, .data], laidTests := true, laidLooks := .later }
def HostNoneCardSaid : Prop := Claim7.holds Tryz.pinned (.plain (OpenSpec.ofChange hostNoneSpec)) hostNoneCard

/-- THE SECOND FORM's CARD OF 'tactilelaw13.HostPlays'. -/
def hostPlaysUptoCard : Claim7 := { stood := { row := hostPlaysUptoRow, standIns := [], harness := (true, "5fc4c342e7e1249e8e261104053bb4d6d1f33a530cf442a8f7c3e13cc646ce00"), looks := false }, kinds := [], alts := [], laidByText := true, laidKinds := [.data, .data, .data, .data, .data, .data], laidTests := true, laidLooks := .later }
def HostPlaysUptoCardSaid : Prop := Claim7.holds Tryz.pinned (.plain (OpenSpec.upto hostPlaysSpec)) hostPlaysUptoCard

/-- THE SECOND FORM's CARD OF 'tactilelaw13.HostSplits'. -/
def hostSplitsUptoCard : Claim7 := { stood := { row := hostSplitsUptoRow, standIns := [], harness := (true, "5fc4c342e7e1249e8e261104053bb4d6d1f33a530cf442a8f7c3e13cc646ce00"), looks := false }, kinds := [], alts := [], laidByText := true, laidKinds := [.data, .data, .data, .data, .data, .data], laidTests := true, laidLooks := .later }
def HostSplitsUptoCardSaid : Prop := Claim7.holds Tryz.pinned (.plain (OpenSpec.upto hostSplitsSpec)) hostSplitsUptoCard

/-- THE SECOND FORM's CARD OF 'tactilelaw13.HostKeys'. -/
def hostKeysUptoCard : Claim7 := { stood := { row := hostKeysUptoRow, standIns := [], harness := (true, "5fc4c342e7e1249e8e261104053bb4d6d1f33a530cf442a8f7c3e13cc646ce00"), looks := false }, kinds := [], alts := [], laidByText := true, laidKinds := [.data, .data, .data, .data, .data, .data], laidTests := true, laidLooks := .later }
def HostKeysUptoCardSaid : Prop := Claim7.holds Tryz.pinned (.plain (OpenSpec.upto hostKeysSpec)) hostKeysUptoCard

/-- THE SECOND FORM's CARD OF 'tactilelaw13.HostNone'. -/
def hostNoneUptoCard : Claim7 := { stood := { row := hostNoneUptoRow, standIns := [], harness := (true, "5fc4c342e7e1249e8e261104053bb4d6d1f33a530cf442a8f7c3e13cc646ce00"), looks := false }, kinds := [], alts := [], laidByText := true, laidKinds := [.data, .data, .data, .data, .data, .data], laidTests := true, laidLooks := .later }
def HostNoneUptoCardSaid : Prop := Claim7.holds Tryz.pinned (.plain (OpenSpec.upto hostNoneSpec)) hostNoneUptoCard
end Rows
end Go.Proofs.YtbafmljidapmgaaGreatDoor
