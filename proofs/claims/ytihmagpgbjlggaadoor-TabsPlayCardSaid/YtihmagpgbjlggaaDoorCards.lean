/-
  DERIVED. GIVEN WITH THE SEED: THE CARDS: each row of YtihmagpgbjlggaaDoorRows.lean that lists a variable, with what it lists TIED to the program's text (the seventh form; the later family's looks); each row that meets fmt, with fmt's text TOLD by the authors' own Lean function (tested against real Go, not proved from fmt's source: count such statements apart). THE CARD IS WHAT COUNTS. Prove the row's statement (the work); the ties are given (YtihmagpgbjlggaaDoorTie.lean); close each card by the builder's one call (the guide's Derived/Test/ToyasCard.lean, 'card_holds'). Laid BY PROGRAM, IN A SANDBOX (cutbox-door.mjs). By AI agents, Wed Nov 11 2026. No macro, syntax, notation, axiom, sorry.
-/
import Derived.Test.YtihmagpgbjlggaaDoorRows
import GoSem.ClaimSeven
namespace Go.Proofs.YtihmagpgbjlggaaDoor
namespace Rows

/-- THE TIED CARD OF 'tactilelaw07.TabsPlay'. -/
def tabsPlayCard : Claim7 := { stood := { row := tabsPlayRow, standIns := [], harness := (true, "e2e4cae3edc4902b4d088223a1562dcf7a1788c8ceeb9b8dbc3a3398e73728c7"), looks := false }, kinds := [], alts := [], laidByText := true, laidKinds := [.data], laidTests := true, laidLooks := .later }
def TabsPlayCardSaid : Prop := Claim7.holds Tryd.pinned (.plain (OpenSpec.ofChange tabsPlaySpec)) tabsPlayCard

/-- THE TIED CARD OF 'tactilelaw07.TabsSteps'. -/
def tabsStepsCard : Claim7 := { stood := { row := tabsStepsRow, standIns := [], harness := (true, "e2e4cae3edc4902b4d088223a1562dcf7a1788c8ceeb9b8dbc3a3398e73728c7"), looks := false }, kinds := [], alts := [], laidByText := true, laidKinds := [.data], laidTests := true, laidLooks := .later }
def TabsStepsCardSaid : Prop := Claim7.holds Tryd.pinned (.plain (OpenSpec.ofChange tabsStepsSpec)) tabsStepsCard

/-- THE TIED CARD OF 'tactilelaw07.TabsNone'. -/
def tabsNoneCard : Claim7 := { stood := { row := tabsNoneRow, standIns := [], harness := (true, "e2e4cae3edc4902b4d088223a1562dcf7a1788c8ceeb9b8dbc3a3398e73728c7"), looks := false }, kinds := [], alts := [], laidByText := true, laidKinds := [.data], laidTests := true, laidLooks := .later }
def TabsNoneCardSaid : Prop := Claim7.holds Tryd.pinned (.plain (OpenSpec.ofChange tabsNoneSpec)) tabsNoneCard

/-- THE SECOND FORM's CARD OF 'tactilelaw07.TabsPlay'. -/
def tabsPlayUptoCard : Claim7 := { stood := { row := tabsPlayUptoRow, standIns := [], harness := (true, "e2e4cae3edc4902b4d088223a1562dcf7a1788c8ceeb9b8dbc3a3398e73728c7"), looks := false }, kinds := [], alts := [], laidByText := true, laidKinds := [.data], laidTests := true, laidLooks := .later }
def TabsPlayUptoCardSaid : Prop := Claim7.holds Tryd.pinned (.plain (OpenSpec.upto tabsPlaySpec)) tabsPlayUptoCard

/-- THE SECOND FORM's CARD OF 'tactilelaw07.TabsSteps'. -/
def tabsStepsUptoCard : Claim7 := { stood := { row := tabsStepsUptoRow, standIns := [], harness := (true, "e2e4cae3edc4902b4d088223a1562dcf7a1788c8ceeb9b8dbc3a3398e73728c7"), looks := false }, kinds := [], alts := [], laidByText := true, laidKinds := [.data], laidTests := true, laidLooks := .later }
def TabsStepsUptoCardSaid : Prop := Claim7.holds Tryd.pinned (.plain (OpenSpec.upto tabsStepsSpec)) tabsStepsUptoCard

/-- THE SECOND FORM's CARD OF 'tactilelaw07.TabsNone'. -/
def tabsNoneUptoCard : Claim7 := { stood := { row := tabsNoneUptoRow, standIns := [], harness := (true, "e2e4cae3edc4902b4d088223a1562dcf7a1788c8ceeb9b8dbc3a3398e73728c7"), looks := false }, kinds := [], alts := [], laidByText := true, laidKinds := [.data], laidTests := true, laidLooks := .later }
def TabsNoneUptoCardSaid : Prop := Claim7.holds Tryd.pinned (.plain (OpenSpec.upto tabsNoneSpec)) tabsNoneUptoCard
end Rows
end Go.Proofs.YtihmagpgbjlggaaDoor
