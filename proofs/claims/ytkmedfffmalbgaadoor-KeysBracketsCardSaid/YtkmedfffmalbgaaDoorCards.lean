/-
  DERIVED. GIVEN WITH THE SEED: THE CARDS: each row of YtkmedfffmalbgaaDoorRows.lean that lists a variable, with what it lists TIED to the program's text (the seventh form; the later family's looks); each row that meets fmt, with fmt's text TOLD by the authors' own Lean function (tested against real Go, not proved from fmt's source: count such statements apart). THE CARD IS WHAT COUNTS. Prove the row's statement (the work); the ties are given (YtkmedfffmalbgaaDoorTie.lean); close each card by the builder's one call (the guide's Derived/Test/ToyasCard.lean, 'card_holds'). Laid BY PROGRAM, IN A SANDBOX (cutbox-door.mjs). By AI agents, Wed Nov 11 2026. No macro, syntax, notation, axiom, sorry.
-/
import Derived.Test.YtkmedfffmalbgaaDoorRows
import GoSem.ClaimSeven
namespace Go.Proofs.YtkmedfffmalbgaaDoor
namespace Rows

/-- THE TIED CARD OF 'tactilelaw11.KeysPaste'. -/
def keysPasteCard : Claim7 := { stood := { row := keysPasteRow, standIns := [], harness := (true, "dfa788a64ca58d02ada8ea34c7b3301904ed57f8dc12d7aac54e84a224228022"), looks := false }, kinds := [], alts := [], laidByText := true, laidKinds := [.data, .data, .data], laidTests := true, laidLooks := .later }
def KeysPasteCardSaid : Prop := Claim7.holds Tryd.pinned (.plain (OpenSpec.ofChange keysPasteSpec)) keysPasteCard

/-- THE TIED CARD OF 'tactilelaw11.KeysReports'. -/
def keysReportsCard : Claim7 := { stood := { row := keysReportsRow, standIns := [], harness := (true, "dfa788a64ca58d02ada8ea34c7b3301904ed57f8dc12d7aac54e84a224228022"), looks := false }, kinds := [], alts := [], laidByText := true, laidKinds := [.data, .data, .data], laidTests := true, laidLooks := .later }
def KeysReportsCardSaid : Prop := Claim7.holds Tryd.pinned (.plain (OpenSpec.ofChange keysReportsSpec)) keysReportsCard

/-- THE TIED CARD OF 'tactilelaw11.KeysApart'. -/
def keysApartCard : Claim7 := { stood := { row := keysApartRow, standIns := [], harness := (true, "dfa788a64ca58d02ada8ea34c7b3301904ed57f8dc12d7aac54e84a224228022"), looks := false }, kinds := [], alts := [], laidByText := true, laidKinds := [.data, .data, .data], laidTests := true, laidLooks := .later }
def KeysApartCardSaid : Prop := Claim7.holds Tryd.pinned (.plain (OpenSpec.ofChange keysApartSpec)) keysApartCard

/-- THE TIED CARD OF 'tactilelaw11.KeysRunes'. -/
def keysRunesCard : Claim7 := { stood := { row := keysRunesRow, standIns := [], harness := (true, "dfa788a64ca58d02ada8ea34c7b3301904ed57f8dc12d7aac54e84a224228022"), looks := false }, kinds := [], alts := [], laidByText := true, laidKinds := [.data, .data, .data], laidTests := true, laidLooks := .later }
def KeysRunesCardSaid : Prop := Claim7.holds Tryd.pinned (.plain (OpenSpec.ofChange keysRunesSpec)) keysRunesCard

/-- THE TIED CARD OF 'tactilelaw11.KeysBrackets'. -/
def keysBracketsCard : Claim7 := { stood := { row := keysBracketsRow, standIns := [], harness := (true, "dfa788a64ca58d02ada8ea34c7b3301904ed57f8dc12d7aac54e84a224228022"), looks := false }, kinds := [], alts := [], laidByText := true, laidKinds := [.data, .data, .data], laidTests := true, laidLooks := .later }
def KeysBracketsCardSaid : Prop := Claim7.holds Tryd.pinned (.plain (OpenSpec.ofChange keysBracketsSpec)) keysBracketsCard

/-- THE SECOND FORM's CARD OF 'tactilelaw11.KeysPaste'. -/
def keysPasteUptoCard : Claim7 := { stood := { row := keysPasteUptoRow, standIns := [], harness := (true, "dfa788a64ca58d02ada8ea34c7b3301904ed57f8dc12d7aac54e84a224228022"), looks := false }, kinds := [], alts := [], laidByText := true, laidKinds := [.data, .data, .data], laidTests := true, laidLooks := .later }
def KeysPasteUptoCardSaid : Prop := Claim7.holds Tryd.pinned (.plain (OpenSpec.upto keysPasteSpec)) keysPasteUptoCard

/-- THE SECOND FORM's CARD OF 'tactilelaw11.KeysReports'. -/
def keysReportsUptoCard : Claim7 := { stood := { row := keysReportsUptoRow, standIns := [], harness := (true, "dfa788a64ca58d02ada8ea34c7b3301904ed57f8dc12d7aac54e84a224228022"), looks := false }, kinds := [], alts := [], laidByText := true, laidKinds := [.data, .data, .data], laidTests := true, laidLooks := .later }
def KeysReportsUptoCardSaid : Prop := Claim7.holds Tryd.pinned (.plain (OpenSpec.upto keysReportsSpec)) keysReportsUptoCard

/-- THE SECOND FORM's CARD OF 'tactilelaw11.KeysApart'. -/
def keysApartUptoCard : Claim7 := { stood := { row := keysApartUptoRow, standIns := [], harness := (true, "dfa788a64ca58d02ada8ea34c7b3301904ed57f8dc12d7aac54e84a224228022"), looks := false }, kinds := [], alts := [], laidByText := true, laidKinds := [.data, .data, .data], laidTests := true, laidLooks := .later }
def KeysApartUptoCardSaid : Prop := Claim7.holds Tryd.pinned (.plain (OpenSpec.upto keysApartSpec)) keysApartUptoCard

/-- THE SECOND FORM's CARD OF 'tactilelaw11.KeysRunes'. -/
def keysRunesUptoCard : Claim7 := { stood := { row := keysRunesUptoRow, standIns := [], harness := (true, "dfa788a64ca58d02ada8ea34c7b3301904ed57f8dc12d7aac54e84a224228022"), looks := false }, kinds := [], alts := [], laidByText := true, laidKinds := [.data, .data, .data], laidTests := true, laidLooks := .later }
def KeysRunesUptoCardSaid : Prop := Claim7.holds Tryd.pinned (.plain (OpenSpec.upto keysRunesSpec)) keysRunesUptoCard

/-- THE SECOND FORM's CARD OF 'tactilelaw11.KeysBrackets'. -/
def keysBracketsUptoCard : Claim7 := { stood := { row := keysBracketsUptoRow, standIns := [], harness := (true, "dfa788a64ca58d02ada8ea34c7b3301904ed57f8dc12d7aac54e84a224228022"), looks := false }, kinds := [], alts := [], laidByText := true, laidKinds := [.data, .data, .data], laidTests := true, laidLooks := .later }
def KeysBracketsUptoCardSaid : Prop := Claim7.holds Tryd.pinned (.plain (OpenSpec.upto keysBracketsSpec)) keysBracketsUptoCard
end Rows
end Go.Proofs.YtkmedfffmalbgaaDoor
