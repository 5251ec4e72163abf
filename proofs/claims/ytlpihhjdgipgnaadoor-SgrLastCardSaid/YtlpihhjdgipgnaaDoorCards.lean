/-
  DERIVED. GIVEN WITH THE SEED: THE CARDS: each row of YtlpihhjdgipgnaaDoorRows.lean that lists a variable, with what it lists TIED to the program's text (the seventh form; the later family's looks); each row that meets fmt, with fmt's text TOLD by the authors' own Lean function (tested against real Go, not proved from fmt's source: count such statements apart). THE CARD IS WHAT COUNTS. Prove the row's statement (the work); the ties are given (YtlpihhjdgipgnaaDoorTie.lean); close each card by the builder's one call (the guide's Derived/Test/ToyasCard.lean, 'card_holds'). Laid BY PROGRAM, IN A SANDBOX (cutbox-door.mjs). By AI agents, Wed Nov 11 2026. No macro, syntax, notation, axiom, sorry.
-/
import Derived.Test.YtlpihhjdgipgnaaDoorRows
import GoSem.ClaimSeven
namespace Go.Proofs.YtlpihhjdgipgnaaDoor
namespace Rows

/-- THE TIED CARD OF 'tactilelaw05.SgrApplies'. -/
def sgrAppliesCard : Claim7 := { stood := { row := sgrAppliesRow, standIns := [], harness := (true, "e3fb3998d17e643888bdafbd4bd9d5084c755d2389f02791014e3576ffc3c468"), looks := false }, kinds := [], alts := [], laidByText := true, laidKinds := [.data], laidTests := true, laidLooks := .later }
def SgrAppliesCardSaid : Prop := Claim7.holds Tryd.pinned (.plain (OpenSpec.ofChange sgrAppliesSpec)) sgrAppliesCard

/-- THE TIED CARD OF 'tactilelaw05.SgrTells'. -/
def sgrTellsCard : Claim7 := { stood := { row := sgrTellsRow, standIns := [], harness := (true, "e3fb3998d17e643888bdafbd4bd9d5084c755d2389f02791014e3576ffc3c468"), looks := false }, kinds := [], alts := [], laidByText := true, laidKinds := [.data], laidTests := true, laidLooks := .later }
def SgrTellsCardSaid : Prop := Claim7.holds Tryd.pinned (.plain (OpenSpec.ofChange sgrTellsSpec)) sgrTellsCard

/-- THE TIED CARD OF 'tactilelaw05.SgrParts'. -/
def sgrPartsCard : Claim7 := { stood := { row := sgrPartsRow, standIns := [], harness := (true, "e3fb3998d17e643888bdafbd4bd9d5084c755d2389f02791014e3576ffc3c468"), looks := false }, kinds := [], alts := [], laidByText := true, laidKinds := [.data], laidTests := true, laidLooks := .later }
def SgrPartsCardSaid : Prop := Claim7.holds Tryd.pinned (.plain (OpenSpec.ofChange sgrPartsSpec)) sgrPartsCard

/-- THE TIED CARD OF 'tactilelaw05.SgrLast'. -/
def sgrLastCard : Claim7 := { stood := { row := sgrLastRow, standIns := [], harness := (true, "e3fb3998d17e643888bdafbd4bd9d5084c755d2389f02791014e3576ffc3c468"), looks := false }, kinds := [], alts := [], laidByText := true, laidKinds := [.data], laidTests := true, laidLooks := .later }
def SgrLastCardSaid : Prop := Claim7.holds Tryd.pinned (.plain (OpenSpec.ofChange sgrLastSpec)) sgrLastCard

/-- THE SECOND FORM's CARD OF 'tactilelaw05.SgrApplies'. -/
def sgrAppliesUptoCard : Claim7 := { stood := { row := sgrAppliesUptoRow, standIns := [], harness := (true, "e3fb3998d17e643888bdafbd4bd9d5084c755d2389f02791014e3576ffc3c468"), looks := false }, kinds := [], alts := [], laidByText := true, laidKinds := [.data], laidTests := true, laidLooks := .later }
def SgrAppliesUptoCardSaid : Prop := Claim7.holds Tryd.pinned (.plain (OpenSpec.upto sgrAppliesSpec)) sgrAppliesUptoCard

/-- THE SECOND FORM's CARD OF 'tactilelaw05.SgrTells'. -/
def sgrTellsUptoCard : Claim7 := { stood := { row := sgrTellsUptoRow, standIns := [], harness := (true, "e3fb3998d17e643888bdafbd4bd9d5084c755d2389f02791014e3576ffc3c468"), looks := false }, kinds := [], alts := [], laidByText := true, laidKinds := [.data], laidTests := true, laidLooks := .later }
def SgrTellsUptoCardSaid : Prop := Claim7.holds Tryd.pinned (.plain (OpenSpec.upto sgrTellsSpec)) sgrTellsUptoCard

/-- THE SECOND FORM's CARD OF 'tactilelaw05.SgrParts'. -/
def sgrPartsUptoCard : Claim7 := { stood := { row := sgrPartsUptoRow, standIns := [], harness := (true, "e3fb3998d17e643888bdafbd4bd9d5084c755d2389f02791014e3576ffc3c468"), looks := false }, kinds := [], alts := [], laidByText := true, laidKinds := [.data], laidTests := true, laidLooks := .later }
def SgrPartsUptoCardSaid : Prop := Claim7.holds Tryd.pinned (.plain (OpenSpec.upto sgrPartsSpec)) sgrPartsUptoCard

/-- THE SECOND FORM's CARD OF 'tactilelaw05.SgrLast'. -/
def sgrLastUptoCard : Claim7 := { stood := { row := sgrLastUptoRow, standIns := [], harness := (true, "e3fb3998d17e643888bdafbd4bd9d5084c755d2389f02791014e3576ffc3c468"), looks := false }, kinds := [], alts := [], laidByText := true, laidKinds := [.data], laidTests := true, laidLooks := .later }
def SgrLastUptoCardSaid : Prop := Claim7.holds Tryd.pinned (.plain (OpenSpec.upto sgrLastSpec)) sgrLastUptoCard
end Rows
end Go.Proofs.YtlpihhjdgipgnaaDoor
