/-
  DERIVED. GIVEN WITH THE SEED: THE CARDS: each row of YtjffiikdfoejhaaDoorRows.lean that lists a variable, with what it lists TIED to the program's text (the seventh form; the later family's looks); each row that meets fmt, with fmt's text TOLD by the authors' own Lean function (tested against real Go, not proved from fmt's source: count such statements apart). THE CARD IS WHAT COUNTS. Prove the row's statement (the work); the ties are given (YtjffiikdfoejhaaDoorTie.lean); close each card by the builder's one call (the guide's Derived/Test/ToyasCard.lean, 'card_holds'). Laid BY PROGRAM, IN A SANDBOX (cutbox-door.mjs). By AI agents, Wed Nov 11 2026. No macro, syntax, notation, axiom, sorry.
-/
import Derived.Test.YtjffiikdfoejhaaDoorRows
import GoSem.ClaimSeven
namespace Go.Proofs.YtjffiikdfoejhaaDoor
namespace Rows

/-- THE TIED CARD OF 'tactilelaw01.ChartabMay'. -/
def chartabMayCard : Claim7 := { stood := { row := chartabMayRow, standIns := [], harness := (true, "877d855271faf8eb42de88cb975d7791cdfe9dedc74be6fc7917949a5351dc0d"), looks := false }, kinds := [], alts := [], laidByText := true, laidKinds := [.data, .data, .data], laidTests := true, laidLooks := .later }
def ChartabMayCardSaid : Prop := Claim7.holds Tryd.pinned (.plain (OpenSpec.ofChange chartabMaySpec)) chartabMayCard

/-- THE TIED CARD OF 'tactilelaw01.ChartabWidth'. -/
def chartabWidthCard : Claim7 := { stood := { row := chartabWidthRow, standIns := [], harness := (true, "877d855271faf8eb42de88cb975d7791cdfe9dedc74be6fc7917949a5351dc0d"), looks := false }, kinds := [], alts := [], laidByText := true, laidKinds := [.data, .data, .data], laidTests := true, laidLooks := .later }
def ChartabWidthCardSaid : Prop := Claim7.holds Tryd.pinned (.plain (OpenSpec.ofChange chartabWidthSpec)) chartabWidthCard

/-- THE TIED CARD OF 'tactilelaw01.ChartabClass'. -/
def chartabClassCard : Claim7 := { stood := { row := chartabClassRow, standIns := [], harness := (true, "877d855271faf8eb42de88cb975d7791cdfe9dedc74be6fc7917949a5351dc0d"), looks := false }, kinds := [], alts := [], laidByText := true, laidKinds := [.data, .data, .data], laidTests := true, laidLooks := .later }
def ChartabClassCardSaid : Prop := Claim7.holds Tryd.pinned (.plain (OpenSpec.ofChange chartabClassSpec)) chartabClassCard

/-- THE TIED CARD OF 'tactilelaw01.ChartabCase'. -/
def chartabCaseCard : Claim7 := { stood := { row := chartabCaseRow, standIns := [], harness := (true, "877d855271faf8eb42de88cb975d7791cdfe9dedc74be6fc7917949a5351dc0d"), looks := false }, kinds := [], alts := [], laidByText := true, laidKinds := [.data, .data, .data], laidTests := true, laidLooks := .later }
def ChartabCaseCardSaid : Prop := Claim7.holds Tryd.pinned (.plain (OpenSpec.ofChange chartabCaseSpec)) chartabCaseCard

/-- THE TIED CARD OF 'tactilelaw01.ChartabCharset'. -/
def chartabCharsetCard : Claim7 := { stood := { row := chartabCharsetRow, standIns := [], harness := (true, "877d855271faf8eb42de88cb975d7791cdfe9dedc74be6fc7917949a5351dc0d"), looks := false }, kinds := [], alts := [], laidByText := true, laidKinds := [.data, .data, .data], laidTests := true, laidLooks := .later }
def ChartabCharsetCardSaid : Prop := Claim7.holds Tryd.pinned (.plain (OpenSpec.ofChange chartabCharsetSpec)) chartabCharsetCard

/-- THE TIED CARD OF 'tactilelaw01.ChartabName'. -/
def chartabNameCard : Claim7 := { stood := { row := chartabNameRow, standIns := [], harness := (true, "877d855271faf8eb42de88cb975d7791cdfe9dedc74be6fc7917949a5351dc0d"), looks := false }, kinds := [], alts := [], laidByText := true, laidKinds := [.data, .data, .data], laidTests := true, laidLooks := .later }
def ChartabNameCardSaid : Prop := Claim7.holds Tryd.pinned (.plain (OpenSpec.ofChange chartabNameSpec)) chartabNameCard

/-- THE TIED CARD OF 'tactilelaw01.ChartabFits'. -/
def chartabFitsCard : Claim7 := { stood := { row := chartabFitsRow, standIns := [], harness := (true, "877d855271faf8eb42de88cb975d7791cdfe9dedc74be6fc7917949a5351dc0d"), looks := false }, kinds := [], alts := [], laidByText := true, laidKinds := [.data, .data, .data], laidTests := true, laidLooks := .later }
def ChartabFitsCardSaid : Prop := Claim7.holds Tryd.pinned (.plain (OpenSpec.ofChange chartabFitsSpec)) chartabFitsCard

/-- THE TIED CARD OF 'tactilelaw01.ChartabTurns'. -/
def chartabTurnsCard : Claim7 := { stood := { row := chartabTurnsRow, standIns := [], harness := (true, "877d855271faf8eb42de88cb975d7791cdfe9dedc74be6fc7917949a5351dc0d"), looks := false }, kinds := [], alts := [], laidByText := true, laidKinds := [.data, .data, .data], laidTests := true, laidLooks := .later }
def ChartabTurnsCardSaid : Prop := Claim7.holds Tryd.pinned (.plain (OpenSpec.ofChange chartabTurnsSpec)) chartabTurnsCard

/-- THE SECOND FORM's CARD OF 'tactilelaw01.ChartabMay'. -/
def chartabMayUptoCard : Claim7 := { stood := { row := chartabMayUptoRow, standIns := [], harness := (true, "877d855271faf8eb42de88cb975d7791cdfe9dedc74be6fc7917949a5351dc0d"), looks := false }, kinds := [], alts := [], laidByText := true, laidKinds := [.data, .data, .data], laidTests := true, laidLooks := .later }
def ChartabMayUptoCardSaid : Prop := Claim7.holds Tryd.pinned (.plain (OpenSpec.upto chartabMaySpec)) chartabMayUptoCard

/-- THE SECOND FORM's CARD OF 'tactilelaw01.ChartabWidth'. -/
def chartabWidthUptoCard : Claim7 := { stood := { row := chartabWidthUptoRow, standIns := [], harness := (true, "877d855271faf8eb42de88cb975d7791cdfe9dedc74be6fc7917949a5351dc0d"), looks := false }, kinds := [], alts := [], laidByText := true, laidKinds := [.data, .data, .data], laidTests := true, laidLooks := .later }
def ChartabWidthUptoCardSaid : Prop := Claim7.holds Tryd.pinned (.plain (OpenSpec.upto chartabWidthSpec)) chartabWidthUptoCard

/-- THE SECOND FORM's CARD OF 'tactilelaw01.ChartabClass'. -/
def chartabClassUptoCard : Claim7 := { stood := { row := chartabClassUptoRow, standIns := [], harness := (true, "877d855271faf8eb42de88cb975d7791cdfe9dedc74be6fc7917949a5351dc0d"), looks := false }, kinds := [], alts := [], laidByText := true, laidKinds := [.data, .data, .data], laidTests := true, laidLooks := .later }
def ChartabClassUptoCardSaid : Prop := Claim7.holds Tryd.pinned (.plain (OpenSpec.upto chartabClassSpec)) chartabClassUptoCard

/-- THE SECOND FORM's CARD OF 'tactilelaw01.ChartabCase'. -/
def chartabCaseUptoCard : Claim7 := { stood := { row := chartabCaseUptoRow, standIns := [], harness := (true, "877d855271faf8eb42de88cb975d7791cdfe9dedc74be6fc7917949a5351dc0d"), looks := false }, kinds := [], alts := [], laidByText := true, laidKinds := [.data, .data, .data], laidTests := true, laidLooks := .later }
def ChartabCaseUptoCardSaid : Prop := Claim7.holds Tryd.pinned (.plain (OpenSpec.upto chartabCaseSpec)) chartabCaseUptoCard

/-- THE SECOND FORM's CARD OF 'tactilelaw01.ChartabCharset'. -/
def chartabCharsetUptoCard : Claim7 := { stood := { row := chartabCharsetUptoRow, standIns := [], harness := (true, "877d855271faf8eb42de88cb975d7791cdfe9dedc74be6fc7917949a5351dc0d"), looks := false }, kinds := [], alts := [], laidByText := true, laidKinds := [.data, .data, .data], laidTests := true, laidLooks := .later }
def ChartabCharsetUptoCardSaid : Prop := Claim7.holds Tryd.pinned (.plain (OpenSpec.upto chartabCharsetSpec)) chartabCharsetUptoCard

/-- THE SECOND FORM's CARD OF 'tactilelaw01.ChartabName'. -/
def chartabNameUptoCard : Claim7 := { stood := { row := chartabNameUptoRow, standIns := [], harness := (true, "877d855271faf8eb42de88cb975d7791cdfe9dedc74be6fc7917949a5351dc0d"), looks := false }, kinds := [], alts := [], laidByText := true, laidKinds := [.data, .data, .data], laidTests := true, laidLooks := .later }
def ChartabNameUptoCardSaid : Prop := Claim7.holds Tryd.pinned (.plain (OpenSpec.upto chartabNameSpec)) chartabNameUptoCard

/-- THE SECOND FORM's CARD OF 'tactilelaw01.ChartabFits'. -/
def chartabFitsUptoCard : Claim7 := { stood := { row := chartabFitsUptoRow, standIns := [], harness := (true, "877d855271faf8eb42de88cb975d7791cdfe9dedc74be6fc7917949a5351dc0d"), looks := false }, kinds := [], alts := [], laidByText := true, laidKinds := [.data, .data, .data], laidTests := true, laidLooks := .later }
def ChartabFitsUptoCardSaid : Prop := Claim7.holds Tryd.pinned (.plain (OpenSpec.upto chartabFitsSpec)) chartabFitsUptoCard

/-- THE SECOND FORM's CARD OF 'tactilelaw01.ChartabTurns'. -/
def chartabTurnsUptoCard : Claim7 := { stood := { row := chartabTurnsUptoRow, standIns := [], harness := (true, "877d855271faf8eb42de88cb975d7791cdfe9dedc74be6fc7917949a5351dc0d"), looks := false }, kinds := [], alts := [], laidByText := true, laidKinds := [.data, .data, .data], laidTests := true, laidLooks := .later }
def ChartabTurnsUptoCardSaid : Prop := Claim7.holds Tryd.pinned (.plain (OpenSpec.upto chartabTurnsSpec)) chartabTurnsUptoCard
end Rows
end Go.Proofs.YtjffiikdfoejhaaDoor
