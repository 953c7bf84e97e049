/-
  DERIVED. GIVEN WITH THE SEED: THE CARDS: each row of YtmlpijlcpeoeaaaDoorRows.lean that lists a variable, with what it lists TIED to the program's text (the seventh form; the later family's looks); each row that meets fmt, with fmt's text TOLD by the authors' own Lean function (tested against real Go, not proved from fmt's source: count such statements apart). THE CARD IS WHAT COUNTS. Prove the row's statement (the work); the ties are given (YtmlpijlcpeoeaaaDoorTie.lean); close each card by the builder's one call (the guide's Derived/Test/ToyasCard.lean, 'card_holds'). Laid BY PROGRAM, IN A SANDBOX (cutbox-door.mjs). By AI agents, Wed Nov 11 2026. No macro, syntax, notation, axiom, sorry.
-/
import Derived.Test.YtmlpijlcpeoeaaaDoorRows
import GoSem.ClaimSeven
namespace Go.Proofs.YtmlpijlcpeoeaaaDoor
namespace Rows

/-- THE TIED CARD OF 'tesseralaw07.CodeEncodes'. -/
def codeEncodesCard : Claim7 := { stood := { row := codeEncodesRow, standIns := [], harness := (true, "a9798cfc6535d9d22302b931f8e93845d3d74155823dd8adc4abfcefcaebbe76"), looks := true }, kinds := [], alts := [], laidByText := true, laidKinds := [.sentinel, .sentinel, .sentinel, .sentinel, .sentinel, .sentinel, .sentinel, .sentinel, .sentinel, .sentinel, .sentinel, .sentinel, .sentinel, .sentinel, .sentinel, .sentinel, .sentinel, .sentinel, .sentinel, .sentinel, .sentinel, .sentinel, .sentinel, .sentinel, .sentinel], laidTests := true, laidLooks := .later }
def CodeEncodesCardSaid : Prop := Claim7.holds Tryd.pinned (.plain (OpenSpec.ofChange codeEncodesSpec)) codeEncodesCard

/-- THE TIED CARD OF 'tesseralaw07.CodeDecodes'. -/
def codeDecodesCard : Claim7 := { stood := { row := codeDecodesRow, standIns := [], harness := (true, "a9798cfc6535d9d22302b931f8e93845d3d74155823dd8adc4abfcefcaebbe76"), looks := true }, kinds := [], alts := [], laidByText := true, laidKinds := [.sentinel, .sentinel, .sentinel, .sentinel, .sentinel, .sentinel, .sentinel, .sentinel, .sentinel, .sentinel, .sentinel, .sentinel, .sentinel, .sentinel, .sentinel, .sentinel, .sentinel, .sentinel, .sentinel, .sentinel, .sentinel, .sentinel, .sentinel, .sentinel, .sentinel], laidTests := true, laidLooks := .later }
def CodeDecodesCardSaid : Prop := Claim7.holds Tryd.pinned (.plain (OpenSpec.ofChange codeDecodesSpec)) codeDecodesCard

/-- THE TIED CARD OF 'tesseralaw07.CodeFits'. -/
def codeFitsCard : Claim7 := { stood := { row := codeFitsRow, standIns := [], harness := (true, "a9798cfc6535d9d22302b931f8e93845d3d74155823dd8adc4abfcefcaebbe76"), looks := true }, kinds := [], alts := [], laidByText := true, laidKinds := [.sentinel, .sentinel, .sentinel, .sentinel, .sentinel], laidTests := true, laidLooks := .later }
def CodeFitsCardSaid : Prop := Claim7.holds Tryd.pinned (.plain (OpenSpec.ofChange codeFitsSpec)) codeFitsCard

/-- THE TIED CARD OF 'tesseralaw07.CodeAnyShards'. -/
def codeAnyShardsCard : Claim7 := { stood := { row := codeAnyShardsRow, standIns := [], harness := (true, "a9798cfc6535d9d22302b931f8e93845d3d74155823dd8adc4abfcefcaebbe76"), looks := true }, kinds := [], alts := [], laidByText := true, laidKinds := [.sentinel, .sentinel, .sentinel, .sentinel, .sentinel, .sentinel, .sentinel, .sentinel, .sentinel, .sentinel, .sentinel, .sentinel, .sentinel, .sentinel, .sentinel, .sentinel, .sentinel, .sentinel, .sentinel, .sentinel, .sentinel, .sentinel, .sentinel, .sentinel, .sentinel], laidTests := true, laidLooks := .later }
def CodeAnyShardsCardSaid : Prop := Claim7.holds Tryd.pinned (.plain (OpenSpec.ofChange codeAnyShardsSpec)) codeAnyShardsCard

/-- THE TIED CARD OF 'tesseralaw07.CodeLinear'. -/
def codeLinearCard : Claim7 := { stood := { row := codeLinearRow, standIns := [], harness := (true, "a9798cfc6535d9d22302b931f8e93845d3d74155823dd8adc4abfcefcaebbe76"), looks := true }, kinds := [], alts := [], laidByText := true, laidKinds := [.sentinel, .sentinel, .sentinel, .sentinel, .sentinel], laidTests := true, laidLooks := .later }
def CodeLinearCardSaid : Prop := Claim7.holds Tryd.pinned (.plain (OpenSpec.ofChange codeLinearSpec)) codeLinearCard

/-- THE TIED CARD OF 'tesseralaw07.CodeCheap'. -/
def codeCheapCard : Claim7 := { stood := { row := codeCheapRow, standIns := [], harness := (true, "a9798cfc6535d9d22302b931f8e93845d3d74155823dd8adc4abfcefcaebbe76"), looks := true }, kinds := [], alts := [], laidByText := true, laidKinds := [.sentinel, .sentinel, .sentinel, .sentinel], laidTests := true, laidLooks := .later }
def CodeCheapCardSaid : Prop := Claim7.holds Tryd.pinned (.plain (OpenSpec.ofChange codeCheapSpec)) codeCheapCard

/-- THE SECOND FORM's CARD OF 'tesseralaw07.CodeEncodes'. -/
def codeEncodesUptoCard : Claim7 := { stood := { row := codeEncodesUptoRow, standIns := [], harness := (true, "a9798cfc6535d9d22302b931f8e93845d3d74155823dd8adc4abfcefcaebbe76"), looks := true }, kinds := [], alts := [], laidByText := true, laidKinds := [.sentinel, .sentinel, .sentinel, .sentinel, .sentinel, .sentinel, .sentinel, .sentinel, .sentinel, .sentinel, .sentinel, .sentinel, .sentinel, .sentinel, .sentinel, .sentinel, .sentinel, .sentinel, .sentinel, .sentinel, .sentinel, .sentinel, .sentinel, .sentinel, .sentinel], laidTests := true, laidLooks := .later }
def CodeEncodesUptoCardSaid : Prop := Claim7.holds Tryd.pinned (.plain (OpenSpec.upto codeEncodesSpec)) codeEncodesUptoCard

/-- THE SECOND FORM's CARD OF 'tesseralaw07.CodeDecodes'. -/
def codeDecodesUptoCard : Claim7 := { stood := { row := codeDecodesUptoRow, standIns := [], harness := (true, "a9798cfc6535d9d22302b931f8e93845d3d74155823dd8adc4abfcefcaebbe76"), looks := true }, kinds := [], alts := [], laidByText := true, laidKinds := [.sentinel, .sentinel, .sentinel, .sentinel, .sentinel, .sentinel, .sentinel, .sentinel, .sentinel, .sentinel, .sentinel, .sentinel, .sentinel, .sentinel, .sentinel, .sentinel, .sentinel, .sentinel, .sentinel, .sentinel, .sentinel, .sentinel, .sentinel, .sentinel, .sentinel], laidTests := true, laidLooks := .later }
def CodeDecodesUptoCardSaid : Prop := Claim7.holds Tryd.pinned (.plain (OpenSpec.upto codeDecodesSpec)) codeDecodesUptoCard

/-- THE SECOND FORM's CARD OF 'tesseralaw07.CodeFits'. -/
def codeFitsUptoCard : Claim7 := { stood := { row := codeFitsUptoRow, standIns := [], harness := (true, "a9798cfc6535d9d22302b931f8e93845d3d74155823dd8adc4abfcefcaebbe76"), looks := true }, kinds := [], alts := [], laidByText := true, laidKinds := [.sentinel, .sentinel, .sentinel, .sentinel, .sentinel], laidTests := true, laidLooks := .later }
def CodeFitsUptoCardSaid : Prop := Claim7.holds Tryd.pinned (.plain (OpenSpec.upto codeFitsSpec)) codeFitsUptoCard

/-- THE SECOND FORM's CARD OF 'tesseralaw07.CodeAnyShards'. -/
def codeAnyShardsUptoCard : Claim7 := { stood := { row := codeAnyShardsUptoRow, standIns := [], harness := (true, "a9798cfc6535d9d22302b931f8e93845d3d74155823dd8adc4abfcefcaebbe76"), looks := true }, kinds := [], alts := [], laidByText := true, laidKinds := [.sentinel, .sentinel, .sentinel, .sentinel, .sentinel, .sentinel, .sentinel, .sentinel, .sentinel, .sentinel, .sentinel, .sentinel, .sentinel, .sentinel, .sentinel, .sentinel, .sentinel, .sentinel, .sentinel, .sentinel, .sentinel, .sentinel, .sentinel, .sentinel, .sentinel], laidTests := true, laidLooks := .later }
def CodeAnyShardsUptoCardSaid : Prop := Claim7.holds Tryd.pinned (.plain (OpenSpec.upto codeAnyShardsSpec)) codeAnyShardsUptoCard

/-- THE SECOND FORM's CARD OF 'tesseralaw07.CodeLinear'. -/
def codeLinearUptoCard : Claim7 := { stood := { row := codeLinearUptoRow, standIns := [], harness := (true, "a9798cfc6535d9d22302b931f8e93845d3d74155823dd8adc4abfcefcaebbe76"), looks := true }, kinds := [], alts := [], laidByText := true, laidKinds := [.sentinel, .sentinel, .sentinel, .sentinel, .sentinel], laidTests := true, laidLooks := .later }
def CodeLinearUptoCardSaid : Prop := Claim7.holds Tryd.pinned (.plain (OpenSpec.upto codeLinearSpec)) codeLinearUptoCard

/-- THE SECOND FORM's CARD OF 'tesseralaw07.CodeCheap'. -/
def codeCheapUptoCard : Claim7 := { stood := { row := codeCheapUptoRow, standIns := [], harness := (true, "a9798cfc6535d9d22302b931f8e93845d3d74155823dd8adc4abfcefcaebbe76"), looks := true }, kinds := [], alts := [], laidByText := true, laidKinds := [.sentinel, .sentinel, .sentinel, .sentinel], laidTests := true, laidLooks := .later }
def CodeCheapUptoCardSaid : Prop := Claim7.holds Tryd.pinned (.plain (OpenSpec.upto codeCheapSpec)) codeCheapUptoCard
end Rows
end Go.Proofs.YtmlpijlcpeoeaaaDoor
