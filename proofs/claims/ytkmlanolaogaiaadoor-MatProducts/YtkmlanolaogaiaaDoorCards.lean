/-
  DERIVED. GIVEN WITH THE SEED: THE CARDS: each row of YtkmlanolaogaiaaDoorRows.lean that lists a variable, with what it lists TIED to the program's text (the seventh form; the later family's looks); each row that meets fmt, with fmt's text TOLD by the authors' own Lean function (tested against real Go, not proved from fmt's source: count such statements apart). THE CARD IS WHAT COUNTS. Prove the row's statement (the work); the ties are given (YtkmlanolaogaiaaDoorTie.lean); close each card by the builder's one call (the guide's Derived/Test/ToyasCard.lean, 'card_holds'). Laid BY PROGRAM, IN A SANDBOX (cutbox-door.mjs). By AI agents, Wed Nov 11 2026. No macro, syntax, notation, axiom, sorry.
-/
import Derived.Test.YtkmlanolaogaiaaDoorRows
import GoSem.ClaimSeven
namespace Go.Proofs.YtkmlanolaogaiaaDoor
namespace Rows

/-- THE TIED CARD OF 'tesseralaw02.MatProducts'. -/
def matProductsCard : Claim7 := { stood := { row := matProductsRow, standIns := [], harness := (true, "fb46e82a821be6f8ef054e229dcc339c93cddbf150d03c46fb720e7c15349206"), looks := true }, kinds := [], alts := [], laidByText := true, laidKinds := [.sentinel, .sentinel, .sentinel, .sentinel, .sentinel, .sentinel, .sentinel, .sentinel, .sentinel, .sentinel, .sentinel, .sentinel, .sentinel, .sentinel, .sentinel, .sentinel, .sentinel, .sentinel, .sentinel, .sentinel, .sentinel, .sentinel, .sentinel, .sentinel, .sentinel], laidTests := true, laidLooks := .later }
def MatProductsCardSaid : Prop := Claim7.holds Tryd.pinned (.plain (OpenSpec.ofChange matProductsSpec)) matProductsCard

/-- THE TIED CARD OF 'tesseralaw03.SolveReduces'. -/
def solveReducesCard : Claim7 := { stood := { row := solveReducesRow, standIns := [], harness := (true, "fb46e82a821be6f8ef054e229dcc339c93cddbf150d03c46fb720e7c15349206"), looks := true }, kinds := [], alts := [], laidByText := true, laidKinds := [.sentinel, .sentinel, .sentinel], laidTests := true, laidLooks := .later }
def SolveReducesCardSaid : Prop := Claim7.holds Tryd.pinned (.plain (OpenSpec.ofChange solveReducesSpec)) solveReducesCard

/-- THE TIED CARD OF 'tesseralaw03.SolveAgain'. -/
def solveAgainCard : Claim7 := { stood := { row := solveAgainRow, standIns := [], harness := (true, "fb46e82a821be6f8ef054e229dcc339c93cddbf150d03c46fb720e7c15349206"), looks := true }, kinds := [], alts := [], laidByText := true, laidKinds := [.sentinel, .sentinel, .sentinel], laidTests := true, laidLooks := .later }
def SolveAgainCardSaid : Prop := Claim7.holds Tryd.pinned (.plain (OpenSpec.ofChange solveAgainSpec)) solveAgainCard

/-- THE SECOND FORM's CARD OF 'tesseralaw02.MatProducts'. -/
def matProductsUptoCard : Claim7 := { stood := { row := matProductsUptoRow, standIns := [], harness := (true, "fb46e82a821be6f8ef054e229dcc339c93cddbf150d03c46fb720e7c15349206"), looks := true }, kinds := [], alts := [], laidByText := true, laidKinds := [.sentinel, .sentinel, .sentinel, .sentinel, .sentinel, .sentinel, .sentinel, .sentinel, .sentinel, .sentinel, .sentinel, .sentinel, .sentinel, .sentinel, .sentinel, .sentinel, .sentinel, .sentinel, .sentinel, .sentinel, .sentinel, .sentinel, .sentinel, .sentinel, .sentinel], laidTests := true, laidLooks := .later }
def MatProductsUptoCardSaid : Prop := Claim7.holds Tryd.pinned (.plain (OpenSpec.upto matProductsSpec)) matProductsUptoCard

/-- THE SECOND FORM's CARD OF 'tesseralaw03.SolveReduces'. -/
def solveReducesUptoCard : Claim7 := { stood := { row := solveReducesUptoRow, standIns := [], harness := (true, "fb46e82a821be6f8ef054e229dcc339c93cddbf150d03c46fb720e7c15349206"), looks := true }, kinds := [], alts := [], laidByText := true, laidKinds := [.sentinel, .sentinel, .sentinel], laidTests := true, laidLooks := .later }
def SolveReducesUptoCardSaid : Prop := Claim7.holds Tryd.pinned (.plain (OpenSpec.upto solveReducesSpec)) solveReducesUptoCard

/-- THE SECOND FORM's CARD OF 'tesseralaw03.SolveAgain'. -/
def solveAgainUptoCard : Claim7 := { stood := { row := solveAgainUptoRow, standIns := [], harness := (true, "fb46e82a821be6f8ef054e229dcc339c93cddbf150d03c46fb720e7c15349206"), looks := true }, kinds := [], alts := [], laidByText := true, laidKinds := [.sentinel, .sentinel, .sentinel], laidTests := true, laidLooks := .later }
def SolveAgainUptoCardSaid : Prop := Claim7.holds Tryd.pinned (.plain (OpenSpec.upto solveAgainSpec)) solveAgainUptoCard
end Rows
end Go.Proofs.YtkmlanolaogaiaaDoor
