/-
  DERIVED. GIVEN WITH THE SEED: THE CARDS: each row of YtaaanfaelmfamabDoorRows.lean that lists a variable, with what it lists TIED to the program's text (the seventh form; the later family's looks); each row that meets fmt, with fmt's text TOLD by the authors' own Lean function (tested against real Go, not proved from fmt's source: count such statements apart). THE CARD IS WHAT COUNTS. Prove the row's statement (the work); the ties are given (YtaaanfaelmfamabDoorTie.lean); close each card by the builder's one call (the guide's Derived/Test/ToyasCard.lean, 'card_holds'). Laid BY PROGRAM, IN A SANDBOX (cutbox-door.mjs). By AI agents, Wed Nov 11 2026. No macro, syntax, notation, axiom, sorry.
-/
import Derived.Test.YtaaanfaelmfamabDoorRows
import GoSem.ClaimSeven
namespace Go.Proofs.YtaaanfaelmfamabDoor
namespace Rows

/-- THE TIED CARD OF 'tesseralaw03.SolveAgain'. -/
def solveAgainCard : Claim7 := { stood := { row := solveAgainRow, standIns := [], harness := (true, "e366c9a0e500edd32dcd7ae036c90d4658a8ba6c710e690380d5089ebad22817"), looks := false }, kinds := [], alts := [], laidByText := true, laidKinds := [.sentinel, .sentinel, .sentinel], laidTests := true, laidLooks := .later }
def SolveAgainCardSaid : Prop := Claim7.holds Tryd.pinned (.plain (OpenSpec.ofChange solveAgainSpec)) solveAgainCard

/-- THE TIED CARD OF 'tesseralaw03.SolveBases'. -/
def solveBasesCard : Claim7 := { stood := { row := solveBasesRow, standIns := [], harness := (true, "e366c9a0e500edd32dcd7ae036c90d4658a8ba6c710e690380d5089ebad22817"), looks := false }, kinds := [], alts := [], laidByText := true, laidKinds := [.sentinel, .sentinel, .sentinel], laidTests := true, laidLooks := .later }
def SolveBasesCardSaid : Prop := Claim7.holds Tryd.pinned (.plain (OpenSpec.ofChange solveBasesSpec)) solveBasesCard

/-- THE SECOND FORM's CARD OF 'tesseralaw03.SolveAgain'. -/
def solveAgainUptoCard : Claim7 := { stood := { row := solveAgainUptoRow, standIns := [], harness := (true, "e366c9a0e500edd32dcd7ae036c90d4658a8ba6c710e690380d5089ebad22817"), looks := false }, kinds := [], alts := [], laidByText := true, laidKinds := [.sentinel, .sentinel, .sentinel], laidTests := true, laidLooks := .later }
def SolveAgainUptoCardSaid : Prop := Claim7.holds Tryd.pinned (.plain (OpenSpec.upto solveAgainSpec)) solveAgainUptoCard

/-- THE SECOND FORM's CARD OF 'tesseralaw03.SolveBases'. -/
def solveBasesUptoCard : Claim7 := { stood := { row := solveBasesUptoRow, standIns := [], harness := (true, "e366c9a0e500edd32dcd7ae036c90d4658a8ba6c710e690380d5089ebad22817"), looks := false }, kinds := [], alts := [], laidByText := true, laidKinds := [.sentinel, .sentinel, .sentinel], laidTests := true, laidLooks := .later }
def SolveBasesUptoCardSaid : Prop := Claim7.holds Tryd.pinned (.plain (OpenSpec.upto solveBasesSpec)) solveBasesUptoCard
end Rows
end Go.Proofs.YtaaanfaelmfamabDoor
