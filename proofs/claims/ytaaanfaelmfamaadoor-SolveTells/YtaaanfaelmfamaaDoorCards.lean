/-
  DERIVED. GIVEN WITH THE SEED: THE CARDS: each row of YtaaanfaelmfamaaDoorRows.lean that lists a variable, with what it lists TIED to the program's text (the seventh form; the later family's looks); each row that meets fmt, with fmt's text TOLD by the authors' own Lean function (tested against real Go, not proved from fmt's source: count such statements apart). THE CARD IS WHAT COUNTS. Prove the row's statement (the work); the ties are given (YtaaanfaelmfamaaDoorTie.lean); close each card by the builder's one call (the guide's Derived/Test/ToyasCard.lean, 'card_holds'). Laid BY PROGRAM, IN A SANDBOX (cutbox-door.mjs). By AI agents, Wed Nov 11 2026. No macro, syntax, notation, axiom, sorry.
-/
import Derived.Test.YtaaanfaelmfamaaDoorRows
import GoSem.ClaimSeven
namespace Go.Proofs.YtaaanfaelmfamaaDoor
namespace Rows

/-- THE TIED CARD OF 'tesseralaw02.MatProducts'. -/
def matProductsCard : Claim7 := { stood := { row := matProductsRow, standIns := [], harness := (true, "04a16b80db03b30f067c96b773bfa8a442add5d9135c25924103f24f361e9157"), looks := true }, kinds := [], alts := [], laidByText := true, laidKinds := [.sentinel, .sentinel, .sentinel, .sentinel, .sentinel, .sentinel, .sentinel, .sentinel, .sentinel, .sentinel, .sentinel, .sentinel, .sentinel, .sentinel, .sentinel, .sentinel, .sentinel, .sentinel, .sentinel, .sentinel, .sentinel, .sentinel, .sentinel, .sentinel, .sentinel], laidTests := true, laidLooks := .later }
def MatProductsCardSaid : Prop := Claim7.holds Tryd.pinned (.plain (OpenSpec.ofChange matProductsSpec)) matProductsCard

/-- THE TIED CARD OF 'tesseralaw03.SolveReduces'. -/
def solveReducesCard : Claim7 := { stood := { row := solveReducesRow, standIns := [], harness := (true, "04a16b80db03b30f067c96b773bfa8a442add5d9135c25924103f24f361e9157"), looks := true }, kinds := [], alts := [], laidByText := true, laidKinds := [.sentinel, .sentinel, .sentinel], laidTests := true, laidLooks := .later }
def SolveReducesCardSaid : Prop := Claim7.holds Tryd.pinned (.plain (OpenSpec.ofChange solveReducesSpec)) solveReducesCard

/-- THE TIED CARD OF 'tesseralaw03.SolveInverts'. -/
def solveInvertsCard : Claim7 := { stood := { row := solveInvertsRow, standIns := [], harness := (true, "04a16b80db03b30f067c96b773bfa8a442add5d9135c25924103f24f361e9157"), looks := true }, kinds := [], alts := [], laidByText := true, laidKinds := [.sentinel, .sentinel, .sentinel], laidTests := true, laidLooks := .later }
def SolveInvertsCardSaid : Prop := Claim7.holds Tryd.pinned (.plain (OpenSpec.ofChange solveInvertsSpec)) solveInvertsCard

/-- THE TIED CARD OF 'tesseralaw03.SolveTells'. -/
def solveTellsCard : Claim7 := { stood := { row := solveTellsRow, standIns := [], harness := (true, "04a16b80db03b30f067c96b773bfa8a442add5d9135c25924103f24f361e9157"), looks := true }, kinds := [], alts := [], laidByText := true, laidKinds := [.sentinel, .sentinel, .sentinel], laidTests := true, laidLooks := .later }
def SolveTellsCardSaid : Prop := Claim7.holds Tryd.pinned (.plain (OpenSpec.ofChange solveTellsSpec)) solveTellsCard

/-- THE TIED CARD OF 'tesseralaw03.SolveRanks'. -/
def solveRanksCard : Claim7 := { stood := { row := solveRanksRow, standIns := [], harness := (true, "04a16b80db03b30f067c96b773bfa8a442add5d9135c25924103f24f361e9157"), looks := true }, kinds := [], alts := [], laidByText := true, laidKinds := [.sentinel, .sentinel, .sentinel], laidTests := true, laidLooks := .later }
def SolveRanksCardSaid : Prop := Claim7.holds Tryd.pinned (.plain (OpenSpec.ofChange solveRanksSpec)) solveRanksCard

/-- THE TIED CARD OF 'tesseralaw03.SolveFinds'. -/
def solveFindsCard : Claim7 := { stood := { row := solveFindsRow, standIns := [], harness := (true, "04a16b80db03b30f067c96b773bfa8a442add5d9135c25924103f24f361e9157"), looks := true }, kinds := [], alts := [], laidByText := true, laidKinds := [.sentinel, .sentinel, .sentinel], laidTests := true, laidLooks := .later }
def SolveFindsCardSaid : Prop := Claim7.holds Tryd.pinned (.plain (OpenSpec.ofChange solveFindsSpec)) solveFindsCard

/-- THE SECOND FORM's CARD OF 'tesseralaw02.MatProducts'. -/
def matProductsUptoCard : Claim7 := { stood := { row := matProductsUptoRow, standIns := [], harness := (true, "04a16b80db03b30f067c96b773bfa8a442add5d9135c25924103f24f361e9157"), looks := true }, kinds := [], alts := [], laidByText := true, laidKinds := [.sentinel, .sentinel, .sentinel, .sentinel, .sentinel, .sentinel, .sentinel, .sentinel, .sentinel, .sentinel, .sentinel, .sentinel, .sentinel, .sentinel, .sentinel, .sentinel, .sentinel, .sentinel, .sentinel, .sentinel, .sentinel, .sentinel, .sentinel, .sentinel, .sentinel], laidTests := true, laidLooks := .later }
def MatProductsUptoCardSaid : Prop := Claim7.holds Tryd.pinned (.plain (OpenSpec.upto matProductsSpec)) matProductsUptoCard

/-- THE SECOND FORM's CARD OF 'tesseralaw03.SolveReduces'. -/
def solveReducesUptoCard : Claim7 := { stood := { row := solveReducesUptoRow, standIns := [], harness := (true, "04a16b80db03b30f067c96b773bfa8a442add5d9135c25924103f24f361e9157"), looks := true }, kinds := [], alts := [], laidByText := true, laidKinds := [.sentinel, .sentinel, .sentinel], laidTests := true, laidLooks := .later }
def SolveReducesUptoCardSaid : Prop := Claim7.holds Tryd.pinned (.plain (OpenSpec.upto solveReducesSpec)) solveReducesUptoCard

/-- THE SECOND FORM's CARD OF 'tesseralaw03.SolveInverts'. -/
def solveInvertsUptoCard : Claim7 := { stood := { row := solveInvertsUptoRow, standIns := [], harness := (true, "04a16b80db03b30f067c96b773bfa8a442add5d9135c25924103f24f361e9157"), looks := true }, kinds := [], alts := [], laidByText := true, laidKinds := [.sentinel, .sentinel, .sentinel], laidTests := true, laidLooks := .later }
def SolveInvertsUptoCardSaid : Prop := Claim7.holds Tryd.pinned (.plain (OpenSpec.upto solveInvertsSpec)) solveInvertsUptoCard

/-- THE SECOND FORM's CARD OF 'tesseralaw03.SolveTells'. -/
def solveTellsUptoCard : Claim7 := { stood := { row := solveTellsUptoRow, standIns := [], harness := (true, "04a16b80db03b30f067c96b773bfa8a442add5d9135c25924103f24f361e9157"), looks := true }, kinds := [], alts := [], laidByText := true, laidKinds := [.sentinel, .sentinel, .sentinel], laidTests := true, laidLooks := .later }
def SolveTellsUptoCardSaid : Prop := Claim7.holds Tryd.pinned (.plain (OpenSpec.upto solveTellsSpec)) solveTellsUptoCard

/-- THE SECOND FORM's CARD OF 'tesseralaw03.SolveRanks'. -/
def solveRanksUptoCard : Claim7 := { stood := { row := solveRanksUptoRow, standIns := [], harness := (true, "04a16b80db03b30f067c96b773bfa8a442add5d9135c25924103f24f361e9157"), looks := true }, kinds := [], alts := [], laidByText := true, laidKinds := [.sentinel, .sentinel, .sentinel], laidTests := true, laidLooks := .later }
def SolveRanksUptoCardSaid : Prop := Claim7.holds Tryd.pinned (.plain (OpenSpec.upto solveRanksSpec)) solveRanksUptoCard

/-- THE SECOND FORM's CARD OF 'tesseralaw03.SolveFinds'. -/
def solveFindsUptoCard : Claim7 := { stood := { row := solveFindsUptoRow, standIns := [], harness := (true, "04a16b80db03b30f067c96b773bfa8a442add5d9135c25924103f24f361e9157"), looks := true }, kinds := [], alts := [], laidByText := true, laidKinds := [.sentinel, .sentinel, .sentinel], laidTests := true, laidLooks := .later }
def SolveFindsUptoCardSaid : Prop := Claim7.holds Tryd.pinned (.plain (OpenSpec.upto solveFindsSpec)) solveFindsUptoCard
end Rows
end Go.Proofs.YtaaanfaelmfamaaDoor
