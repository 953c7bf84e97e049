/-
  DERIVED. GIVEN WITH THE SEED: THE CARDS: each row of YtkoakingmnjdoaaGreatDoorRows.lean that lists a variable, with what it lists TIED to the program's text (the seventh form; the later family's looks); each row that meets fmt, with fmt's text TOLD by the authors' own Lean function (tested against real Go, not proved from fmt's source: count such statements apart). THE CARD IS WHAT COUNTS. Prove the row's statement (the work); the ties are given (YtkoakingmnjdoaaGreatDoorTie.lean); close each card by the builder's one call (the guide's Derived/Test/ToyasCard.lean, 'card_holds'). Laid BY PROGRAM, IN A SANDBOX (cutbox-door.mjs). By AI agents, Wed Nov 11 2026. No macro, syntax, notation, axiom, sorry.
-/
import Derived.Test.YtkoakingmnjdoaaGreatDoorRows
import GoSem.ClaimSeven
namespace Go.Proofs.YtkoakingmnjdoaaGreatDoor
namespace Rows

/-- THE TIED CARD OF 'tesseralaw11.PlanFors'. -/
def planForsCard : Claim7 := { stood := { row := planForsRow, standIns := [], harness := (true, "18c7ed18181e5df63e7b6b0cd3ac182aa629550aee7b3d6b316368867cad611b"), looks := true }, kinds := [], alts := [], laidByText := true, laidKinds := [.sentinel, .sentinel, .sentinel, .sentinel, .sentinel], laidTests := true, laidLooks := .later }
def PlanForsCardSaid : Prop := Claim7.holds Tryz.pinned (.plain (OpenSpec.ofChange planForsSpec)) planForsCard

/-- THE TIED CARD OF 'tesseralaw11.PlanCheap'. -/
def planCheapCard : Claim7 := { stood := { row := planCheapRow, standIns := [], harness := (true, "18c7ed18181e5df63e7b6b0cd3ac182aa629550aee7b3d6b316368867cad611b"), looks := true }, kinds := [], alts := [], laidByText := true, laidKinds := [.sentinel, .sentinel, .sentinel, .sentinel, .sentinel, .sentinel, .sentinel, .sentinel, .sentinel, .sentinel, .sentinel, .sentinel, .sentinel, .sentinel, .sentinel, .sentinel, .sentinel, .sentinel, .sentinel, .sentinel, .sentinel, .sentinel, .sentinel, .sentinel, .sentinel], laidTests := true, laidLooks := .later }
def PlanCheapCardSaid : Prop := Claim7.holds Tryz.pinned (.plain (OpenSpec.ofChange planCheapSpec)) planCheapCard

/-- THE TIED CARD OF 'tesseralaw11.PlanRuns'. -/
def planRunsCard : Claim7 := { stood := { row := planRunsRow, standIns := [], harness := (true, "18c7ed18181e5df63e7b6b0cd3ac182aa629550aee7b3d6b316368867cad611b"), looks := true }, kinds := [], alts := [], laidByText := true, laidKinds := [.sentinel, .sentinel, .sentinel, .sentinel, .sentinel, .sentinel, .sentinel, .sentinel, .sentinel, .sentinel, .sentinel, .sentinel, .sentinel, .sentinel, .sentinel, .sentinel, .sentinel, .sentinel, .sentinel, .sentinel, .sentinel, .sentinel, .sentinel, .sentinel, .sentinel], laidTests := true, laidLooks := .later }
def PlanRunsCardSaid : Prop := Claim7.holds Tryz.pinned (.plain (OpenSpec.ofChange planRunsSpec)) planRunsCard

/-- THE TIED CARD OF 'tesseralaw11.PlanLost'. -/
def planLostCard : Claim7 := { stood := { row := planLostRow, standIns := [], harness := (true, "18c7ed18181e5df63e7b6b0cd3ac182aa629550aee7b3d6b316368867cad611b"), looks := true }, kinds := [], alts := [], laidByText := true, laidKinds := [.sentinel, .sentinel, .sentinel, .sentinel, .sentinel, .sentinel], laidTests := true, laidLooks := .later }
def PlanLostCardSaid : Prop := Claim7.holds Tryz.pinned (.plain (OpenSpec.ofChange planLostSpec)) planLostCard

/-- THE TIED CARD OF 'tesseralaw11.PlanSome'. -/
def planSomeCard : Claim7 := { stood := { row := planSomeRow, standIns := [], harness := (true, "18c7ed18181e5df63e7b6b0cd3ac182aa629550aee7b3d6b316368867cad611b"), looks := true }, kinds := [], alts := [], laidByText := true, laidKinds := [.sentinel, .sentinel, .sentinel, .sentinel, .sentinel, .sentinel, .sentinel, .sentinel, .sentinel, .sentinel], laidTests := true, laidLooks := .later }
def PlanSomeCardSaid : Prop := Claim7.holds Tryz.pinned (.plain (OpenSpec.ofChange planSomeSpec)) planSomeCard

/-- THE TIED CARD OF 'tesseralaw11.PlanEach'. -/
def planEachCard : Claim7 := { stood := { row := planEachRow, standIns := [], harness := (true, "18c7ed18181e5df63e7b6b0cd3ac182aa629550aee7b3d6b316368867cad611b"), looks := true }, kinds := [], alts := [], laidByText := true, laidKinds := [.sentinel, .sentinel, .sentinel, .sentinel, .sentinel], laidTests := true, laidLooks := .later }
def PlanEachCardSaid : Prop := Claim7.holds Tryz.pinned (.plain (OpenSpec.ofChange planEachSpec)) planEachCard

/-- THE SECOND FORM's CARD OF 'tesseralaw11.PlanFors'. -/
def planForsUptoCard : Claim7 := { stood := { row := planForsUptoRow, standIns := [], harness := (true, "18c7ed18181e5df63e7b6b0cd3ac182aa629550aee7b3d6b316368867cad611b"), looks := true }, kinds := [], alts := [], laidByText := true, laidKinds := [.sentinel, .sentinel, .sentinel, .sentinel, .sentinel], laidTests := true, laidLooks := .later }
def PlanForsUptoCardSaid : Prop := Claim7.holds Tryz.pinned (.plain (OpenSpec.upto planForsSpec)) planForsUptoCard

/-- THE SECOND FORM's CARD OF 'tesseralaw11.PlanCheap'. -/
def planCheapUptoCard : Claim7 := { stood := { row := planCheapUptoRow, standIns := [], harness := (true, "18c7ed18181e5df63e7b6b0cd3ac182aa629550aee7b3d6b316368867cad611b"), looks := true }, kinds := [], alts := [], laidByText := true, laidKinds := [.sentinel, .sentinel, .sentinel, .sentinel, .sentinel, .sentinel, .sentinel, .sentinel, .sentinel, .sentinel, .sentinel, .sentinel, .sentinel, .sentinel, .sentinel, .sentinel, .sentinel, .sentinel, .sentinel, .sentinel, .sentinel, .sentinel, .sentinel, .sentinel, .sentinel], laidTests := true, laidLooks := .later }
def PlanCheapUptoCardSaid : Prop := Claim7.holds Tryz.pinned (.plain (OpenSpec.upto planCheapSpec)) planCheapUptoCard

/-- THE SECOND FORM's CARD OF 'tesseralaw11.PlanRuns'. -/
def planRunsUptoCard : Claim7 := { stood := { row := planRunsUptoRow, standIns := [], harness := (true, "18c7ed18181e5df63e7b6b0cd3ac182aa629550aee7b3d6b316368867cad611b"), looks := true }, kinds := [], alts := [], laidByText := true, laidKinds := [.sentinel, .sentinel, .sentinel, .sentinel, .sentinel, .sentinel, .sentinel, .sentinel, .sentinel, .sentinel, .sentinel, .sentinel, .sentinel, .sentinel, .sentinel, .sentinel, .sentinel, .sentinel, .sentinel, .sentinel, .sentinel, .sentinel, .sentinel, .sentinel, .sentinel], laidTests := true, laidLooks := .later }
def PlanRunsUptoCardSaid : Prop := Claim7.holds Tryz.pinned (.plain (OpenSpec.upto planRunsSpec)) planRunsUptoCard

/-- THE SECOND FORM's CARD OF 'tesseralaw11.PlanLost'. -/
def planLostUptoCard : Claim7 := { stood := { row := planLostUptoRow, standIns := [], harness := (true, "18c7ed18181e5df63e7b6b0cd3ac182aa629550aee7b3d6b316368867cad611b"), looks := true }, kinds := [], alts := [], laidByText := true, laidKinds := [.sentinel, .sentinel, .sentinel, .sentinel, .sentinel, .sentinel], laidTests := true, laidLooks := .later }
def PlanLostUptoCardSaid : Prop := Claim7.holds Tryz.pinned (.plain (OpenSpec.upto planLostSpec)) planLostUptoCard

/-- THE SECOND FORM's CARD OF 'tesseralaw11.PlanSome'. -/
def planSomeUptoCard : Claim7 := { stood := { row := planSomeUptoRow, standIns := [], harness := (true, "18c7ed18181e5df63e7b6b0cd3ac182aa629550aee7b3d6b316368867cad611b"), looks := true }, kinds := [], alts := [], laidByText := true, laidKinds := [.sentinel, .sentinel, .sentinel, .sentinel, .sentinel, .sentinel, .sentinel, .sentinel, .sentinel, .sentinel], laidTests := true, laidLooks := .later }
def PlanSomeUptoCardSaid : Prop := Claim7.holds Tryz.pinned (.plain (OpenSpec.upto planSomeSpec)) planSomeUptoCard

/-- THE SECOND FORM's CARD OF 'tesseralaw11.PlanEach'. -/
def planEachUptoCard : Claim7 := { stood := { row := planEachUptoRow, standIns := [], harness := (true, "18c7ed18181e5df63e7b6b0cd3ac182aa629550aee7b3d6b316368867cad611b"), looks := true }, kinds := [], alts := [], laidByText := true, laidKinds := [.sentinel, .sentinel, .sentinel, .sentinel, .sentinel], laidTests := true, laidLooks := .later }
def PlanEachUptoCardSaid : Prop := Claim7.holds Tryz.pinned (.plain (OpenSpec.upto planEachSpec)) planEachUptoCard
end Rows
end Go.Proofs.YtkoakingmnjdoaaGreatDoor
