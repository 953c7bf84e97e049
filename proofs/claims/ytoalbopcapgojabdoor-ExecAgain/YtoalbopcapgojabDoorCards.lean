/-
  DERIVED. GIVEN WITH THE SEED: THE CARDS: each row of YtoalbopcapgojabDoorRows.lean that lists a variable, with what it lists TIED to the program's text (the seventh form; the later family's looks); each row that meets fmt, with fmt's text TOLD by the authors' own Lean function (tested against real Go, not proved from fmt's source: count such statements apart). THE CARD IS WHAT COUNTS. Prove the row's statement (the work); the ties are given (YtoalbopcapgojabDoorTie.lean); close each card by the builder's one call (the guide's Derived/Test/ToyasCard.lean, 'card_holds'). Laid BY PROGRAM, IN A SANDBOX (cutbox-door.mjs). By AI agents, Wed Nov 11 2026. No macro, syntax, notation, axiom, sorry.
-/
import Derived.Test.YtoalbopcapgojabDoorRows
import GoSem.ClaimSeven
namespace Go.Proofs.YtoalbopcapgojabDoor
namespace Rows

/-- THE TIED CARD OF 'tesseralaw10.ExecMeans'. -/
def execMeansCard : Claim7 := { stood := { row := execMeansRow, standIns := [], harness := (true, "f0ad8eb16939bd032b398a0c508943b76b3958a72ba31e15af518338a38a64a3"), looks := false }, kinds := [], alts := [], laidByText := true, laidKinds := [.sentinel, .sentinel, .sentinel, .sentinel, .sentinel, .sentinel], laidTests := true, laidLooks := .later }
def ExecMeansCardSaid : Prop := Claim7.holds Tryd.pinned (.plain (OpenSpec.ofChange execMeansSpec)) execMeansCard

/-- THE TIED CARD OF 'tesseralaw10.ExecLinear'. -/
def execLinearCard : Claim7 := { stood := { row := execLinearRow, standIns := [], harness := (true, "f0ad8eb16939bd032b398a0c508943b76b3958a72ba31e15af518338a38a64a3"), looks := false }, kinds := [], alts := [], laidByText := true, laidKinds := [.sentinel, .sentinel, .sentinel, .sentinel, .sentinel, .sentinel], laidTests := true, laidLooks := .later }
def ExecLinearCardSaid : Prop := Claim7.holds Tryd.pinned (.plain (OpenSpec.ofChange execLinearSpec)) execLinearCard

/-- THE TIED CARD OF 'tesseralaw10.ExecAgain'. -/
def execAgainCard : Claim7 := { stood := { row := execAgainRow, standIns := [], harness := (true, "f0ad8eb16939bd032b398a0c508943b76b3958a72ba31e15af518338a38a64a3"), looks := false }, kinds := [], alts := [], laidByText := true, laidKinds := [.sentinel, .sentinel, .sentinel, .sentinel, .sentinel, .sentinel], laidTests := true, laidLooks := .later }
def ExecAgainCardSaid : Prop := Claim7.holds Tryd.pinned (.plain (OpenSpec.ofChange execAgainSpec)) execAgainCard

/-- THE SECOND FORM's CARD OF 'tesseralaw10.ExecMeans'. -/
def execMeansUptoCard : Claim7 := { stood := { row := execMeansUptoRow, standIns := [], harness := (true, "f0ad8eb16939bd032b398a0c508943b76b3958a72ba31e15af518338a38a64a3"), looks := false }, kinds := [], alts := [], laidByText := true, laidKinds := [.sentinel, .sentinel, .sentinel, .sentinel, .sentinel, .sentinel], laidTests := true, laidLooks := .later }
def ExecMeansUptoCardSaid : Prop := Claim7.holds Tryd.pinned (.plain (OpenSpec.upto execMeansSpec)) execMeansUptoCard

/-- THE SECOND FORM's CARD OF 'tesseralaw10.ExecLinear'. -/
def execLinearUptoCard : Claim7 := { stood := { row := execLinearUptoRow, standIns := [], harness := (true, "f0ad8eb16939bd032b398a0c508943b76b3958a72ba31e15af518338a38a64a3"), looks := false }, kinds := [], alts := [], laidByText := true, laidKinds := [.sentinel, .sentinel, .sentinel, .sentinel, .sentinel, .sentinel], laidTests := true, laidLooks := .later }
def ExecLinearUptoCardSaid : Prop := Claim7.holds Tryd.pinned (.plain (OpenSpec.upto execLinearSpec)) execLinearUptoCard

/-- THE SECOND FORM's CARD OF 'tesseralaw10.ExecAgain'. -/
def execAgainUptoCard : Claim7 := { stood := { row := execAgainUptoRow, standIns := [], harness := (true, "f0ad8eb16939bd032b398a0c508943b76b3958a72ba31e15af518338a38a64a3"), looks := false }, kinds := [], alts := [], laidByText := true, laidKinds := [.sentinel, .sentinel, .sentinel, .sentinel, .sentinel, .sentinel], laidTests := true, laidLooks := .later }
def ExecAgainUptoCardSaid : Prop := Claim7.holds Tryd.pinned (.plain (OpenSpec.upto execAgainSpec)) execAgainUptoCard
end Rows
end Go.Proofs.YtoalbopcapgojabDoor
