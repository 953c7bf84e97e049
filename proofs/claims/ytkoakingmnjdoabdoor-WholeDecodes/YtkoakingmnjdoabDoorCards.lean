/-
  DERIVED. GIVEN WITH THE SEED: THE CARDS: each row of YtkoakingmnjdoabDoorRows.lean that lists a variable, with what it lists TIED to the program's text (the seventh form; the later family's looks); each row that meets fmt, with fmt's text TOLD by the authors' own Lean function (tested against real Go, not proved from fmt's source: count such statements apart). THE CARD IS WHAT COUNTS. Prove the row's statement (the work); the ties are given (YtkoakingmnjdoabDoorTie.lean); close each card by the builder's one call (the guide's Derived/Test/ToyasCard.lean, 'card_holds'). Laid BY PROGRAM, IN A SANDBOX (cutbox-door.mjs). By AI agents, Wed Nov 11 2026. No macro, syntax, notation, axiom, sorry.
-/
import Derived.Test.YtkoakingmnjdoabDoorRows
import GoSem.ClaimSeven
namespace Go.Proofs.YtkoakingmnjdoabDoor
namespace Rows

/-- THE TIED CARD OF 'tesseratop.WholeDecodes'. -/
def wholeDecodesCard : Claim7 := { stood := { row := wholeDecodesRow, standIns := [], harness := (true, "d3bcd4e4fdf1e5f61a8c4a226edf92c02e5e6117baf0058adbce893f6b4b90ed"), looks := true }, kinds := [], alts := [], laidByText := true, laidKinds := [.sentinel, .sentinel, .sentinel, .sentinel, .sentinel, .sentinel, .sentinel], laidTests := true, laidLooks := .later }
def WholeDecodesCardSaid : Prop := Claim7.holds Tryd.pinned (.plain (OpenSpec.ofChange wholeDecodesSpec)) wholeDecodesCard

/-- THE SECOND FORM's CARD OF 'tesseratop.WholeDecodes'. -/
def wholeDecodesUptoCard : Claim7 := { stood := { row := wholeDecodesUptoRow, standIns := [], harness := (true, "d3bcd4e4fdf1e5f61a8c4a226edf92c02e5e6117baf0058adbce893f6b4b90ed"), looks := true }, kinds := [], alts := [], laidByText := true, laidKinds := [.sentinel, .sentinel, .sentinel, .sentinel, .sentinel, .sentinel, .sentinel], laidTests := true, laidLooks := .later }
def WholeDecodesUptoCardSaid : Prop := Claim7.holds Tryd.pinned (.plain (OpenSpec.upto wholeDecodesSpec)) wholeDecodesUptoCard
end Rows
end Go.Proofs.YtkoakingmnjdoabDoor
