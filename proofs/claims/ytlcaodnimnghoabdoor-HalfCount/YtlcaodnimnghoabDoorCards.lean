/-
  DERIVED. GIVEN WITH THE SEED: THE CARDS: each row of YtlcaodnimnghoabDoorRows.lean that lists a variable, with what it lists TIED to the program's text (the seventh form; the later family's looks); each row that meets fmt, with fmt's text TOLD by the authors' own Lean function (tested against real Go, not proved from fmt's source: count such statements apart). THE CARD IS WHAT COUNTS. Prove the row's statement (the work); the ties are given (YtlcaodnimnghoabDoorTie.lean); close each card by the builder's one call (the guide's Derived/Test/ToyasCard.lean, 'card_holds'). Laid BY PROGRAM, IN A SANDBOX (cutbox-door.mjs). By AI agents, Wed Nov 11 2026. No macro, syntax, notation, axiom, sorry.
-/
import Derived.Test.YtlcaodnimnghoabDoorRows
import GoSem.ClaimSeven
namespace Go.Proofs.YtlcaodnimnghoabDoor
namespace Rows

/-- THE TIED CARD OF 'tesseralaw05.HalfCount'. -/
def halfCountCard : Claim7 := { stood := { row := halfCountRow, standIns := [], harness := (true, "dfe0f615337887d385f248b008cdf268fbfe2406e2ffe03c7dd7e5173a670e48"), looks := false }, kinds := [], alts := [], laidByText := true, laidKinds := [.data, .data, .data, .sentinel, .sentinel, .sentinel, .sentinel], laidTests := true, laidLooks := .later }
def HalfCountCardSaid : Prop := Claim7.holds Tryd.pinned (.plain (OpenSpec.ofChange halfCountSpec)) halfCountCard

/-- THE SECOND FORM's CARD OF 'tesseralaw05.HalfCount'. -/
def halfCountUptoCard : Claim7 := { stood := { row := halfCountUptoRow, standIns := [], harness := (true, "dfe0f615337887d385f248b008cdf268fbfe2406e2ffe03c7dd7e5173a670e48"), looks := false }, kinds := [], alts := [], laidByText := true, laidKinds := [.data, .data, .data, .sentinel, .sentinel, .sentinel, .sentinel], laidTests := true, laidLooks := .later }
def HalfCountUptoCardSaid : Prop := Claim7.holds Tryd.pinned (.plain (OpenSpec.upto halfCountSpec)) halfCountUptoCard
end Rows
end Go.Proofs.YtlcaodnimnghoabDoor
