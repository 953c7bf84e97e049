/-
  DERIVED. GIVEN WITH THE SEED: THE CARDS: each row of YtokepcikpkffpaaDoorRows.lean that lists a variable, with what it lists TIED to the program's text (the seventh form; the later family's looks); each row that meets fmt, with fmt's text TOLD by the authors' own Lean function (tested against real Go, not proved from fmt's source: count such statements apart). THE CARD IS WHAT COUNTS. Prove the row's statement (the work); the ties are given (YtokepcikpkffpaaDoorTie.lean); close each card by the builder's one call (the guide's Derived/Test/ToyasCard.lean, 'card_holds'). Laid BY PROGRAM, IN A SANDBOX (cutbox-door.mjs). By AI agents, Wed Nov 11 2026. No macro, syntax, notation, axiom, sorry.
-/
import Derived.Test.YtokepcikpkffpaaDoorRows
import GoSem.ClaimSeven
namespace Go.Proofs.YtokepcikpkffpaaDoor
namespace Rows

/-- THE TIED CARD OF 'tesseralaw04.BaseParams'. -/
def baseParamsCard : Claim7 := { stood := { row := baseParamsRow, standIns := [], harness := (true, "d404a7ce74eab85383c7b231963c82e3bc43943ad5c45fa2f32b4c0cb81092a3"), looks := true }, kinds := [], alts := [], laidByText := true, laidKinds := [.sentinel, .sentinel], laidTests := true, laidLooks := .later }
def BaseParamsCardSaid : Prop := Claim7.holds Tryd.pinned (.plain (OpenSpec.ofChange baseParamsSpec)) baseParamsCard

/-- THE TIED CARD OF 'tesseralaw04.BaseAll'. -/
def baseAllCard : Claim7 := { stood := { row := baseAllRow, standIns := [], harness := (true, "d404a7ce74eab85383c7b231963c82e3bc43943ad5c45fa2f32b4c0cb81092a3"), looks := true }, kinds := [], alts := [], laidByText := true, laidKinds := [.sentinel, .sentinel], laidTests := true, laidLooks := .later }
def BaseAllCardSaid : Prop := Claim7.holds Tryd.pinned (.plain (OpenSpec.ofChange baseAllSpec)) baseAllCard

/-- THE TIED CARD OF 'tesseralaw04.BaseAnyRows'. -/
def baseAnyRowsCard : Claim7 := { stood := { row := baseAnyRowsRow, standIns := [], harness := (true, "d404a7ce74eab85383c7b231963c82e3bc43943ad5c45fa2f32b4c0cb81092a3"), looks := true }, kinds := [], alts := [], laidByText := true, laidKinds := [.sentinel, .sentinel, .sentinel, .sentinel], laidTests := true, laidLooks := .later }
def BaseAnyRowsCardSaid : Prop := Claim7.holds Tryd.pinned (.plain (OpenSpec.ofChange baseAnyRowsSpec)) baseAnyRowsCard

/-- THE TIED CARD OF 'tesseralaw04.BaseGroups'. -/
def baseGroupsCard : Claim7 := { stood := { row := baseGroupsRow, standIns := [], harness := (true, "d404a7ce74eab85383c7b231963c82e3bc43943ad5c45fa2f32b4c0cb81092a3"), looks := true }, kinds := [], alts := [], laidByText := true, laidKinds := [.sentinel, .sentinel], laidTests := true, laidLooks := .later }
def BaseGroupsCardSaid : Prop := Claim7.holds Tryd.pinned (.plain (OpenSpec.ofChange baseGroupsSpec)) baseGroupsCard

/-- THE TIED CARD OF 'tesseralaw04.BaseSquares'. -/
def baseSquaresCard : Claim7 := { stood := { row := baseSquaresRow, standIns := [], harness := (true, "d404a7ce74eab85383c7b231963c82e3bc43943ad5c45fa2f32b4c0cb81092a3"), looks := true }, kinds := [], alts := [], laidByText := true, laidKinds := [.sentinel, .sentinel, .sentinel, .sentinel], laidTests := true, laidLooks := .later }
def BaseSquaresCardSaid : Prop := Claim7.holds Tryd.pinned (.plain (OpenSpec.ofChange baseSquaresSpec)) baseSquaresCard

/-- THE SECOND FORM's CARD OF 'tesseralaw04.BaseParams'. -/
def baseParamsUptoCard : Claim7 := { stood := { row := baseParamsUptoRow, standIns := [], harness := (true, "d404a7ce74eab85383c7b231963c82e3bc43943ad5c45fa2f32b4c0cb81092a3"), looks := true }, kinds := [], alts := [], laidByText := true, laidKinds := [.sentinel, .sentinel], laidTests := true, laidLooks := .later }
def BaseParamsUptoCardSaid : Prop := Claim7.holds Tryd.pinned (.plain (OpenSpec.upto baseParamsSpec)) baseParamsUptoCard

/-- THE SECOND FORM's CARD OF 'tesseralaw04.BaseAll'. -/
def baseAllUptoCard : Claim7 := { stood := { row := baseAllUptoRow, standIns := [], harness := (true, "d404a7ce74eab85383c7b231963c82e3bc43943ad5c45fa2f32b4c0cb81092a3"), looks := true }, kinds := [], alts := [], laidByText := true, laidKinds := [.sentinel, .sentinel], laidTests := true, laidLooks := .later }
def BaseAllUptoCardSaid : Prop := Claim7.holds Tryd.pinned (.plain (OpenSpec.upto baseAllSpec)) baseAllUptoCard

/-- THE SECOND FORM's CARD OF 'tesseralaw04.BaseAnyRows'. -/
def baseAnyRowsUptoCard : Claim7 := { stood := { row := baseAnyRowsUptoRow, standIns := [], harness := (true, "d404a7ce74eab85383c7b231963c82e3bc43943ad5c45fa2f32b4c0cb81092a3"), looks := true }, kinds := [], alts := [], laidByText := true, laidKinds := [.sentinel, .sentinel, .sentinel, .sentinel], laidTests := true, laidLooks := .later }
def BaseAnyRowsUptoCardSaid : Prop := Claim7.holds Tryd.pinned (.plain (OpenSpec.upto baseAnyRowsSpec)) baseAnyRowsUptoCard

/-- THE SECOND FORM's CARD OF 'tesseralaw04.BaseGroups'. -/
def baseGroupsUptoCard : Claim7 := { stood := { row := baseGroupsUptoRow, standIns := [], harness := (true, "d404a7ce74eab85383c7b231963c82e3bc43943ad5c45fa2f32b4c0cb81092a3"), looks := true }, kinds := [], alts := [], laidByText := true, laidKinds := [.sentinel, .sentinel], laidTests := true, laidLooks := .later }
def BaseGroupsUptoCardSaid : Prop := Claim7.holds Tryd.pinned (.plain (OpenSpec.upto baseGroupsSpec)) baseGroupsUptoCard

/-- THE SECOND FORM's CARD OF 'tesseralaw04.BaseSquares'. -/
def baseSquaresUptoCard : Claim7 := { stood := { row := baseSquaresUptoRow, standIns := [], harness := (true, "d404a7ce74eab85383c7b231963c82e3bc43943ad5c45fa2f32b4c0cb81092a3"), looks := true }, kinds := [], alts := [], laidByText := true, laidKinds := [.sentinel, .sentinel, .sentinel, .sentinel], laidTests := true, laidLooks := .later }
def BaseSquaresUptoCardSaid : Prop := Claim7.holds Tryd.pinned (.plain (OpenSpec.upto baseSquaresSpec)) baseSquaresUptoCard
end Rows
end Go.Proofs.YtokepcikpkffpaaDoor
