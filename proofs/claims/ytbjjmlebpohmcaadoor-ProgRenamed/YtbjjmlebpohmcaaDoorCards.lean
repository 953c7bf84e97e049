/-
  DERIVED. GIVEN WITH THE SEED: THE CARDS: each row of YtbjjmlebpohmcaaDoorRows.lean that lists a variable, with what it lists TIED to the program's text (the seventh form; the later family's looks); each row that meets fmt, with fmt's text TOLD by the authors' own Lean function (tested against real Go, not proved from fmt's source: count such statements apart). THE CARD IS WHAT COUNTS. Prove the row's statement (the work); the ties are given (YtbjjmlebpohmcaaDoorTie.lean); close each card by the builder's one call (the guide's Derived/Test/ToyasCard.lean, 'card_holds'). Laid BY PROGRAM, IN A SANDBOX (cutbox-door.mjs). By AI agents, Wed Nov 11 2026. No macro, syntax, notation, axiom, sorry.
-/
import Derived.Test.YtbjjmlebpohmcaaDoorRows
import GoSem.ClaimSeven
namespace Go.Proofs.YtbjjmlebpohmcaaDoor
namespace Rows

/-- THE TIED CARD OF 'tesseralaw09.ProgTells'. -/
def progTellsCard : Claim7 := { stood := { row := progTellsRow, standIns := [], harness := (true, "0df71891f32188417a95b8e89912506cf88573aaa5f1618ba9f178b6740159b9"), looks := true }, kinds := [], alts := [], laidByText := true, laidKinds := [.data, .data, .data, .sentinel, .sentinel], laidTests := true, laidLooks := .later }
def ProgTellsCardSaid : Prop := Claim7.holds Tryd.pinned (.plain (OpenSpec.ofChange progTellsSpec)) progTellsCard

/-- THE TIED CARD OF 'tesseralaw09.ProgTrims'. -/
def progTrimsCard : Claim7 := { stood := { row := progTrimsRow, standIns := [], harness := (true, "0df71891f32188417a95b8e89912506cf88573aaa5f1618ba9f178b6740159b9"), looks := true }, kinds := [], alts := [], laidByText := true, laidKinds := [.data, .data, .data, .sentinel, .sentinel], laidTests := true, laidLooks := .later }
def ProgTrimsCardSaid : Prop := Claim7.holds Tryd.pinned (.plain (OpenSpec.ofChange progTrimsSpec)) progTrimsCard

/-- THE TIED CARD OF 'tesseralaw09.ProgRenamed'. -/
def progRenamedCard : Claim7 := { stood := { row := progRenamedRow, standIns := [], harness := (true, "0df71891f32188417a95b8e89912506cf88573aaa5f1618ba9f178b6740159b9"), looks := true }, kinds := [], alts := [], laidByText := true, laidKinds := [.data, .data, .data, .sentinel, .sentinel], laidTests := true, laidLooks := .later }
def ProgRenamedCardSaid : Prop := Claim7.holds Tryd.pinned (.plain (OpenSpec.ofChange progRenamedSpec)) progRenamedCard

/-- THE TIED CARD OF 'tesseralaw09.ProgIdle'. -/
def progIdleCard : Claim7 := { stood := { row := progIdleRow, standIns := [], harness := (true, "0df71891f32188417a95b8e89912506cf88573aaa5f1618ba9f178b6740159b9"), looks := true }, kinds := [], alts := [], laidByText := true, laidKinds := [.data, .data, .data, .sentinel, .sentinel], laidTests := true, laidLooks := .later }
def ProgIdleCardSaid : Prop := Claim7.holds Tryd.pinned (.plain (OpenSpec.ofChange progIdleSpec)) progIdleCard

/-- THE SECOND FORM's CARD OF 'tesseralaw09.ProgTells'. -/
def progTellsUptoCard : Claim7 := { stood := { row := progTellsUptoRow, standIns := [], harness := (true, "0df71891f32188417a95b8e89912506cf88573aaa5f1618ba9f178b6740159b9"), looks := true }, kinds := [], alts := [], laidByText := true, laidKinds := [.data, .data, .data, .sentinel, .sentinel], laidTests := true, laidLooks := .later }
def ProgTellsUptoCardSaid : Prop := Claim7.holds Tryd.pinned (.plain (OpenSpec.upto progTellsSpec)) progTellsUptoCard

/-- THE SECOND FORM's CARD OF 'tesseralaw09.ProgTrims'. -/
def progTrimsUptoCard : Claim7 := { stood := { row := progTrimsUptoRow, standIns := [], harness := (true, "0df71891f32188417a95b8e89912506cf88573aaa5f1618ba9f178b6740159b9"), looks := true }, kinds := [], alts := [], laidByText := true, laidKinds := [.data, .data, .data, .sentinel, .sentinel], laidTests := true, laidLooks := .later }
def ProgTrimsUptoCardSaid : Prop := Claim7.holds Tryd.pinned (.plain (OpenSpec.upto progTrimsSpec)) progTrimsUptoCard

/-- THE SECOND FORM's CARD OF 'tesseralaw09.ProgRenamed'. -/
def progRenamedUptoCard : Claim7 := { stood := { row := progRenamedUptoRow, standIns := [], harness := (true, "0df71891f32188417a95b8e89912506cf88573aaa5f1618ba9f178b6740159b9"), looks := true }, kinds := [], alts := [], laidByText := true, laidKinds := [.data, .data, .data, .sentinel, .sentinel], laidTests := true, laidLooks := .later }
def ProgRenamedUptoCardSaid : Prop := Claim7.holds Tryd.pinned (.plain (OpenSpec.upto progRenamedSpec)) progRenamedUptoCard

/-- THE SECOND FORM's CARD OF 'tesseralaw09.ProgIdle'. -/
def progIdleUptoCard : Claim7 := { stood := { row := progIdleUptoRow, standIns := [], harness := (true, "0df71891f32188417a95b8e89912506cf88573aaa5f1618ba9f178b6740159b9"), looks := true }, kinds := [], alts := [], laidByText := true, laidKinds := [.data, .data, .data, .sentinel, .sentinel], laidTests := true, laidLooks := .later }
def ProgIdleUptoCardSaid : Prop := Claim7.holds Tryd.pinned (.plain (OpenSpec.upto progIdleSpec)) progIdleUptoCard
end Rows
end Go.Proofs.YtbjjmlebpohmcaaDoor
