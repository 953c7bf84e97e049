/-
  DERIVED. GIVEN WITH THE SEED: THE CARDS: each row of YtjmbpldkggbdlaaGreatDoorRows.lean that lists a variable, with what it lists TIED to the program's text (the seventh form; the later family's looks); each row that meets fmt, with fmt's text TOLD by the authors' own Lean function (tested against real Go, not proved from fmt's source: count such statements apart). THE CARD IS WHAT COUNTS. Prove the row's statement (the work); the ties are given (YtjmbpldkggbdlaaGreatDoorTie.lean); close each card by the builder's one call (the guide's Derived/Test/ToyasCard.lean, 'card_holds'). Laid BY PROGRAM, IN A SANDBOX (cutbox-door.mjs). By AI agents, Wed Nov 11 2026. No macro, syntax, notation, axiom, sorry.
-/
import Derived.Test.YtjmbpldkggbdlaaGreatDoorRows
import GoSem.ClaimSeven
namespace Go.Proofs.YtjmbpldkggbdlaaGreatDoor
namespace Rows

/-- THE TIED CARD OF 'tesseralaw08.DamageTells'. -/
def damageTellsCard : Claim7 := { stood := { row := damageTellsRow, standIns := [], harness := (true, "5058b7e4062a64372cddf6dcb62c46ebcd46048e0b46b486fa9f484617f21b80"), looks := true }, kinds := [], alts := [], laidByText := true, laidKinds := [.data, .data, .data, .sentinel, .sentinel, .sentinel, .sentinel], laidTests := true, laidLooks := .later }
def DamageTellsCardSaid : Prop := Claim7.holds Tryz.pinned (.plain (OpenSpec.ofChange damageTellsSpec)) damageTellsCard

/-- THE TIED CARD OF 'tesseralaw08.DamageParses'. -/
def damageParsesCard : Claim7 := { stood := { row := damageParsesRow, standIns := [], harness := (true, "5058b7e4062a64372cddf6dcb62c46ebcd46048e0b46b486fa9f484617f21b80"), looks := true }, kinds := [], alts := [], laidByText := true, laidKinds := [.data, .data, .data, .data, .sentinel, .sentinel, .sentinel, .sentinel, .pinned], laidTests := true, laidLooks := .later }
def DamageParsesCardSaid : Prop := Claim7.holds Tryz.pinned (.plain (OpenSpec.ofChange damageParsesSpec)) damageParsesCard

/-- THE TIED CARD OF 'tesseralaw08.DamageBack'. -/
def damageBackCard : Claim7 := { stood := { row := damageBackRow, standIns := [], harness := (true, "5058b7e4062a64372cddf6dcb62c46ebcd46048e0b46b486fa9f484617f21b80"), looks := true }, kinds := [], alts := [], laidByText := true, laidKinds := [.data, .data, .data, .data, .sentinel, .sentinel, .sentinel, .sentinel, .pinned], laidTests := true, laidLooks := .later }
def DamageBackCardSaid : Prop := Claim7.holds Tryz.pinned (.plain (OpenSpec.ofChange damageBackSpec)) damageBackCard

/-- THE TIED CARD OF 'tesseralaw08.DamageMore'. -/
def damageMoreCard : Claim7 := { stood := { row := damageMoreRow, standIns := [], harness := (true, "5058b7e4062a64372cddf6dcb62c46ebcd46048e0b46b486fa9f484617f21b80"), looks := true }, kinds := [], alts := [], laidByText := true, laidKinds := [.data, .data, .data, .sentinel, .sentinel, .sentinel, .sentinel], laidTests := true, laidLooks := .later }
def DamageMoreCardSaid : Prop := Claim7.holds Tryz.pinned (.plain (OpenSpec.ofChange damageMoreSpec)) damageMoreCard

/-- THE TIED CARD OF 'tesseralaw08.DamageParts'. -/
def damagePartsCard : Claim7 := { stood := { row := damagePartsRow, standIns := [], harness := (true, "5058b7e4062a64372cddf6dcb62c46ebcd46048e0b46b486fa9f484617f21b80"), looks := true }, kinds := [], alts := [], laidByText := true, laidKinds := [.data, .data, .data, .sentinel, .sentinel, .sentinel, .sentinel], laidTests := true, laidLooks := .later }
def DamagePartsCardSaid : Prop := Claim7.holds Tryz.pinned (.plain (OpenSpec.ofChange damagePartsSpec)) damagePartsCard

/-- THE TIED CARD OF 'tesseralaw08.DamageOne'. -/
def damageOneCard : Claim7 := { stood := { row := damageOneRow, standIns := [], harness := (true, "5058b7e4062a64372cddf6dcb62c46ebcd46048e0b46b486fa9f484617f21b80"), looks := true }, kinds := [], alts := [], laidByText := true, laidKinds := [.data, .data, .data, .sentinel, .sentinel, .sentinel, .sentinel], laidTests := true, laidLooks := .later }
def DamageOneCardSaid : Prop := Claim7.holds Tryz.pinned (.plain (OpenSpec.ofChange damageOneSpec)) damageOneCard

/-- THE SECOND FORM's CARD OF 'tesseralaw08.DamageTells'. -/
def damageTellsUptoCard : Claim7 := { stood := { row := damageTellsUptoRow, standIns := [], harness := (true, "5058b7e4062a64372cddf6dcb62c46ebcd46048e0b46b486fa9f484617f21b80"), looks := true }, kinds := [], alts := [], laidByText := true, laidKinds := [.data, .data, .data, .sentinel, .sentinel, .sentinel, .sentinel], laidTests := true, laidLooks := .later }
def DamageTellsUptoCardSaid : Prop := Claim7.holds Tryz.pinned (.plain (OpenSpec.upto damageTellsSpec)) damageTellsUptoCard

/-- THE SECOND FORM's CARD OF 'tesseralaw08.DamageParses'. -/
def damageParsesUptoCard : Claim7 := { stood := { row := damageParsesUptoRow, standIns := [], harness := (true, "5058b7e4062a64372cddf6dcb62c46ebcd46048e0b46b486fa9f484617f21b80"), looks := true }, kinds := [], alts := [], laidByText := true, laidKinds := [.data, .data, .data, .data, .sentinel, .sentinel, .sentinel, .sentinel, .pinned], laidTests := true, laidLooks := .later }
def DamageParsesUptoCardSaid : Prop := Claim7.holds Tryz.pinned (.plain (OpenSpec.upto damageParsesSpec)) damageParsesUptoCard

/-- THE SECOND FORM's CARD OF 'tesseralaw08.DamageBack'. -/
def damageBackUptoCard : Claim7 := { stood := { row := damageBackUptoRow, standIns := [], harness := (true, "5058b7e4062a64372cddf6dcb62c46ebcd46048e0b46b486fa9f484617f21b80"), looks := true }, kinds := [], alts := [], laidByText := true, laidKinds := [.data, .data, .data, .data, .sentinel, .sentinel, .sentinel, .sentinel, .pinned], laidTests := true, laidLooks := .later }
def DamageBackUptoCardSaid : Prop := Claim7.holds Tryz.pinned (.plain (OpenSpec.upto damageBackSpec)) damageBackUptoCard

/-- THE SECOND FORM's CARD OF 'tesseralaw08.DamageMore'. -/
def damageMoreUptoCard : Claim7 := { stood := { row := damageMoreUptoRow, standIns := [], harness := (true, "5058b7e4062a64372cddf6dcb62c46ebcd46048e0b46b486fa9f484617f21b80"), looks := true }, kinds := [], alts := [], laidByText := true, laidKinds := [.data, .data, .data, .sentinel, .sentinel, .sentinel, .sentinel], laidTests := true, laidLooks := .later }
def DamageMoreUptoCardSaid : Prop := Claim7.holds Tryz.pinned (.plain (OpenSpec.upto damageMoreSpec)) damageMoreUptoCard

/-- THE SECOND FORM's CARD OF 'tesseralaw08.DamageParts'. -/
def damagePartsUptoCard : Claim7 := { stood := { row := damagePartsUptoRow, standIns := [], harness := (true, "5058b7e4062a64372cddf6dcb62c46ebcd46048e0b46b486fa9f484617f21b80"), looks := true }, kinds := [], alts := [], laidByText := true, laidKinds := [.data, .data, .data, .sentinel, .sentinel, .sentinel, .sentinel], laidTests := true, laidLooks := .later }
def DamagePartsUptoCardSaid : Prop := Claim7.holds Tryz.pinned (.plain (OpenSpec.upto damagePartsSpec)) damagePartsUptoCard

/-- THE SECOND FORM's CARD OF 'tesseralaw08.DamageOne'. -/
def damageOneUptoCard : Claim7 := { stood := { row := damageOneUptoRow, standIns := [], harness := (true, "5058b7e4062a64372cddf6dcb62c46ebcd46048e0b46b486fa9f484617f21b80"), looks := true }, kinds := [], alts := [], laidByText := true, laidKinds := [.data, .data, .data, .sentinel, .sentinel, .sentinel, .sentinel], laidTests := true, laidLooks := .later }
def DamageOneUptoCardSaid : Prop := Claim7.holds Tryz.pinned (.plain (OpenSpec.upto damageOneSpec)) damageOneUptoCard
end Rows
end Go.Proofs.YtjmbpldkggbdlaaGreatDoor
