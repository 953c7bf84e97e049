/-
  DERIVED. GIVEN WITH THE SEED: THE CARDS: each row of YtagahiahhgafpaaDoorRows.lean that lists a variable, with what it lists TIED to the program's text (the seventh form; the later family's looks); each row that meets fmt, with fmt's text TOLD by the authors' own Lean function (tested against real Go, not proved from fmt's source: count such statements apart). THE CARD IS WHAT COUNTS. Prove the row's statement (the work); the ties are given (YtagahiahhgafpaaDoorTie.lean); close each card by the builder's one call (the guide's Derived/Test/ToyasCard.lean, 'card_holds'). Laid BY PROGRAM, IN A SANDBOX (cutbox-door.mjs). By AI agents, Wed Nov 11 2026. No macro, syntax, notation, axiom, sorry.
-/
import Derived.Test.YtagahiahhgafpaaDoorRows
import GoSem.ClaimSeven
namespace Go.Proofs.YtagahiahhgafpaaDoor
namespace Rows

/-- THE TIED CARD OF 'tesseralaw02.MatForms'. -/
def matFormsCard : Claim7 := { stood := { row := matFormsRow, standIns := [], harness := (true, "b28b09cd82e87638d25f950384eeaa49cc6738b4060214e711620d0dd9879d11"), looks := true }, kinds := [], alts := [], laidByText := true, laidKinds := [.sentinel, .sentinel, .sentinel, .sentinel, .sentinel, .sentinel, .sentinel, .sentinel, .sentinel, .sentinel, .sentinel, .sentinel, .sentinel, .sentinel, .sentinel, .sentinel, .sentinel, .sentinel, .sentinel, .sentinel, .sentinel, .sentinel, .sentinel, .sentinel, .sentinel], laidTests := true, laidLooks := .later }
def MatFormsCardSaid : Prop := Claim7.holds Tryd.pinned (.plain (OpenSpec.ofChange matFormsSpec)) matFormsCard

/-- THE TIED CARD OF 'tesseralaw02.MatPlaces'. -/
def matPlacesCard : Claim7 := { stood := { row := matPlacesRow, standIns := [], harness := (true, "b28b09cd82e87638d25f950384eeaa49cc6738b4060214e711620d0dd9879d11"), looks := true }, kinds := [], alts := [], laidByText := true, laidKinds := [.sentinel, .sentinel, .sentinel, .sentinel, .sentinel, .sentinel, .sentinel, .sentinel, .sentinel, .sentinel, .sentinel, .sentinel, .sentinel, .sentinel, .sentinel, .sentinel, .sentinel, .sentinel, .sentinel, .sentinel, .sentinel, .sentinel, .sentinel, .sentinel, .sentinel], laidTests := true, laidLooks := .later }
def MatPlacesCardSaid : Prop := Claim7.holds Tryd.pinned (.plain (OpenSpec.ofChange matPlacesSpec)) matPlacesCard

/-- THE TIED CARD OF 'tesseralaw02.MatProducts'. -/
def matProductsCard : Claim7 := { stood := { row := matProductsRow, standIns := [], harness := (true, "b28b09cd82e87638d25f950384eeaa49cc6738b4060214e711620d0dd9879d11"), looks := true }, kinds := [], alts := [], laidByText := true, laidKinds := [.sentinel, .sentinel, .sentinel, .sentinel, .sentinel, .sentinel, .sentinel, .sentinel, .sentinel, .sentinel, .sentinel, .sentinel, .sentinel, .sentinel, .sentinel, .sentinel, .sentinel, .sentinel, .sentinel, .sentinel, .sentinel, .sentinel, .sentinel, .sentinel, .sentinel], laidTests := true, laidLooks := .later }
def MatProductsCardSaid : Prop := Claim7.holds Tryd.pinned (.plain (OpenSpec.ofChange matProductsSpec)) matProductsCard

/-- THE TIED CARD OF 'tesseralaw02.MatVectors'. -/
def matVectorsCard : Claim7 := { stood := { row := matVectorsRow, standIns := [], harness := (true, "b28b09cd82e87638d25f950384eeaa49cc6738b4060214e711620d0dd9879d11"), looks := true }, kinds := [], alts := [], laidByText := true, laidKinds := [.sentinel], laidTests := true, laidLooks := .later }
def MatVectorsCardSaid : Prop := Claim7.holds Tryd.pinned (.plain (OpenSpec.ofChange matVectorsSpec)) matVectorsCard

/-- THE TIED CARD OF 'tesseralaw02.MatLaws'. -/
def matLawsCard : Claim7 := { stood := { row := matLawsRow, standIns := [], harness := (true, "b28b09cd82e87638d25f950384eeaa49cc6738b4060214e711620d0dd9879d11"), looks := true }, kinds := [], alts := [], laidByText := true, laidKinds := [.sentinel], laidTests := true, laidLooks := .later }
def MatLawsCardSaid : Prop := Claim7.holds Tryd.pinned (.plain (OpenSpec.ofChange matLawsSpec)) matLawsCard

/-- THE TIED CARD OF 'tesseralaw02.MatStacks'. -/
def matStacksCard : Claim7 := { stood := { row := matStacksRow, standIns := [], harness := (true, "b28b09cd82e87638d25f950384eeaa49cc6738b4060214e711620d0dd9879d11"), looks := true }, kinds := [], alts := [], laidByText := true, laidKinds := [.sentinel, .sentinel], laidTests := true, laidLooks := .later }
def MatStacksCardSaid : Prop := Claim7.holds Tryd.pinned (.plain (OpenSpec.ofChange matStacksSpec)) matStacksCard

/-- THE SECOND FORM's CARD OF 'tesseralaw02.MatForms'. -/
def matFormsUptoCard : Claim7 := { stood := { row := matFormsUptoRow, standIns := [], harness := (true, "b28b09cd82e87638d25f950384eeaa49cc6738b4060214e711620d0dd9879d11"), looks := true }, kinds := [], alts := [], laidByText := true, laidKinds := [.sentinel, .sentinel, .sentinel, .sentinel, .sentinel, .sentinel, .sentinel, .sentinel, .sentinel, .sentinel, .sentinel, .sentinel, .sentinel, .sentinel, .sentinel, .sentinel, .sentinel, .sentinel, .sentinel, .sentinel, .sentinel, .sentinel, .sentinel, .sentinel, .sentinel], laidTests := true, laidLooks := .later }
def MatFormsUptoCardSaid : Prop := Claim7.holds Tryd.pinned (.plain (OpenSpec.upto matFormsSpec)) matFormsUptoCard

/-- THE SECOND FORM's CARD OF 'tesseralaw02.MatPlaces'. -/
def matPlacesUptoCard : Claim7 := { stood := { row := matPlacesUptoRow, standIns := [], harness := (true, "b28b09cd82e87638d25f950384eeaa49cc6738b4060214e711620d0dd9879d11"), looks := true }, kinds := [], alts := [], laidByText := true, laidKinds := [.sentinel, .sentinel, .sentinel, .sentinel, .sentinel, .sentinel, .sentinel, .sentinel, .sentinel, .sentinel, .sentinel, .sentinel, .sentinel, .sentinel, .sentinel, .sentinel, .sentinel, .sentinel, .sentinel, .sentinel, .sentinel, .sentinel, .sentinel, .sentinel, .sentinel], laidTests := true, laidLooks := .later }
def MatPlacesUptoCardSaid : Prop := Claim7.holds Tryd.pinned (.plain (OpenSpec.upto matPlacesSpec)) matPlacesUptoCard

/-- THE SECOND FORM's CARD OF 'tesseralaw02.MatProducts'. -/
def matProductsUptoCard : Claim7 := { stood := { row := matProductsUptoRow, standIns := [], harness := (true, "b28b09cd82e87638d25f950384eeaa49cc6738b4060214e711620d0dd9879d11"), looks := true }, kinds := [], alts := [], laidByText := true, laidKinds := [.sentinel, .sentinel, .sentinel, .sentinel, .sentinel, .sentinel, .sentinel, .sentinel, .sentinel, .sentinel, .sentinel, .sentinel, .sentinel, .sentinel, .sentinel, .sentinel, .sentinel, .sentinel, .sentinel, .sentinel, .sentinel, .sentinel, .sentinel, .sentinel, .sentinel], laidTests := true, laidLooks := .later }
def MatProductsUptoCardSaid : Prop := Claim7.holds Tryd.pinned (.plain (OpenSpec.upto matProductsSpec)) matProductsUptoCard

/-- THE SECOND FORM's CARD OF 'tesseralaw02.MatVectors'. -/
def matVectorsUptoCard : Claim7 := { stood := { row := matVectorsUptoRow, standIns := [], harness := (true, "b28b09cd82e87638d25f950384eeaa49cc6738b4060214e711620d0dd9879d11"), looks := true }, kinds := [], alts := [], laidByText := true, laidKinds := [.sentinel], laidTests := true, laidLooks := .later }
def MatVectorsUptoCardSaid : Prop := Claim7.holds Tryd.pinned (.plain (OpenSpec.upto matVectorsSpec)) matVectorsUptoCard

/-- THE SECOND FORM's CARD OF 'tesseralaw02.MatLaws'. -/
def matLawsUptoCard : Claim7 := { stood := { row := matLawsUptoRow, standIns := [], harness := (true, "b28b09cd82e87638d25f950384eeaa49cc6738b4060214e711620d0dd9879d11"), looks := true }, kinds := [], alts := [], laidByText := true, laidKinds := [.sentinel], laidTests := true, laidLooks := .later }
def MatLawsUptoCardSaid : Prop := Claim7.holds Tryd.pinned (.plain (OpenSpec.upto matLawsSpec)) matLawsUptoCard

/-- THE SECOND FORM's CARD OF 'tesseralaw02.MatStacks'. -/
def matStacksUptoCard : Claim7 := { stood := { row := matStacksUptoRow, standIns := [], harness := (true, "b28b09cd82e87638d25f950384eeaa49cc6738b4060214e711620d0dd9879d11"), looks := true }, kinds := [], alts := [], laidByText := true, laidKinds := [.sentinel, .sentinel], laidTests := true, laidLooks := .later }
def MatStacksUptoCardSaid : Prop := Claim7.holds Tryd.pinned (.plain (OpenSpec.upto matStacksSpec)) matStacksUptoCard
end Rows
end Go.Proofs.YtagahiahhgafpaaDoor
