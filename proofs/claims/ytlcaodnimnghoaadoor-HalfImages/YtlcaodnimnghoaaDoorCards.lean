/-
  DERIVED. GIVEN WITH THE SEED: THE CARDS: each row of YtlcaodnimnghoaaDoorRows.lean that lists a variable, with what it lists TIED to the program's text (the seventh form; the later family's looks); each row that meets fmt, with fmt's text TOLD by the authors' own Lean function (tested against real Go, not proved from fmt's source: count such statements apart). THE CARD IS WHAT COUNTS. Prove the row's statement (the work); the ties are given (YtlcaodnimnghoaaDoorTie.lean); close each card by the builder's one call (the guide's Derived/Test/ToyasCard.lean, 'card_holds'). Laid BY PROGRAM, IN A SANDBOX (cutbox-door.mjs). By AI agents, Wed Nov 11 2026. No macro, syntax, notation, axiom, sorry.
-/
import Derived.Test.YtlcaodnimnghoaaDoorRows
import GoSem.ClaimSeven
namespace Go.Proofs.YtlcaodnimnghoaaDoor
namespace Rows

/-- THE TIED CARD OF 'tesseralaw05.HalfNumbers'. -/
def halfNumbersCard : Claim7 := { stood := { row := halfNumbersRow, standIns := [], harness := (true, "d21b54bba13b4c9bf4a04b3a1b238d855146ac8e15b22290e4c396d8f9d096fc"), looks := true }, kinds := [], alts := [], laidByText := true, laidKinds := [.data, .data, .data, .sentinel, .sentinel, .sentinel, .sentinel], laidTests := true, laidLooks := .later }
def HalfNumbersCardSaid : Prop := Claim7.holds Tryd.pinned (.plain (OpenSpec.ofChange halfNumbersSpec)) halfNumbersCard

/-- THE TIED CARD OF 'tesseralaw05.HalfRows'. -/
def halfRowsCard : Claim7 := { stood := { row := halfRowsRow, standIns := [], harness := (true, "d21b54bba13b4c9bf4a04b3a1b238d855146ac8e15b22290e4c396d8f9d096fc"), looks := true }, kinds := [], alts := [], laidByText := true, laidKinds := [.data, .data, .data, .sentinel, .sentinel, .sentinel, .sentinel], laidTests := true, laidLooks := .later }
def HalfRowsCardSaid : Prop := Claim7.holds Tryd.pinned (.plain (OpenSpec.ofChange halfRowsSpec)) halfRowsCard

/-- THE TIED CARD OF 'tesseralaw05.HalfNames'. -/
def halfNamesCard : Claim7 := { stood := { row := halfNamesRow, standIns := [], harness := (true, "d21b54bba13b4c9bf4a04b3a1b238d855146ac8e15b22290e4c396d8f9d096fc"), looks := true }, kinds := [], alts := [], laidByText := true, laidKinds := [.data, .data, .data, .sentinel, .sentinel, .sentinel, .sentinel], laidTests := true, laidLooks := .later }
def HalfNamesCardSaid : Prop := Claim7.holds Tryd.pinned (.plain (OpenSpec.ofChange halfNamesSpec)) halfNamesCard

/-- THE TIED CARD OF 'tesseralaw05.HalfCarries'. -/
def halfCarriesCard : Claim7 := { stood := { row := halfCarriesRow, standIns := [], harness := (true, "d21b54bba13b4c9bf4a04b3a1b238d855146ac8e15b22290e4c396d8f9d096fc"), looks := true }, kinds := [], alts := [], laidByText := true, laidKinds := [.data, .data, .data, .sentinel, .sentinel, .sentinel, .sentinel], laidTests := true, laidLooks := .later }
def HalfCarriesCardSaid : Prop := Claim7.holds Tryd.pinned (.plain (OpenSpec.ofChange halfCarriesSpec)) halfCarriesCard

/-- THE TIED CARD OF 'tesseralaw05.HalfAnyShards'. -/
def halfAnyShardsCard : Claim7 := { stood := { row := halfAnyShardsRow, standIns := [], harness := (true, "d21b54bba13b4c9bf4a04b3a1b238d855146ac8e15b22290e4c396d8f9d096fc"), looks := true }, kinds := [], alts := [], laidByText := true, laidKinds := [.data, .data, .data, .sentinel, .sentinel, .sentinel, .sentinel], laidTests := true, laidLooks := .later }
def HalfAnyShardsCardSaid : Prop := Claim7.holds Tryd.pinned (.plain (OpenSpec.ofChange halfAnyShardsSpec)) halfAnyShardsCard

/-- THE TIED CARD OF 'tesseralaw05.HalfImages'. -/
def halfImagesCard : Claim7 := { stood := { row := halfImagesRow, standIns := [], harness := (true, "d21b54bba13b4c9bf4a04b3a1b238d855146ac8e15b22290e4c396d8f9d096fc"), looks := true }, kinds := [], alts := [], laidByText := true, laidKinds := [.data, .data, .data, .sentinel, .sentinel, .sentinel, .sentinel], laidTests := true, laidLooks := .later }
def HalfImagesCardSaid : Prop := Claim7.holds Tryd.pinned (.plain (OpenSpec.ofChange halfImagesSpec)) halfImagesCard

/-- THE SECOND FORM's CARD OF 'tesseralaw05.HalfNumbers'. -/
def halfNumbersUptoCard : Claim7 := { stood := { row := halfNumbersUptoRow, standIns := [], harness := (true, "d21b54bba13b4c9bf4a04b3a1b238d855146ac8e15b22290e4c396d8f9d096fc"), looks := true }, kinds := [], alts := [], laidByText := true, laidKinds := [.data, .data, .data, .sentinel, .sentinel, .sentinel, .sentinel], laidTests := true, laidLooks := .later }
def HalfNumbersUptoCardSaid : Prop := Claim7.holds Tryd.pinned (.plain (OpenSpec.upto halfNumbersSpec)) halfNumbersUptoCard

/-- THE SECOND FORM's CARD OF 'tesseralaw05.HalfRows'. -/
def halfRowsUptoCard : Claim7 := { stood := { row := halfRowsUptoRow, standIns := [], harness := (true, "d21b54bba13b4c9bf4a04b3a1b238d855146ac8e15b22290e4c396d8f9d096fc"), looks := true }, kinds := [], alts := [], laidByText := true, laidKinds := [.data, .data, .data, .sentinel, .sentinel, .sentinel, .sentinel], laidTests := true, laidLooks := .later }
def HalfRowsUptoCardSaid : Prop := Claim7.holds Tryd.pinned (.plain (OpenSpec.upto halfRowsSpec)) halfRowsUptoCard

/-- THE SECOND FORM's CARD OF 'tesseralaw05.HalfNames'. -/
def halfNamesUptoCard : Claim7 := { stood := { row := halfNamesUptoRow, standIns := [], harness := (true, "d21b54bba13b4c9bf4a04b3a1b238d855146ac8e15b22290e4c396d8f9d096fc"), looks := true }, kinds := [], alts := [], laidByText := true, laidKinds := [.data, .data, .data, .sentinel, .sentinel, .sentinel, .sentinel], laidTests := true, laidLooks := .later }
def HalfNamesUptoCardSaid : Prop := Claim7.holds Tryd.pinned (.plain (OpenSpec.upto halfNamesSpec)) halfNamesUptoCard

/-- THE SECOND FORM's CARD OF 'tesseralaw05.HalfCarries'. -/
def halfCarriesUptoCard : Claim7 := { stood := { row := halfCarriesUptoRow, standIns := [], harness := (true, "d21b54bba13b4c9bf4a04b3a1b238d855146ac8e15b22290e4c396d8f9d096fc"), looks := true }, kinds := [], alts := [], laidByText := true, laidKinds := [.data, .data, .data, .sentinel, .sentinel, .sentinel, .sentinel], laidTests := true, laidLooks := .later }
def HalfCarriesUptoCardSaid : Prop := Claim7.holds Tryd.pinned (.plain (OpenSpec.upto halfCarriesSpec)) halfCarriesUptoCard

/-- THE SECOND FORM's CARD OF 'tesseralaw05.HalfAnyShards'. -/
def halfAnyShardsUptoCard : Claim7 := { stood := { row := halfAnyShardsUptoRow, standIns := [], harness := (true, "d21b54bba13b4c9bf4a04b3a1b238d855146ac8e15b22290e4c396d8f9d096fc"), looks := true }, kinds := [], alts := [], laidByText := true, laidKinds := [.data, .data, .data, .sentinel, .sentinel, .sentinel, .sentinel], laidTests := true, laidLooks := .later }
def HalfAnyShardsUptoCardSaid : Prop := Claim7.holds Tryd.pinned (.plain (OpenSpec.upto halfAnyShardsSpec)) halfAnyShardsUptoCard

/-- THE SECOND FORM's CARD OF 'tesseralaw05.HalfImages'. -/
def halfImagesUptoCard : Claim7 := { stood := { row := halfImagesUptoRow, standIns := [], harness := (true, "d21b54bba13b4c9bf4a04b3a1b238d855146ac8e15b22290e4c396d8f9d096fc"), looks := true }, kinds := [], alts := [], laidByText := true, laidKinds := [.data, .data, .data, .sentinel, .sentinel, .sentinel, .sentinel], laidTests := true, laidLooks := .later }
def HalfImagesUptoCardSaid : Prop := Claim7.holds Tryd.pinned (.plain (OpenSpec.upto halfImagesSpec)) halfImagesUptoCard
end Rows
end Go.Proofs.YtlcaodnimnghoaaDoor
