/-
  DERIVED. GIVEN WITH THE SEED: THE CARDS: each row of YtbnjjmmpgpomiaaDoorRows.lean that lists a variable, with what it lists TIED to the program's text (the seventh form; the later family's looks); each row that meets fmt, with fmt's text TOLD by the authors' own Lean function (tested against real Go, not proved from fmt's source: count such statements apart). THE CARD IS WHAT COUNTS. Prove the row's statement (the work); the ties are given (YtbnjjmmpgpomiaaDoorTie.lean); close each card by the builder's one call (the guide's Derived/Test/ToyasCard.lean, 'card_holds'). Laid BY PROGRAM, IN A SANDBOX (cutbox-door.mjs). By AI agents, Wed Nov 11 2026. No macro, syntax, notation, axiom, sorry.
-/
import Derived.Test.YtbnjjmmpgpomiaaDoorRows
import GoSem.ClaimSeven
namespace Go.Proofs.YtbnjjmmpgpomiaaDoor
namespace Rows

/-- THE TIED CARD OF 'tesseralaw06.ShardsSizes'. -/
def shardsSizesCard : Claim7 := { stood := { row := shardsSizesRow, standIns := [], harness := (true, "019104fefbff45bd926d9d78473be79303aa0ef3649c1294fdaf3614f001a288"), looks := true }, kinds := [], alts := [], laidByText := true, laidKinds := [.sentinel, .sentinel, .sentinel, .sentinel, .sentinel, .sentinel, .sentinel, .sentinel, .sentinel, .sentinel, .sentinel, .sentinel, .sentinel, .sentinel, .sentinel, .sentinel, .sentinel, .sentinel, .sentinel, .sentinel, .sentinel, .sentinel, .sentinel, .sentinel, .sentinel], laidTests := true, laidLooks := .later }
def ShardsSizesCardSaid : Prop := Claim7.holds Tryd.pinned (.plain (OpenSpec.ofChange shardsSizesSpec)) shardsSizesCard

/-- THE TIED CARD OF 'tesseralaw06.ShardsSplits'. -/
def shardsSplitsCard : Claim7 := { stood := { row := shardsSplitsRow, standIns := [], harness := (true, "019104fefbff45bd926d9d78473be79303aa0ef3649c1294fdaf3614f001a288"), looks := true }, kinds := [], alts := [], laidByText := true, laidKinds := [.sentinel, .sentinel, .sentinel, .sentinel, .sentinel, .sentinel, .sentinel, .sentinel, .sentinel, .sentinel, .sentinel, .sentinel, .sentinel, .sentinel, .sentinel, .sentinel, .sentinel, .sentinel, .sentinel, .sentinel, .sentinel, .sentinel, .sentinel, .sentinel, .sentinel], laidTests := true, laidLooks := .later }
def ShardsSplitsCardSaid : Prop := Claim7.holds Tryd.pinned (.plain (OpenSpec.ofChange shardsSplitsSpec)) shardsSplitsCard

/-- THE TIED CARD OF 'tesseralaw06.ShardsJoins'. -/
def shardsJoinsCard : Claim7 := { stood := { row := shardsJoinsRow, standIns := [], harness := (true, "019104fefbff45bd926d9d78473be79303aa0ef3649c1294fdaf3614f001a288"), looks := true }, kinds := [], alts := [], laidByText := true, laidKinds := [.sentinel, .sentinel, .sentinel, .sentinel, .sentinel, .sentinel, .sentinel, .sentinel, .sentinel, .sentinel, .sentinel, .sentinel, .sentinel, .sentinel, .sentinel, .sentinel, .sentinel, .sentinel, .sentinel, .sentinel, .sentinel, .sentinel, .sentinel, .sentinel, .sentinel], laidTests := true, laidLooks := .later }
def ShardsJoinsCardSaid : Prop := Claim7.holds Tryd.pinned (.plain (OpenSpec.ofChange shardsJoinsSpec)) shardsJoinsCard

/-- THE TIED CARD OF 'tesseralaw06.ShardsBack'. -/
def shardsBackCard : Claim7 := { stood := { row := shardsBackRow, standIns := [], harness := (true, "019104fefbff45bd926d9d78473be79303aa0ef3649c1294fdaf3614f001a288"), looks := true }, kinds := [], alts := [], laidByText := true, laidKinds := [.sentinel, .sentinel, .sentinel, .sentinel], laidTests := true, laidLooks := .later }
def ShardsBackCardSaid : Prop := Claim7.holds Tryd.pinned (.plain (OpenSpec.ofChange shardsBackSpec)) shardsBackCard

/-- THE TIED CARD OF 'tesseralaw06.ShardsGrow'. -/
def shardsGrowCard : Claim7 := { stood := { row := shardsGrowRow, standIns := [], harness := (true, "019104fefbff45bd926d9d78473be79303aa0ef3649c1294fdaf3614f001a288"), looks := true }, kinds := [], alts := [], laidByText := true, laidKinds := [.sentinel, .sentinel, .sentinel], laidTests := true, laidLooks := .later }
def ShardsGrowCardSaid : Prop := Claim7.holds Tryd.pinned (.plain (OpenSpec.ofChange shardsGrowSpec)) shardsGrowCard

/-- THE SECOND FORM's CARD OF 'tesseralaw06.ShardsSizes'. -/
def shardsSizesUptoCard : Claim7 := { stood := { row := shardsSizesUptoRow, standIns := [], harness := (true, "019104fefbff45bd926d9d78473be79303aa0ef3649c1294fdaf3614f001a288"), looks := true }, kinds := [], alts := [], laidByText := true, laidKinds := [.sentinel, .sentinel, .sentinel, .sentinel, .sentinel, .sentinel, .sentinel, .sentinel, .sentinel, .sentinel, .sentinel, .sentinel, .sentinel, .sentinel, .sentinel, .sentinel, .sentinel, .sentinel, .sentinel, .sentinel, .sentinel, .sentinel, .sentinel, .sentinel, .sentinel], laidTests := true, laidLooks := .later }
def ShardsSizesUptoCardSaid : Prop := Claim7.holds Tryd.pinned (.plain (OpenSpec.upto shardsSizesSpec)) shardsSizesUptoCard

/-- THE SECOND FORM's CARD OF 'tesseralaw06.ShardsSplits'. -/
def shardsSplitsUptoCard : Claim7 := { stood := { row := shardsSplitsUptoRow, standIns := [], harness := (true, "019104fefbff45bd926d9d78473be79303aa0ef3649c1294fdaf3614f001a288"), looks := true }, kinds := [], alts := [], laidByText := true, laidKinds := [.sentinel, .sentinel, .sentinel, .sentinel, .sentinel, .sentinel, .sentinel, .sentinel, .sentinel, .sentinel, .sentinel, .sentinel, .sentinel, .sentinel, .sentinel, .sentinel, .sentinel, .sentinel, .sentinel, .sentinel, .sentinel, .sentinel, .sentinel, .sentinel, .sentinel], laidTests := true, laidLooks := .later }
def ShardsSplitsUptoCardSaid : Prop := Claim7.holds Tryd.pinned (.plain (OpenSpec.upto shardsSplitsSpec)) shardsSplitsUptoCard

/-- THE SECOND FORM's CARD OF 'tesseralaw06.ShardsJoins'. -/
def shardsJoinsUptoCard : Claim7 := { stood := { row := shardsJoinsUptoRow, standIns := [], harness := (true, "019104fefbff45bd926d9d78473be79303aa0ef3649c1294fdaf3614f001a288"), looks := true }, kinds := [], alts := [], laidByText := true, laidKinds := [.sentinel, .sentinel, .sentinel, .sentinel, .sentinel, .sentinel, .sentinel, .sentinel, .sentinel, .sentinel, .sentinel, .sentinel, .sentinel, .sentinel, .sentinel, .sentinel, .sentinel, .sentinel, .sentinel, .sentinel, .sentinel, .sentinel, .sentinel, .sentinel, .sentinel], laidTests := true, laidLooks := .later }
def ShardsJoinsUptoCardSaid : Prop := Claim7.holds Tryd.pinned (.plain (OpenSpec.upto shardsJoinsSpec)) shardsJoinsUptoCard

/-- THE SECOND FORM's CARD OF 'tesseralaw06.ShardsBack'. -/
def shardsBackUptoCard : Claim7 := { stood := { row := shardsBackUptoRow, standIns := [], harness := (true, "019104fefbff45bd926d9d78473be79303aa0ef3649c1294fdaf3614f001a288"), looks := true }, kinds := [], alts := [], laidByText := true, laidKinds := [.sentinel, .sentinel, .sentinel, .sentinel], laidTests := true, laidLooks := .later }
def ShardsBackUptoCardSaid : Prop := Claim7.holds Tryd.pinned (.plain (OpenSpec.upto shardsBackSpec)) shardsBackUptoCard

/-- THE SECOND FORM's CARD OF 'tesseralaw06.ShardsGrow'. -/
def shardsGrowUptoCard : Claim7 := { stood := { row := shardsGrowUptoRow, standIns := [], harness := (true, "019104fefbff45bd926d9d78473be79303aa0ef3649c1294fdaf3614f001a288"), looks := true }, kinds := [], alts := [], laidByText := true, laidKinds := [.sentinel, .sentinel, .sentinel], laidTests := true, laidLooks := .later }
def ShardsGrowUptoCardSaid : Prop := Claim7.holds Tryd.pinned (.plain (OpenSpec.upto shardsGrowSpec)) shardsGrowUptoCard
end Rows
end Go.Proofs.YtbnjjmmpgpomiaaDoor
