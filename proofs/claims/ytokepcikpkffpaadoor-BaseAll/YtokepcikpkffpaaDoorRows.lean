/-
  NARROWER THAN 'FOR EVERY INPUT', by the rows' own cells (each row's printed sentence says how): BaseParams: laid · BaseAll: laid · BaseAnyRows: laid · BaseGroups: laid · BaseSquares: laid.
  DERIVED. THE GIVEN ROWS OF THIS SEAT. 5 by the template 'for every input the law returns true; each argument reads behind the call as it read before'; 0 by the template 'total and deterministic' (their statements: YtokepcikpkffpaaDoorTotals.lean).
  GIVEN WITH THE SEED: the statements are not yours to turn. If you find one false, say at which input.
  Laid BY PROGRAM, IN A SANDBOX (cutbox-rows.mjs): the forced cells as the released guide's own fill.sh prints them over the translation 026ddad90ce3f290… (all of the seat's roots in one cut). By AI agents, Wed Nov 11 2026. No macro, syntax, notation, axiom, sorry.
-/
import Derived.Test.YtokepcikpkffpaaDoorChecked
import GoSem.Claim
import GoSem.ClaimJoined
import GoSem.ClaimMapViews
import Derived.JoinedTies
import Derived.KernelRfl
namespace Go.Proofs.YtokepcikpkffpaaDoor
/- THE CELL 'sum', in the pinned program and in every row, IS THE sha256 OF THE DUMP (.gsa) THAT YtokepcikpkffpaaDoorProg.lean LOADS. Nothing in Lean hashes anything: it is a label: what it is worth is what the hold of that sum in a sandbox is worth. -/
noncomputable def Tryd.pinned : Pinned := { name := "ytokepcikpkffpaadoor", sum := "026ddad90ce3f2903ec77685623bf7ba52d3efd07e65f7ac94cf719b560011a9", checked := Tryd.checked }
namespace Rows
def none {H : Type} : Left H := { results := [], args := [] }

/- WHAT THE LISTED PACKAGE-LEVEL VARIABLES READ AS WHEN THE CALL BEGINS. Each datum BY PROGRAM (the guide's laid-datum.mjs) off the statement by which the dump's own 'gosem.cut.vars' lays the variable. In a bare row this is a premise. The card (YtokepcikpkffpaaDoorCards.lean) ties it to the program's text. -/
def laid_tessera_api_ErrParams {H : Type} : DataW H := .iface "*errors.errorString" (.ptr (.agg [.lit (.string [116, 101, 115, 115, 101, 114, 97, 58, 32, 112, 97, 114, 97, 109, 115])]))
def laid_tessera_api_ErrShape {H : Type} : DataW H := .iface "*errors.errorString" (.ptr (.agg [.lit (.string [116, 101, 115, 115, 101, 114, 97, 58, 32, 115, 104, 97, 112, 101])]))
def laid_tessera_api_ErrSingular {H : Type} : DataW H := .iface "*errors.errorString" (.ptr (.agg [.lit (.string [116, 101, 115, 115, 101, 114, 97, 58, 32, 115, 105, 110, 103, 117, 108, 97, 114])]))
def laid_tessera_api_ErrNumber {H : Type} : DataW H := .iface "*errors.errorString" (.ptr (.agg [.lit (.string [116, 101, 115, 115, 101, 114, 97, 58, 32, 110, 117, 109, 98, 101, 114])]))

/-- 'tesseralaw04.BaseParams': WHATEVER THE INPUT: true; the input reads as it did. -/
def baseParamsSpec : ChangeSpec := { name := "baseParams", fn := fun _ => fun
  | [d1, d2] => { results := [.lit (.bool true)], args := [d1, d2] }
  | _ => none }
def baseParamsRow : OpenClaim := { program := "ytokepcikpkffpaadoor", sum := "026ddad90ce3f2903ec77685623bf7ba52d3efd07e65f7ac94cf719b560011a9", func := "tessera/tesseralaw04.BaseParams", spec := "baseParams", named := ["tessera/api.ErrParams", "tessera/api.ErrShape"], apart := false, laid := [("tessera/api.ErrParams", laid_tessera_api_ErrParams), ("tessera/api.ErrShape", laid_tessera_api_ErrShape)] }
def BaseParamsSaid : Prop := baseParamsRow.holds Tryd.pinned (OpenSpec.ofChange baseParamsSpec)

/-- ITS FALSE NEIGHBOUR: 'it returns false'. Refute it at one input. -/
def baseParamsWrong : ChangeSpec := { name := "baseParams", fn := fun _ => fun
  | [d1, d2] => { results := [.lit (.bool false)], args := [d1, d2] }
  | _ => none }
def BaseParamsWrongFalsely : Prop := baseParamsRow.holds Tryd.pinned (OpenSpec.ofChange baseParamsWrong)

/-- 'tesseralaw04.BaseAll': WHATEVER THE INPUT: true; the input reads as it did. -/
def baseAllSpec : ChangeSpec := { name := "baseAll", fn := fun _ => fun
  | [d] => { results := [.lit (.bool true)], args := [d] }
  | _ => none }
def baseAllRow : OpenClaim := { program := "ytokepcikpkffpaadoor", sum := "026ddad90ce3f2903ec77685623bf7ba52d3efd07e65f7ac94cf719b560011a9", func := "tessera/tesseralaw04.BaseAll", spec := "baseAll", unfollowed := true, recurses := true, named := ["tessera/api.ErrParams", "tessera/api.ErrShape"], apart := false, laid := [("tessera/api.ErrParams", laid_tessera_api_ErrParams), ("tessera/api.ErrShape", laid_tessera_api_ErrShape)] }
def BaseAllSaid : Prop := baseAllRow.holds Tryd.pinned (OpenSpec.ofChange baseAllSpec)

/-- ITS FALSE NEIGHBOUR: 'it returns false'. Refute it at one input. -/
def baseAllWrong : ChangeSpec := { name := "baseAll", fn := fun _ => fun
  | [d] => { results := [.lit (.bool false)], args := [d] }
  | _ => none }
def BaseAllWrongFalsely : Prop := baseAllRow.holds Tryd.pinned (OpenSpec.ofChange baseAllWrong)

/-- 'tesseralaw04.BaseAnyRows': WHATEVER THE INPUT: true; the input reads as it did. -/
def baseAnyRowsSpec : ChangeSpec := { name := "baseAnyRows", fn := fun _ => fun
  | [d1, d2, d3] => { results := [.lit (.bool true)], args := [d1, d2, d3] }
  | _ => none }
def baseAnyRowsRow : OpenClaim := { program := "ytokepcikpkffpaadoor", sum := "026ddad90ce3f2903ec77685623bf7ba52d3efd07e65f7ac94cf719b560011a9", func := "tessera/tesseralaw04.BaseAnyRows", spec := "baseAnyRows", unfollowed := true, recurses := true, named := ["tessera/api.ErrParams", "tessera/api.ErrShape", "tessera/api.ErrNumber", "tessera/api.ErrSingular"], apart := false, laid := [("tessera/api.ErrParams", laid_tessera_api_ErrParams), ("tessera/api.ErrShape", laid_tessera_api_ErrShape), ("tessera/api.ErrSingular", laid_tessera_api_ErrSingular), ("tessera/api.ErrNumber", laid_tessera_api_ErrNumber)] }
def BaseAnyRowsSaid : Prop := baseAnyRowsRow.holds Tryd.pinned (OpenSpec.ofChange baseAnyRowsSpec)

/-- ITS FALSE NEIGHBOUR: 'it returns false'. Refute it at one input. -/
def baseAnyRowsWrong : ChangeSpec := { name := "baseAnyRows", fn := fun _ => fun
  | [d1, d2, d3] => { results := [.lit (.bool false)], args := [d1, d2, d3] }
  | _ => none }
def BaseAnyRowsWrongFalsely : Prop := baseAnyRowsRow.holds Tryd.pinned (OpenSpec.ofChange baseAnyRowsWrong)

/-- 'tesseralaw04.BaseGroups': WHATEVER THE INPUT: true; the input reads as it did. -/
def baseGroupsSpec : ChangeSpec := { name := "baseGroups", fn := fun _ => fun
  | [d1, d2] => { results := [.lit (.bool true)], args := [d1, d2] }
  | _ => none }
def baseGroupsRow : OpenClaim := { program := "ytokepcikpkffpaadoor", sum := "026ddad90ce3f2903ec77685623bf7ba52d3efd07e65f7ac94cf719b560011a9", func := "tessera/tesseralaw04.BaseGroups", spec := "baseGroups", named := ["tessera/api.ErrParams", "tessera/api.ErrShape"], apart := false, laid := [("tessera/api.ErrParams", laid_tessera_api_ErrParams), ("tessera/api.ErrShape", laid_tessera_api_ErrShape)] }
def BaseGroupsSaid : Prop := baseGroupsRow.holds Tryd.pinned (OpenSpec.ofChange baseGroupsSpec)

/-- ITS FALSE NEIGHBOUR: 'it returns false'. Refute it at one input. -/
def baseGroupsWrong : ChangeSpec := { name := "baseGroups", fn := fun _ => fun
  | [d1, d2] => { results := [.lit (.bool false)], args := [d1, d2] }
  | _ => none }
def BaseGroupsWrongFalsely : Prop := baseGroupsRow.holds Tryd.pinned (OpenSpec.ofChange baseGroupsWrong)

/-- 'tesseralaw04.BaseSquares': WHATEVER THE INPUT: true; the input reads as it did. -/
def baseSquaresSpec : ChangeSpec := { name := "baseSquares", fn := fun _ => fun
  | [d] => { results := [.lit (.bool true)], args := [d] }
  | _ => none }
def baseSquaresRow : OpenClaim := { program := "ytokepcikpkffpaadoor", sum := "026ddad90ce3f2903ec77685623bf7ba52d3efd07e65f7ac94cf719b560011a9", func := "tessera/tesseralaw04.BaseSquares", spec := "baseSquares", unfollowed := true, recurses := true, named := ["tessera/api.ErrParams", "tessera/api.ErrShape", "tessera/api.ErrSingular", "tessera/api.ErrNumber"], apart := false, laid := [("tessera/api.ErrParams", laid_tessera_api_ErrParams), ("tessera/api.ErrShape", laid_tessera_api_ErrShape), ("tessera/api.ErrSingular", laid_tessera_api_ErrSingular), ("tessera/api.ErrNumber", laid_tessera_api_ErrNumber)] }
def BaseSquaresSaid : Prop := baseSquaresRow.holds Tryd.pinned (OpenSpec.ofChange baseSquaresSpec)

/-- ITS FALSE NEIGHBOUR: 'it returns false'. Refute it at one input. -/
def baseSquaresWrong : ChangeSpec := { name := "baseSquares", fn := fun _ => fun
  | [d] => { results := [.lit (.bool false)], args := [d] }
  | _ => none }
def BaseSquaresWrongFalsely : Prop := baseSquaresRow.holds Tryd.pinned (OpenSpec.ofChange baseSquaresWrong)

/- THE SECOND FORM. 'bulk': how many values and letters a reading holds, each counted each time it is reached (what is shared counts as often as it is met; a slice's spare places count too). A statement '..UptoSaid' is the law's where the arguments, and the package variables that the reading takes, are together of bulk at most 1048576: NARROWER than '..Said'. Prove '..Said' where nothing that the law and all that it calls make is longer than what came in: it says more and counts as full. Else prove '..UptoSaid'. A law counts once. -/
mutual
def uptoBulk {H : Type} : DataW H → Nat
  | .lit (.string bytes) => bytes.length + 1
  | .lit _ => 1
  | .nil => 1
  | .ptr d => uptoBulk d + 1
  | .slice elems spare => uptoBulkAll elems + uptoBulkAll spare + 1
  | .agg parts => uptoBulkAll parts + 1
  | .iface _ d => uptoBulk d + 1
  | .map entries => uptoBulkEntries entries + 1
  | .held _ => 1
def uptoBulkAll {H : Type} : List (DataW H) → Nat
  | [] => 0
  | d :: r => uptoBulk d + uptoBulkAll r
def uptoBulkEntries {H : Type} : List (Lit × DataW H) → Nat
  | [] => 0
  | x :: r => uptoBulkEntry x + uptoBulkEntries r
def uptoBulkEntry {H : Type} : Lit × DataW H → Nat
  | (.string bytes, d) => bytes.length + uptoBulk d + 1
  | (_, d) => uptoBulk d + 1
 end
def uptoSmall : (H : Type) → List (DataW H) → Bool := fun _ ds => decide (uptoBulkAll ds ≤ 1048576)
def OpenSpec.upto (s : _root_.Go.ChangeSpec) : _root_.Go.OpenSpec := { _root_.Go.OpenSpec.ofChange s with cond := some uptoSmall }

/-- 'tesseralaw04.BaseParams', WHERE WHAT IT READS IS OF BULK AT MOST 1048576: true; the input reads as it did. -/
def baseParamsUptoRow : OpenClaim := { program := "ytokepcikpkffpaadoor", sum := "026ddad90ce3f2903ec77685623bf7ba52d3efd07e65f7ac94cf719b560011a9", func := "tessera/tesseralaw04.BaseParams", spec := "baseParams", named := ["tessera/api.ErrParams", "tessera/api.ErrShape"], apart := false, laid := [("tessera/api.ErrParams", laid_tessera_api_ErrParams), ("tessera/api.ErrShape", laid_tessera_api_ErrShape)], narrowed := true }
def BaseParamsUptoSaid : Prop := baseParamsUptoRow.holds Tryd.pinned (OpenSpec.upto baseParamsSpec)

/-- 'tesseralaw04.BaseAll', WHERE WHAT IT READS IS OF BULK AT MOST 1048576: true; the input reads as it did. -/
def baseAllUptoRow : OpenClaim := { program := "ytokepcikpkffpaadoor", sum := "026ddad90ce3f2903ec77685623bf7ba52d3efd07e65f7ac94cf719b560011a9", func := "tessera/tesseralaw04.BaseAll", spec := "baseAll", unfollowed := true, recurses := true, named := ["tessera/api.ErrParams", "tessera/api.ErrShape"], apart := false, laid := [("tessera/api.ErrParams", laid_tessera_api_ErrParams), ("tessera/api.ErrShape", laid_tessera_api_ErrShape)], narrowed := true }
def BaseAllUptoSaid : Prop := baseAllUptoRow.holds Tryd.pinned (OpenSpec.upto baseAllSpec)

/-- 'tesseralaw04.BaseAnyRows', WHERE WHAT IT READS IS OF BULK AT MOST 1048576: true; the input reads as it did. -/
def baseAnyRowsUptoRow : OpenClaim := { program := "ytokepcikpkffpaadoor", sum := "026ddad90ce3f2903ec77685623bf7ba52d3efd07e65f7ac94cf719b560011a9", func := "tessera/tesseralaw04.BaseAnyRows", spec := "baseAnyRows", unfollowed := true, recurses := true, named := ["tessera/api.ErrParams", "tessera/api.ErrShape", "tessera/api.ErrNumber", "tessera/api.ErrSingular"], apart := false, laid := [("tessera/api.ErrParams", laid_tessera_api_ErrParams), ("tessera/api.ErrShape", laid_tessera_api_ErrShape), ("tessera/api.ErrSingular", laid_tessera_api_ErrSingular), ("tessera/api.ErrNumber", laid_tessera_api_ErrNumber)], narrowed := true }
def BaseAnyRowsUptoSaid : Prop := baseAnyRowsUptoRow.holds Tryd.pinned (OpenSpec.upto baseAnyRowsSpec)

/-- 'tesseralaw04.BaseGroups', WHERE WHAT IT READS IS OF BULK AT MOST 1048576: true; the input reads as it did. -/
def baseGroupsUptoRow : OpenClaim := { program := "ytokepcikpkffpaadoor", sum := "026ddad90ce3f2903ec77685623bf7ba52d3efd07e65f7ac94cf719b560011a9", func := "tessera/tesseralaw04.BaseGroups", spec := "baseGroups", named := ["tessera/api.ErrParams", "tessera/api.ErrShape"], apart := false, laid := [("tessera/api.ErrParams", laid_tessera_api_ErrParams), ("tessera/api.ErrShape", laid_tessera_api_ErrShape)], narrowed := true }
def BaseGroupsUptoSaid : Prop := baseGroupsUptoRow.holds Tryd.pinned (OpenSpec.upto baseGroupsSpec)

/-- 'tesseralaw04.BaseSquares', WHERE WHAT IT READS IS OF BULK AT MOST 1048576: true; the input reads as it did. -/
def baseSquaresUptoRow : OpenClaim := { program := "ytokepcikpkffpaadoor", sum := "026ddad90ce3f2903ec77685623bf7ba52d3efd07e65f7ac94cf719b560011a9", func := "tessera/tesseralaw04.BaseSquares", spec := "baseSquares", unfollowed := true, recurses := true, named := ["tessera/api.ErrParams", "tessera/api.ErrShape", "tessera/api.ErrSingular", "tessera/api.ErrNumber"], apart := false, laid := [("tessera/api.ErrParams", laid_tessera_api_ErrParams), ("tessera/api.ErrShape", laid_tessera_api_ErrShape), ("tessera/api.ErrSingular", laid_tessera_api_ErrSingular), ("tessera/api.ErrNumber", laid_tessera_api_ErrNumber)], narrowed := true }
def BaseSquaresUptoSaid : Prop := baseSquaresUptoRow.holds Tryd.pinned (OpenSpec.upto baseSquaresSpec)

end Rows
end Go.Proofs.YtokepcikpkffpaaDoor
