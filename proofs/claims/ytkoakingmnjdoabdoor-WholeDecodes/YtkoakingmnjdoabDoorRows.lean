/-
  NARROWER THAN 'FOR EVERY INPUT', by the rows' own cells (each row's printed sentence says how): WholeDecodes: laid.
  DERIVED. THE GIVEN ROWS OF THIS SEAT. 1 by the template 'for every input the law returns true; each argument reads behind the call as it read before'; 0 by the template 'total and deterministic' (their statements: YtkoakingmnjdoabDoorTotals.lean).
  GIVEN WITH THE SEED: the statements are not yours to turn. If you find one false, say at which input.
  Laid BY PROGRAM, IN A SANDBOX (cutbox-rows.mjs): the forced cells as the released guide's own fill.sh prints them over the translation d5bd4460d4163fcf… (all of the seat's roots in one cut). By AI agents, Wed Nov 11 2026. No macro, syntax, notation, axiom, sorry.
-/
import Derived.Test.YtkoakingmnjdoabDoorChecked
import GoSem.Claim
import GoSem.ClaimJoined
import GoSem.ClaimMapViews
import Derived.JoinedTies
import Derived.KernelRfl
namespace Go.Proofs.YtkoakingmnjdoabDoor
/- THE CELL 'sum', in the pinned program and in every row, IS THE sha256 OF THE DUMP (.gsa) THAT YtkoakingmnjdoabDoorProg.lean LOADS. Nothing in Lean hashes anything: it is a label: what it is worth is what the hold of that sum in a sandbox is worth. -/
noncomputable def Tryd.pinned : Pinned := { name := "ytkoakingmnjdoabdoor", sum := "d5bd4460d4163fcf4a03a11e8fe05d3b069fa40b06352750e0f8f62fdfc40b38", checked := Tryd.checked }
namespace Rows
def none {H : Type} : Left H := { results := [], args := [] }

/- WHAT THE LISTED PACKAGE-LEVEL VARIABLES READ AS WHEN THE CALL BEGINS. Each datum BY PROGRAM (the guide's laid-datum.mjs) off the statement by which the dump's own 'gosem.cut.vars' lays the variable. In a bare row this is a premise. The card (YtkoakingmnjdoabDoorCards.lean) ties it to the program's text. -/
def laid_tessera_api_ErrParams {H : Type} : DataW H := .iface "*errors.errorString" (.ptr (.agg [.lit (.string [116, 101, 115, 115, 101, 114, 97, 58, 32, 112, 97, 114, 97, 109, 115])]))
def laid_tessera_api_ErrShape {H : Type} : DataW H := .iface "*errors.errorString" (.ptr (.agg [.lit (.string [116, 101, 115, 115, 101, 114, 97, 58, 32, 115, 104, 97, 112, 101])]))
def laid_tessera_api_ErrSingular {H : Type} : DataW H := .iface "*errors.errorString" (.ptr (.agg [.lit (.string [116, 101, 115, 115, 101, 114, 97, 58, 32, 115, 105, 110, 103, 117, 108, 97, 114])]))
def laid_tessera_api_ErrHalf {H : Type} : DataW H := .iface "*errors.errorString" (.ptr (.agg [.lit (.string [116, 101, 115, 115, 101, 114, 97, 58, 32, 104, 97, 108, 102])]))
def laid_tessera_api_ErrData {H : Type} : DataW H := .iface "*errors.errorString" (.ptr (.agg [.lit (.string [116, 101, 115, 115, 101, 114, 97, 58, 32, 100, 97, 116, 97])]))
def laid_tessera_api_ErrNumber {H : Type} : DataW H := .iface "*errors.errorString" (.ptr (.agg [.lit (.string [116, 101, 115, 115, 101, 114, 97, 58, 32, 110, 117, 109, 98, 101, 114])]))
def laid_tessera_api_ErrLarge {H : Type} : DataW H := .iface "*errors.errorString" (.ptr (.agg [.lit (.string [116, 101, 115, 115, 101, 114, 97, 58, 32, 108, 97, 114, 103, 101])]))

/-- 'tesseratop.WholeDecodes': WHATEVER THE INPUT: true; the input reads as it did. -/
def wholeDecodesSpec : ChangeSpec := { name := "wholeDecodes", fn := fun _ => fun
  | [d] => { results := [.lit (.bool true)], args := [d] }
  | _ => none }
def wholeDecodesRow : OpenClaim := { program := "ytkoakingmnjdoabdoor", sum := "d5bd4460d4163fcf4a03a11e8fe05d3b069fa40b06352750e0f8f62fdfc40b38", func := "tessera/tesseratop.WholeDecodes", spec := "wholeDecodes", unfollowed := true, recurses := true, named := ["tessera/api.ErrParams", "tessera/api.ErrShape", "tessera/api.ErrNumber", "tessera/api.ErrLarge", "tessera/api.ErrData", "tessera/api.ErrHalf", "tessera/api.ErrSingular"], apart := false, laid := [("tessera/api.ErrParams", laid_tessera_api_ErrParams), ("tessera/api.ErrShape", laid_tessera_api_ErrShape), ("tessera/api.ErrSingular", laid_tessera_api_ErrSingular), ("tessera/api.ErrHalf", laid_tessera_api_ErrHalf), ("tessera/api.ErrData", laid_tessera_api_ErrData), ("tessera/api.ErrNumber", laid_tessera_api_ErrNumber), ("tessera/api.ErrLarge", laid_tessera_api_ErrLarge)] }
def WholeDecodesSaid : Prop := wholeDecodesRow.holds Tryd.pinned (OpenSpec.ofChange wholeDecodesSpec)

/-- ITS FALSE NEIGHBOUR: 'it returns false'. Refute it at one input. -/
def wholeDecodesWrong : ChangeSpec := { name := "wholeDecodes", fn := fun _ => fun
  | [d] => { results := [.lit (.bool false)], args := [d] }
  | _ => none }
def WholeDecodesWrongFalsely : Prop := wholeDecodesRow.holds Tryd.pinned (OpenSpec.ofChange wholeDecodesWrong)

/- THE SECOND FORM. 'bulk': how many values and letters a reading holds, each counted each time it is reached (what is shared counts as often as it is met; a slice's spare places count too). A statement '..UptoSaid' is the law's where the arguments, and the package variables that the reading takes, are together of bulk at most 1048576: NARROWER than '..Said'. Prove '..Said' where nothing that the law and all that it calls make is longer than what came in: it says more and counts as full. Else prove '..UptoSaid'. A law counts once. -/
mutual
def uptoBulk {H : Type} : DataW H → Nat
  | .lit (.string bytes) => bytes.length + 1
  | .lit _ => 1
  | .nil => 1
  | .ptr d => uptoBulk d + 1
  | .slice elems spare => uptoBulkAll elems + uptoBulkAll spare + 1
  | .agg parts => uptoBulkAll parts + 1
  | .iface _ d => uptoBulk d + 1
  | .map entries => uptoBulkEntries entries + 1
  | .held _ => 1
def uptoBulkAll {H : Type} : List (DataW H) → Nat
  | [] => 0
  | d :: r => uptoBulk d + uptoBulkAll r
def uptoBulkEntries {H : Type} : List (Lit × DataW H) → Nat
  | [] => 0
  | x :: r => uptoBulkEntry x + uptoBulkEntries r
def uptoBulkEntry {H : Type} : Lit × DataW H → Nat
  | (.string bytes, d) => bytes.length + uptoBulk d + 1
  | (_, d) => uptoBulk d + 1
 end
def uptoSmall : (H : Type) → List (DataW H) → Bool := fun _ ds => decide (uptoBulkAll ds ≤ 1048576)
def OpenSpec.upto (s : _root_.Go.ChangeSpec) : _root_.Go.OpenSpec := { _root_.Go.OpenSpec.ofChange s with cond := some uptoSmall }

/-- 'tesseratop.WholeDecodes', WHERE WHAT IT READS IS OF BULK AT MOST 1048576: true; the input reads as it did. -/
def wholeDecodesUptoRow : OpenClaim := { program := "ytkoakingmnjdoabdoor", sum := "d5bd4460d4163fcf4a03a11e8fe05d3b069fa40b06352750e0f8f62fdfc40b38", func := "tessera/tesseratop.WholeDecodes", spec := "wholeDecodes", unfollowed := true, recurses := true, named := ["tessera/api.ErrParams", "tessera/api.ErrShape", "tessera/api.ErrNumber", "tessera/api.ErrLarge", "tessera/api.ErrData", "tessera/api.ErrHalf", "tessera/api.ErrSingular"], apart := false, laid := [("tessera/api.ErrParams", laid_tessera_api_ErrParams), ("tessera/api.ErrShape", laid_tessera_api_ErrShape), ("tessera/api.ErrSingular", laid_tessera_api_ErrSingular), ("tessera/api.ErrHalf", laid_tessera_api_ErrHalf), ("tessera/api.ErrData", laid_tessera_api_ErrData), ("tessera/api.ErrNumber", laid_tessera_api_ErrNumber), ("tessera/api.ErrLarge", laid_tessera_api_ErrLarge)], narrowed := true }
def WholeDecodesUptoSaid : Prop := wholeDecodesUptoRow.holds Tryd.pinned (OpenSpec.upto wholeDecodesSpec)

end Rows
end Go.Proofs.YtkoakingmnjdoabDoor
