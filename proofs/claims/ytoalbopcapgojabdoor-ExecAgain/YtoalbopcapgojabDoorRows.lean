/-
  NARROWER THAN 'FOR EVERY INPUT', by the rows' own cells (each row's printed sentence says how): ExecMeans: laid · ExecLinear: laid · ExecAgain: laid.
  DERIVED. THE GIVEN ROWS OF THIS SEAT. 3 by the template 'for every input the law returns true; each argument reads behind the call as it read before'; 0 by the template 'total and deterministic' (their statements: YtoalbopcapgojabDoorTotals.lean).
  GIVEN WITH THE SEED: the statements are not yours to turn. If you find one false, say at which input.
  Laid BY PROGRAM, IN A SANDBOX (cutbox-rows.mjs): the forced cells as the released guide's own fill.sh prints them over the translation e066892c6c100e46… (all of the seat's roots in one cut). By AI agents, Wed Nov 11 2026. No macro, syntax, notation, axiom, sorry.
-/
import Derived.Test.YtoalbopcapgojabDoorChecked
import GoSem.Claim
import GoSem.ClaimJoined
import GoSem.ClaimMapViews
import Derived.JoinedTies
import Derived.KernelRfl
namespace Go.Proofs.YtoalbopcapgojabDoor
/- THE CELL 'sum', in the pinned program and in every row, IS THE sha256 OF THE DUMP (.gsa) THAT YtoalbopcapgojabDoorProg.lean LOADS. Nothing in Lean hashes anything: it is a label: what it is worth is what the hold of that sum in a sandbox is worth. -/
noncomputable def Tryd.pinned : Pinned := { name := "ytoalbopcapgojabdoor", sum := "e066892c6c100e46d2663b684b7e0a7f6415d4e3952b46ca91844e802fe85638", checked := Tryd.checked }
namespace Rows
def none {H : Type} : Left H := { results := [], args := [] }

/- WHAT THE LISTED PACKAGE-LEVEL VARIABLES READ AS WHEN THE CALL BEGINS. Each datum BY PROGRAM (the guide's laid-datum.mjs) off the statement by which the dump's own 'gosem.cut.vars' lays the variable. In a bare row this is a premise. The card (YtoalbopcapgojabDoorCards.lean) ties it to the program's text. -/
def laid_tessera_api_ErrHalf {H : Type} : DataW H := .iface "*errors.errorString" (.ptr (.agg [.lit (.string [116, 101, 115, 115, 101, 114, 97, 58, 32, 104, 97, 108, 102])]))
def laid_tessera_api_ErrData {H : Type} : DataW H := .iface "*errors.errorString" (.ptr (.agg [.lit (.string [116, 101, 115, 115, 101, 114, 97, 58, 32, 100, 97, 116, 97])]))
def laid_tessera_api_ErrProgram {H : Type} : DataW H := .iface "*errors.errorString" (.ptr (.agg [.lit (.string [116, 101, 115, 115, 101, 114, 97, 58, 32, 112, 114, 111, 103, 114, 97, 109])]))
def laid_tessera_api_ErrThere {H : Type} : DataW H := .iface "*errors.errorString" (.ptr (.agg [.lit (.string [116, 101, 115, 115, 101, 114, 97, 58, 32, 116, 104, 101, 114, 101])]))
def laid_tessera_api_ErrEmpty {H : Type} : DataW H := .iface "*errors.errorString" (.ptr (.agg [.lit (.string [116, 101, 115, 115, 101, 114, 97, 58, 32, 101, 109, 112, 116, 121])]))
def laid_tessera_api_ErrNumber {H : Type} : DataW H := .iface "*errors.errorString" (.ptr (.agg [.lit (.string [116, 101, 115, 115, 101, 114, 97, 58, 32, 110, 117, 109, 98, 101, 114])]))

/-- 'tesseralaw10.ExecMeans': WHATEVER THE INPUT: true; the input reads as it did. -/
def execMeansSpec : ChangeSpec := { name := "execMeans", fn := fun _ => fun
  | [d1, d2, d3] => { results := [.lit (.bool true)], args := [d1, d2, d3] }
  | _ => none }
def execMeansRow : OpenClaim := { program := "ytoalbopcapgojabdoor", sum := "e066892c6c100e46d2663b684b7e0a7f6415d4e3952b46ca91844e802fe85638", func := "tessera/tesseralaw10.ExecMeans", spec := "execMeans", unfollowed := true, recurses := true, named := ["tessera/api.ErrNumber", "tessera/api.ErrProgram", "tessera/api.ErrData", "tessera/api.ErrHalf", "tessera/api.ErrThere", "tessera/api.ErrEmpty"], apart := false, laid := [("tessera/api.ErrHalf", laid_tessera_api_ErrHalf), ("tessera/api.ErrData", laid_tessera_api_ErrData), ("tessera/api.ErrProgram", laid_tessera_api_ErrProgram), ("tessera/api.ErrThere", laid_tessera_api_ErrThere), ("tessera/api.ErrEmpty", laid_tessera_api_ErrEmpty), ("tessera/api.ErrNumber", laid_tessera_api_ErrNumber)] }
def ExecMeansSaid : Prop := execMeansRow.holds Tryd.pinned (OpenSpec.ofChange execMeansSpec)

/-- ITS FALSE NEIGHBOUR: 'it returns false'. Refute it at one input. -/
def execMeansWrong : ChangeSpec := { name := "execMeans", fn := fun _ => fun
  | [d1, d2, d3] => { results := [.lit (.bool false)], args := [d1, d2, d3] }
  | _ => none }
def ExecMeansWrongFalsely : Prop := execMeansRow.holds Tryd.pinned (OpenSpec.ofChange execMeansWrong)

/-- 'tesseralaw10.ExecLinear': WHATEVER THE INPUT: true; the input reads as it did. -/
def execLinearSpec : ChangeSpec := { name := "execLinear", fn := fun _ => fun
  | [d1, d2, d3] => { results := [.lit (.bool true)], args := [d1, d2, d3] }
  | _ => none }
def execLinearRow : OpenClaim := { program := "ytoalbopcapgojabdoor", sum := "e066892c6c100e46d2663b684b7e0a7f6415d4e3952b46ca91844e802fe85638", func := "tessera/tesseralaw10.ExecLinear", spec := "execLinear", unfollowed := true, recurses := true, named := ["tessera/api.ErrNumber", "tessera/api.ErrProgram", "tessera/api.ErrData", "tessera/api.ErrHalf", "tessera/api.ErrThere", "tessera/api.ErrEmpty"], apart := false, laid := [("tessera/api.ErrHalf", laid_tessera_api_ErrHalf), ("tessera/api.ErrData", laid_tessera_api_ErrData), ("tessera/api.ErrProgram", laid_tessera_api_ErrProgram), ("tessera/api.ErrThere", laid_tessera_api_ErrThere), ("tessera/api.ErrEmpty", laid_tessera_api_ErrEmpty), ("tessera/api.ErrNumber", laid_tessera_api_ErrNumber)] }
def ExecLinearSaid : Prop := execLinearRow.holds Tryd.pinned (OpenSpec.ofChange execLinearSpec)

/-- ITS FALSE NEIGHBOUR: 'it returns false'. Refute it at one input. -/
def execLinearWrong : ChangeSpec := { name := "execLinear", fn := fun _ => fun
  | [d1, d2, d3] => { results := [.lit (.bool false)], args := [d1, d2, d3] }
  | _ => none }
def ExecLinearWrongFalsely : Prop := execLinearRow.holds Tryd.pinned (OpenSpec.ofChange execLinearWrong)

/-- 'tesseralaw10.ExecAgain': WHATEVER THE INPUT: true; the input reads as it did. -/
def execAgainSpec : ChangeSpec := { name := "execAgain", fn := fun _ => fun
  | [d1, d2] => { results := [.lit (.bool true)], args := [d1, d2] }
  | _ => none }
def execAgainRow : OpenClaim := { program := "ytoalbopcapgojabdoor", sum := "e066892c6c100e46d2663b684b7e0a7f6415d4e3952b46ca91844e802fe85638", func := "tessera/tesseralaw10.ExecAgain", spec := "execAgain", unfollowed := true, recurses := true, named := ["tessera/api.ErrNumber", "tessera/api.ErrProgram", "tessera/api.ErrData", "tessera/api.ErrHalf", "tessera/api.ErrThere", "tessera/api.ErrEmpty"], apart := false, laid := [("tessera/api.ErrHalf", laid_tessera_api_ErrHalf), ("tessera/api.ErrData", laid_tessera_api_ErrData), ("tessera/api.ErrProgram", laid_tessera_api_ErrProgram), ("tessera/api.ErrThere", laid_tessera_api_ErrThere), ("tessera/api.ErrEmpty", laid_tessera_api_ErrEmpty), ("tessera/api.ErrNumber", laid_tessera_api_ErrNumber)] }
def ExecAgainSaid : Prop := execAgainRow.holds Tryd.pinned (OpenSpec.ofChange execAgainSpec)

/-- ITS FALSE NEIGHBOUR: 'it returns false'. Refute it at one input. -/
def execAgainWrong : ChangeSpec := { name := "execAgain", fn := fun _ => fun
  | [d1, d2] => { results := [.lit (.bool false)], args := [d1, d2] }
  | _ => none }
def ExecAgainWrongFalsely : Prop := execAgainRow.holds Tryd.pinned (OpenSpec.ofChange execAgainWrong)

/- THE SECOND FORM. 'bulk': how many values and letters a reading holds, each counted each time it is reached (what is shared counts as often as it is met; a slice's spare places count too). A statement '..UptoSaid' is the law's where the arguments, and the package variables that the reading takes, are together of bulk at most 1048576: NARROWER than '..Said'. Prove '..Said' where nothing that the law and all that it calls make is longer than what came in: it says more and counts as full. Else prove '..UptoSaid'. A law counts once. -/
mutual
def uptoBulk {H : Type} : DataW H → Nat
  | .lit (.string bytes) => bytes.length + 1
  | .lit _ => 1
  | .nil => 1
  | .ptr d => uptoBulk d + 1
  | .slice elems spare => uptoBulkAll elems + uptoBulkAll spare + 1
  | .agg parts => uptoBulkAll parts + 1
  | .iface _ d => uptoBulk d + 1
  | .map entries => uptoBulkEntries entries + 1
  | .held _ => 1
def uptoBulkAll {H : Type} : List (DataW H) → Nat
  | [] => 0
  | d :: r => uptoBulk d + uptoBulkAll r
def uptoBulkEntries {H : Type} : List (Lit × DataW H) → Nat
  | [] => 0
  | x :: r => uptoBulkEntry x + uptoBulkEntries r
def uptoBulkEntry {H : Type} : Lit × DataW H → Nat
  | (.string bytes, d) => bytes.length + uptoBulk d + 1
  | (_, d) => uptoBulk d + 1
 end
def uptoSmall : (H : Type) → List (DataW H) → Bool := fun _ ds => decide (uptoBulkAll ds ≤ 1048576)
def OpenSpec.upto (s : _root_.Go.ChangeSpec) : _root_.Go.OpenSpec := { _root_.Go.OpenSpec.ofChange s with cond := some uptoSmall }

/-- 'tesseralaw10.ExecMeans', WHERE WHAT IT READS IS OF BULK AT MOST 1048576: true; the input reads as it did. -/
def execMeansUptoRow : OpenClaim := { program := "ytoalbopcapgojabdoor", sum := "e066892c6c100e46d2663b684b7e0a7f6415d4e3952b46ca91844e802fe85638", func := "tessera/tesseralaw10.ExecMeans", spec := "execMeans", unfollowed := true, recurses := true, named := ["tessera/api.ErrNumber", "tessera/api.ErrProgram", "tessera/api.ErrData", "tessera/api.ErrHalf", "tessera/api.ErrThere", "tessera/api.ErrEmpty"], apart := false, laid := [("tessera/api.ErrHalf", laid_tessera_api_ErrHalf), ("tessera/api.ErrData", laid_tessera_api_ErrData), ("tessera/api.ErrProgram", laid_tessera_api_ErrProgram), ("tessera/api.ErrThere", laid_tessera_api_ErrThere), ("tessera/api.ErrEmpty", laid_tessera_api_ErrEmpty), ("tessera/api.ErrNumber", laid_tessera_api_ErrNumber)], narrowed := true }
def ExecMeansUptoSaid : Prop := execMeansUptoRow.holds Tryd.pinned (OpenSpec.upto execMeansSpec)

/-- 'tesseralaw10.ExecLinear', WHERE WHAT IT READS IS OF BULK AT MOST 1048576: true; the input reads as it did. -/
def execLinearUptoRow : OpenClaim := { program := "ytoalbopcapgojabdoor", sum := "e066892c6c100e46d2663b684b7e0a7f6415d4e3952b46ca91844e802fe85638", func := "tessera/tesseralaw10.ExecLinear", spec := "execLinear", unfollowed := true, recurses := true, named := ["tessera/api.ErrNumber", "tessera/api.ErrProgram", "tessera/api.ErrData", "tessera/api.ErrHalf", "tessera/api.ErrThere", "tessera/api.ErrEmpty"], apart := false, laid := [("tessera/api.ErrHalf", laid_tessera_api_ErrHalf), ("tessera/api.ErrData", laid_tessera_api_ErrData), ("tessera/api.ErrProgram", laid_tessera_api_ErrProgram), ("tessera/api.ErrThere", laid_tessera_api_ErrThere), ("tessera/api.ErrEmpty", laid_tessera_api_ErrEmpty), ("tessera/api.ErrNumber", laid_tessera_api_ErrNumber)], narrowed := true }
def ExecLinearUptoSaid : Prop := execLinearUptoRow.holds Tryd.pinned (OpenSpec.upto execLinearSpec)

/-- 'tesseralaw10.ExecAgain', WHERE WHAT IT READS IS OF BULK AT MOST 1048576: true; the input reads as it did. -/
def execAgainUptoRow : OpenClaim := { program := "ytoalbopcapgojabdoor", sum := "e066892c6c100e46d2663b684b7e0a7f6415d4e3952b46ca91844e802fe85638", func := "tessera/tesseralaw10.ExecAgain", spec := "execAgain", unfollowed := true, recurses := true, named := ["tessera/api.ErrNumber", "tessera/api.ErrProgram", "tessera/api.ErrData", "tessera/api.ErrHalf", "tessera/api.ErrThere", "tessera/api.ErrEmpty"], apart := false, laid := [("tessera/api.ErrHalf", laid_tessera_api_ErrHalf), ("tessera/api.ErrData", laid_tessera_api_ErrData), ("tessera/api.ErrProgram", laid_tessera_api_ErrProgram), ("tessera/api.ErrThere", laid_tessera_api_ErrThere), ("tessera/api.ErrEmpty", laid_tessera_api_ErrEmpty), ("tessera/api.ErrNumber", laid_tessera_api_ErrNumber)], narrowed := true }
def ExecAgainUptoSaid : Prop := execAgainUptoRow.holds Tryd.pinned (OpenSpec.upto execAgainSpec)

end Rows
end Go.Proofs.YtoalbopcapgojabDoor
