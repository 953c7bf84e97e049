/-
  NARROWER THAN 'FOR EVERY INPUT', by the rows' own cells (each row's printed sentence says how): SolveAgain: laid · SolveBases: laid.
  DERIVED. THE GIVEN ROWS OF THIS SEAT. 2 by the template 'for every input the law returns true; each argument reads behind the call as it read before'; 0 by the template 'total and deterministic' (their statements: YtaaanfaelmfamabDoorTotals.lean).
  GIVEN WITH THE SEED: the statements are not yours to turn. If you find one false, say at which input.
  Laid BY PROGRAM, IN A SANDBOX (cutbox-rows.mjs): the forced cells as the released guide's own fill.sh prints them over the translation 5ea8ec394bd78dce… (all of the seat's roots in one cut). By AI agents, Wed Nov 11 2026. No macro, syntax, notation, axiom, sorry.
-/
import Derived.Test.YtaaanfaelmfamabDoorChecked
import GoSem.Claim
import GoSem.ClaimJoined
import GoSem.ClaimMapViews
import Derived.JoinedTies
import Derived.KernelRfl
namespace Go.Proofs.YtaaanfaelmfamabDoor
/- THE CELL 'sum', in the pinned program and in every row, IS THE sha256 OF THE DUMP (.gsa) THAT YtaaanfaelmfamabDoorProg.lean LOADS. Nothing in Lean hashes anything: it is a label: what it is worth is what the hold of that sum in a sandbox is worth. -/
noncomputable def Tryd.pinned : Pinned := { name := "ytaaanfaelmfamabdoor", sum := "5ea8ec394bd78dcef38aae171d7335eaebfe53a682366bbb1743aa7b0fc8fbee", checked := Tryd.checked }
namespace Rows
def none {H : Type} : Left H := { results := [], args := [] }

/- WHAT THE LISTED PACKAGE-LEVEL VARIABLES READ AS WHEN THE CALL BEGINS. Each datum BY PROGRAM (the guide's laid-datum.mjs) off the statement by which the dump's own 'gosem.cut.vars' lays the variable. In a bare row this is a premise. The card (YtaaanfaelmfamabDoorCards.lean) ties it to the program's text. -/
def laid_tessera_api_ErrShape {H : Type} : DataW H := .iface "*errors.errorString" (.ptr (.agg [.lit (.string [116, 101, 115, 115, 101, 114, 97, 58, 32, 115, 104, 97, 112, 101])]))
def laid_tessera_api_ErrSingular {H : Type} : DataW H := .iface "*errors.errorString" (.ptr (.agg [.lit (.string [116, 101, 115, 115, 101, 114, 97, 58, 32, 115, 105, 110, 103, 117, 108, 97, 114])]))
def laid_tessera_api_ErrNumber {H : Type} : DataW H := .iface "*errors.errorString" (.ptr (.agg [.lit (.string [116, 101, 115, 115, 101, 114, 97, 58, 32, 110, 117, 109, 98, 101, 114])]))

/-- 'tesseralaw03.SolveAgain': WHATEVER THE INPUT: true; the input reads as it did. -/
def solveAgainSpec : ChangeSpec := { name := "solveAgain", fn := fun _ => fun
  | [d1, d2, d3] => { results := [.lit (.bool true)], args := [d1, d2, d3] }
  | _ => none }
def solveAgainRow : OpenClaim := { program := "ytaaanfaelmfamabdoor", sum := "5ea8ec394bd78dcef38aae171d7335eaebfe53a682366bbb1743aa7b0fc8fbee", func := "tessera/tesseralaw03.SolveAgain", spec := "solveAgain", unfollowed := true, recurses := true, named := ["tessera/api.ErrShape", "tessera/api.ErrNumber", "tessera/api.ErrSingular"], apart := false, laid := [("tessera/api.ErrShape", laid_tessera_api_ErrShape), ("tessera/api.ErrSingular", laid_tessera_api_ErrSingular), ("tessera/api.ErrNumber", laid_tessera_api_ErrNumber)] }
def SolveAgainSaid : Prop := solveAgainRow.holds Tryd.pinned (OpenSpec.ofChange solveAgainSpec)

/-- ITS FALSE NEIGHBOUR: 'it returns false'. Refute it at one input. -/
def solveAgainWrong : ChangeSpec := { name := "solveAgain", fn := fun _ => fun
  | [d1, d2, d3] => { results := [.lit (.bool false)], args := [d1, d2, d3] }
  | _ => none }
def SolveAgainWrongFalsely : Prop := solveAgainRow.holds Tryd.pinned (OpenSpec.ofChange solveAgainWrong)

/-- 'tesseralaw03.SolveBases': WHATEVER THE INPUT: true; the input reads as it did. -/
def solveBasesSpec : ChangeSpec := { name := "solveBases", fn := fun _ => fun
  | [d] => { results := [.lit (.bool true)], args := [d] }
  | _ => none }
def solveBasesRow : OpenClaim := { program := "ytaaanfaelmfamabdoor", sum := "5ea8ec394bd78dcef38aae171d7335eaebfe53a682366bbb1743aa7b0fc8fbee", func := "tessera/tesseralaw03.SolveBases", spec := "solveBases", unfollowed := true, recurses := true, named := ["tessera/api.ErrShape", "tessera/api.ErrNumber", "tessera/api.ErrSingular"], apart := false, laid := [("tessera/api.ErrShape", laid_tessera_api_ErrShape), ("tessera/api.ErrSingular", laid_tessera_api_ErrSingular), ("tessera/api.ErrNumber", laid_tessera_api_ErrNumber)] }
def SolveBasesSaid : Prop := solveBasesRow.holds Tryd.pinned (OpenSpec.ofChange solveBasesSpec)

/-- ITS FALSE NEIGHBOUR: 'it returns false'. Refute it at one input. -/
def solveBasesWrong : ChangeSpec := { name := "solveBases", fn := fun _ => fun
  | [d] => { results := [.lit (.bool false)], args := [d] }
  | _ => none }
def SolveBasesWrongFalsely : Prop := solveBasesRow.holds Tryd.pinned (OpenSpec.ofChange solveBasesWrong)

/- THE SECOND FORM. 'bulk': how many values and letters a reading holds, each counted each time it is reached (what is shared counts as often as it is met; a slice's spare places count too). A statement '..UptoSaid' is the law's where the arguments, and the package variables that the reading takes, are together of bulk at most 1048576: NARROWER than '..Said'. Prove '..Said' where nothing that the law and all that it calls make is longer than what came in: it says more and counts as full. Else prove '..UptoSaid'. A law counts once. -/
mutual
def uptoBulk {H : Type} : DataW H → Nat
  | .lit (.string bytes) => bytes.length + 1
  | .lit _ => 1
  | .nil => 1
  | .ptr d => uptoBulk d + 1
  | .slice elems spare => uptoBulkAll elems + uptoBulkAll spare + 1
  | .agg parts => uptoBulkAll parts + 1
  | .iface _ d => uptoBulk d + 1
  | .map entries => uptoBulkEntries entries + 1
  | .held _ => 1
def uptoBulkAll {H : Type} : List (DataW H) → Nat
  | [] => 0
  | d :: r => uptoBulk d + uptoBulkAll r
def uptoBulkEntries {H : Type} : List (Lit × DataW H) → Nat
  | [] => 0
  | x :: r => uptoBulkEntry x + uptoBulkEntries r
def uptoBulkEntry {H : Type} : Lit × DataW H → Nat
  | (.string bytes, d) => bytes.length + uptoBulk d + 1
  | (_, d) => uptoBulk d + 1
 end
def uptoSmall : (H : Type) → List (DataW H) → Bool := fun _ ds => decide (uptoBulkAll ds ≤ 1048576)
def OpenSpec.upto (s : _root_.Go.ChangeSpec) : _root_.Go.OpenSpec := { _root_.Go.OpenSpec.ofChange s with cond := some uptoSmall }

/-- 'tesseralaw03.SolveAgain', WHERE WHAT IT READS IS OF BULK AT MOST 1048576: true; the input reads as it did. -/
def solveAgainUptoRow : OpenClaim := { program := "ytaaanfaelmfamabdoor", sum := "5ea8ec394bd78dcef38aae171d7335eaebfe53a682366bbb1743aa7b0fc8fbee", func := "tessera/tesseralaw03.SolveAgain", spec := "solveAgain", unfollowed := true, recurses := true, named := ["tessera/api.ErrShape", "tessera/api.ErrNumber", "tessera/api.ErrSingular"], apart := false, laid := [("tessera/api.ErrShape", laid_tessera_api_ErrShape), ("tessera/api.ErrSingular", laid_tessera_api_ErrSingular), ("tessera/api.ErrNumber", laid_tessera_api_ErrNumber)], narrowed := true }
def SolveAgainUptoSaid : Prop := solveAgainUptoRow.holds Tryd.pinned (OpenSpec.upto solveAgainSpec)

/-- 'tesseralaw03.SolveBases', WHERE WHAT IT READS IS OF BULK AT MOST 1048576: true; the input reads as it did. -/
def solveBasesUptoRow : OpenClaim := { program := "ytaaanfaelmfamabdoor", sum := "5ea8ec394bd78dcef38aae171d7335eaebfe53a682366bbb1743aa7b0fc8fbee", func := "tessera/tesseralaw03.SolveBases", spec := "solveBases", unfollowed := true, recurses := true, named := ["tessera/api.ErrShape", "tessera/api.ErrNumber", "tessera/api.ErrSingular"], apart := false, laid := [("tessera/api.ErrShape", laid_tessera_api_ErrShape), ("tessera/api.ErrSingular", laid_tessera_api_ErrSingular), ("tessera/api.ErrNumber", laid_tessera_api_ErrNumber)], narrowed := true }
def SolveBasesUptoSaid : Prop := solveBasesUptoRow.holds Tryd.pinned (OpenSpec.upto solveBasesSpec)

end Rows
end Go.Proofs.YtaaanfaelmfamabDoor
