/-
  NARROWER THAN 'FOR EVERY INPUT', by the rows' own cells (each row's printed sentence says how): PlanFors: laid · PlanCheap: laid · PlanRuns: laid · PlanLost: laid · PlanSome: laid · PlanEach: laid.
  DERIVED. THE GIVEN ROWS OF THIS SEAT. 6 by the template 'for every input the law returns true; each argument reads behind the call as it read before'; 0 by the template 'total and deterministic' (their statements: YtkoakingmnjdoaaGreatDoorTotals.lean).
  GIVEN WITH THE SEED: the statements are not yours to turn. If you find one false, say at which input.
  Laid BY PROGRAM, IN A SANDBOX (cutbox-rows.mjs): the forced cells as the released guide's own fill.sh prints them over the translation 410acd944011b81a… (all of the seat's roots in one cut). By AI agents, Wed Nov 11 2026. No macro, syntax, notation, axiom, sorry.
-/
import Derived.Test.YtkoakingmnjdoaaGreatDoorChecked
import GoSem.Claim
import GoSem.ClaimJoined
import GoSem.ClaimMapViews
import Derived.JoinedTies
import Derived.KernelRfl
namespace Go.Proofs.YtkoakingmnjdoaaGreatDoor
/- THE CELL 'sum', in the pinned program and in every row, IS THE sha256 OF THE DUMP (.gsa) THAT YtkoakingmnjdoaaGreatDoorProg.lean LOADS. Nothing in Lean hashes anything: it is a label: what it is worth is what the hold of that sum in a sandbox is worth. -/
noncomputable def Tryz.pinned : Pinned := { name := "ytkoakingmnjdoaagreatdoor", sum := "410acd944011b81ae432af7efa06731f2579a57cb73e456a9bd521057d6c6fb7", checked := Tryz.checked }
namespace Rows
def none {H : Type} : Left H := { results := [], args := [] }

/- WHAT THE LISTED PACKAGE-LEVEL VARIABLES READ AS WHEN THE CALL BEGINS. Each datum BY PROGRAM (the guide's laid-datum.mjs) off the statement by which the dump's own 'gosem.cut.vars' lays the variable. In a bare row this is a premise. The card (YtkoakingmnjdoaaGreatDoorCards.lean) ties it to the program's text. -/
def laid_tessera_api_ErrParams {H : Type} : DataW H := .iface "*errors.errorString" (.ptr (.agg [.lit (.string [116, 101, 115, 115, 101, 114, 97, 58, 32, 112, 97, 114, 97, 109, 115])]))
def laid_tessera_api_ErrShape {H : Type} : DataW H := .iface "*errors.errorString" (.ptr (.agg [.lit (.string [116, 101, 115, 115, 101, 114, 97, 58, 32, 115, 104, 97, 112, 101])]))
def laid_tessera_api_ErrHalf {H : Type} : DataW H := .iface "*errors.errorString" (.ptr (.agg [.lit (.string [116, 101, 115, 115, 101, 114, 97, 58, 32, 104, 97, 108, 102])]))
def laid_tessera_api_ErrLost {H : Type} : DataW H := .iface "*errors.errorString" (.ptr (.agg [.lit (.string [116, 101, 115, 115, 101, 114, 97, 58, 32, 108, 111, 115, 116])]))
def laid_tessera_api_ErrNumber {H : Type} : DataW H := .iface "*errors.errorString" (.ptr (.agg [.lit (.string [116, 101, 115, 115, 101, 114, 97, 58, 32, 110, 117, 109, 98, 101, 114])]))
def laid_tessera_api_ErrSingular {H : Type} : DataW H := .iface "*errors.errorString" (.ptr (.agg [.lit (.string [116, 101, 115, 115, 101, 114, 97, 58, 32, 115, 105, 110, 103, 117, 108, 97, 114])]))
def laid_tessera_api_ErrData {H : Type} : DataW H := .iface "*errors.errorString" (.ptr (.agg [.lit (.string [116, 101, 115, 115, 101, 114, 97, 58, 32, 100, 97, 116, 97])]))
def laid_tessera_api_ErrProgram {H : Type} : DataW H := .iface "*errors.errorString" (.ptr (.agg [.lit (.string [116, 101, 115, 115, 101, 114, 97, 58, 32, 112, 114, 111, 103, 114, 97, 109])]))
def laid_tessera_api_ErrThere {H : Type} : DataW H := .iface "*errors.errorString" (.ptr (.agg [.lit (.string [116, 101, 115, 115, 101, 114, 97, 58, 32, 116, 104, 101, 114, 101])]))
def laid_tessera_api_ErrEmpty {H : Type} : DataW H := .iface "*errors.errorString" (.ptr (.agg [.lit (.string [116, 101, 115, 115, 101, 114, 97, 58, 32, 101, 109, 112, 116, 121])]))
def laid_tessera_api_ErrBytes {H : Type} : DataW H := .iface "*errors.errorString" (.ptr (.agg [.lit (.string [116, 101, 115, 115, 101, 114, 97, 58, 32, 98, 121, 116, 101, 115])]))
def laid_tessera_api_ErrSum {H : Type} : DataW H := .iface "*errors.errorString" (.ptr (.agg [.lit (.string [116, 101, 115, 115, 101, 114, 97, 58, 32, 115, 117, 109])]))
def laid_tessera_api_ErrDrive {H : Type} : DataW H := .iface "*errors.errorString" (.ptr (.agg [.lit (.string [116, 101, 115, 115, 101, 114, 97, 58, 32, 100, 114, 105, 118, 101])]))
def laid_tessera_api_ErrSlot {H : Type} : DataW H := .iface "*errors.errorString" (.ptr (.agg [.lit (.string [116, 101, 115, 115, 101, 114, 97, 58, 32, 115, 108, 111, 116])]))
def laid_tessera_api_ErrMedia {H : Type} : DataW H := .iface "*errors.errorString" (.ptr (.agg [.lit (.string [116, 101, 115, 115, 101, 114, 97, 58, 32, 109, 101, 100, 105, 97])]))
def laid_tessera_api_ErrDown {H : Type} : DataW H := .iface "*errors.errorString" (.ptr (.agg [.lit (.string [116, 101, 115, 115, 101, 114, 97, 58, 32, 100, 111, 119, 110])]))
def laid_tessera_api_ErrFull {H : Type} : DataW H := .iface "*errors.errorString" (.ptr (.agg [.lit (.string [116, 101, 115, 115, 101, 114, 97, 58, 32, 102, 117, 108, 108])]))
def laid_tessera_api_ErrName {H : Type} : DataW H := .iface "*errors.errorString" (.ptr (.agg [.lit (.string [116, 101, 115, 115, 101, 114, 97, 58, 32, 110, 97, 109, 101])]))
def laid_tessera_api_ErrGone {H : Type} : DataW H := .iface "*errors.errorString" (.ptr (.agg [.lit (.string [116, 101, 115, 115, 101, 114, 97, 58, 32, 103, 111, 110, 101])]))
def laid_tessera_api_ErrLarge {H : Type} : DataW H := .iface "*errors.errorString" (.ptr (.agg [.lit (.string [116, 101, 115, 115, 101, 114, 97, 58, 32, 108, 97, 114, 103, 101])]))
def laid_tessera_api_ErrBlank {H : Type} : DataW H := .iface "*errors.errorString" (.ptr (.agg [.lit (.string [116, 101, 115, 115, 101, 114, 97, 58, 32, 98, 108, 97, 110, 107])]))
def laid_tessera_api_ErrCatalog {H : Type} : DataW H := .iface "*errors.errorString" (.ptr (.agg [.lit (.string [116, 101, 115, 115, 101, 114, 97, 58, 32, 99, 97, 116, 97, 108, 111, 103])]))
def laid_tessera_api_ErrCommand {H : Type} : DataW H := .iface "*errors.errorString" (.ptr (.agg [.lit (.string [116, 101, 115, 115, 101, 114, 97, 58, 32, 99, 111, 109, 109, 97, 110, 100])]))
def laid_tessera_api_ErrWorn {H : Type} : DataW H := .iface "*errors.errorString" (.ptr (.agg [.lit (.string [116, 101, 115, 115, 101, 114, 97, 58, 32, 119, 111, 114, 110])]))
def laid_tessera_api_ErrMany {H : Type} : DataW H := .iface "*errors.errorString" (.ptr (.agg [.lit (.string [116, 101, 115, 115, 101, 114, 97, 58, 32, 109, 97, 110, 121])]))

/-- 'tesseralaw11.PlanFors': WHATEVER THE INPUT: true; the input reads as it did. -/
def planForsSpec : ChangeSpec := { name := "planFors", fn := fun _ => fun
  | [d] => { results := [.lit (.bool true)], args := [d] }
  | _ => none }
def planForsRow : OpenClaim := { program := "ytkoakingmnjdoaagreatdoor", sum := "410acd944011b81ae432af7efa06731f2579a57cb73e456a9bd521057d6c6fb7", func := "tessera/tesseralaw11.PlanFors", spec := "planFors", unfollowed := true, recurses := true, named := ["tessera/api.ErrParams", "tessera/api.ErrHalf", "tessera/api.ErrLost", "tessera/api.ErrNumber", "tessera/api.ErrShape"], apart := false, laid := [("tessera/api.ErrParams", laid_tessera_api_ErrParams), ("tessera/api.ErrShape", laid_tessera_api_ErrShape), ("tessera/api.ErrHalf", laid_tessera_api_ErrHalf), ("tessera/api.ErrLost", laid_tessera_api_ErrLost), ("tessera/api.ErrNumber", laid_tessera_api_ErrNumber)] }
def PlanForsSaid : Prop := planForsRow.holds Tryz.pinned (OpenSpec.ofChange planForsSpec)

/-- ITS FALSE NEIGHBOUR: 'it returns false'. Refute it at one input. -/
def planForsWrong : ChangeSpec := { name := "planFors", fn := fun _ => fun
  | [d] => { results := [.lit (.bool false)], args := [d] }
  | _ => none }
def PlanForsWrongFalsely : Prop := planForsRow.holds Tryz.pinned (OpenSpec.ofChange planForsWrong)

/-- 'tesseralaw11.PlanCheap': WHATEVER THE INPUT: true; the input reads as it did. -/
def planCheapSpec : ChangeSpec := { name := "planCheap", fn := fun _ => fun
  | [d1, d2] => { results := [.lit (.bool true)], args := [d1, d2] }
  | _ => none }
def planCheapRow : OpenClaim := { program := "ytkoakingmnjdoaagreatdoor", sum := "410acd944011b81ae432af7efa06731f2579a57cb73e456a9bd521057d6c6fb7", func := "tessera/tesseralaw11.PlanCheap", spec := "planCheap", unfollowed := true, recurses := true, named := ["tessera/api.ErrParams", "tessera/api.ErrNumber", "tessera/api.ErrLost", "tessera/api.ErrHalf", "tessera/api.ErrShape", "tessera/api.ErrSingular", "tessera/api.ErrData", "tessera/api.ErrProgram", "tessera/api.ErrThere", "tessera/api.ErrEmpty", "tessera/api.ErrBytes", "tessera/api.ErrSum", "tessera/api.ErrDrive", "tessera/api.ErrSlot", "tessera/api.ErrMedia", "tessera/api.ErrDown", "tessera/api.ErrFull", "tessera/api.ErrName", "tessera/api.ErrGone", "tessera/api.ErrLarge", "tessera/api.ErrBlank", "tessera/api.ErrCatalog", "tessera/api.ErrCommand", "tessera/api.ErrWorn", "tessera/api.ErrMany"], apart := false, laid := [("tessera/api.ErrParams", laid_tessera_api_ErrParams), ("tessera/api.ErrShape", laid_tessera_api_ErrShape), ("tessera/api.ErrSingular", laid_tessera_api_ErrSingular), ("tessera/api.ErrHalf", laid_tessera_api_ErrHalf), ("tessera/api.ErrData", laid_tessera_api_ErrData), ("tessera/api.ErrLost", laid_tessera_api_ErrLost), ("tessera/api.ErrProgram", laid_tessera_api_ErrProgram), ("tessera/api.ErrThere", laid_tessera_api_ErrThere), ("tessera/api.ErrEmpty", laid_tessera_api_ErrEmpty), ("tessera/api.ErrBytes", laid_tessera_api_ErrBytes), ("tessera/api.ErrSum", laid_tessera_api_ErrSum), ("tessera/api.ErrNumber", laid_tessera_api_ErrNumber), ("tessera/api.ErrDrive", laid_tessera_api_ErrDrive), ("tessera/api.ErrSlot", laid_tessera_api_ErrSlot), ("tessera/api.ErrMedia", laid_tessera_api_ErrMedia), ("tessera/api.ErrDown", laid_tessera_api_ErrDown), ("tessera/api.ErrFull", laid_tessera_api_ErrFull), ("tessera/api.ErrName", laid_tessera_api_ErrName), ("tessera/api.ErrGone", laid_tessera_api_ErrGone), ("tessera/api.ErrLarge", laid_tessera_api_ErrLarge), ("tessera/api.ErrBlank", laid_tessera_api_ErrBlank), ("tessera/api.ErrCatalog", laid_tessera_api_ErrCatalog), ("tessera/api.ErrCommand", laid_tessera_api_ErrCommand), ("tessera/api.ErrWorn", laid_tessera_api_ErrWorn), ("tessera/api.ErrMany", laid_tessera_api_ErrMany)] }
def PlanCheapSaid : Prop := planCheapRow.holds Tryz.pinned (OpenSpec.ofChange planCheapSpec)

/-- ITS FALSE NEIGHBOUR: 'it returns false'. Refute it at one input. -/
def planCheapWrong : ChangeSpec := { name := "planCheap", fn := fun _ => fun
  | [d1, d2] => { results := [.lit (.bool false)], args := [d1, d2] }
  | _ => none }
def PlanCheapWrongFalsely : Prop := planCheapRow.holds Tryz.pinned (OpenSpec.ofChange planCheapWrong)

/-- 'tesseralaw11.PlanRuns': WHATEVER THE INPUT: true; the input reads as it did. -/
def planRunsSpec : ChangeSpec := { name := "planRuns", fn := fun _ => fun
  | [d] => { results := [.lit (.bool true)], args := [d] }
  | _ => none }
def planRunsRow : OpenClaim := { program := "ytkoakingmnjdoaagreatdoor", sum := "410acd944011b81ae432af7efa06731f2579a57cb73e456a9bd521057d6c6fb7", func := "tessera/tesseralaw11.PlanRuns", spec := "planRuns", unfollowed := true, recurses := true, named := ["tessera/api.ErrNumber", "tessera/api.ErrParams", "tessera/api.ErrLost", "tessera/api.ErrHalf", "tessera/api.ErrShape", "tessera/api.ErrLarge", "tessera/api.ErrSingular", "tessera/api.ErrData", "tessera/api.ErrProgram", "tessera/api.ErrThere", "tessera/api.ErrEmpty", "tessera/api.ErrBytes", "tessera/api.ErrSum", "tessera/api.ErrDrive", "tessera/api.ErrSlot", "tessera/api.ErrMedia", "tessera/api.ErrDown", "tessera/api.ErrFull", "tessera/api.ErrName", "tessera/api.ErrGone", "tessera/api.ErrBlank", "tessera/api.ErrCatalog", "tessera/api.ErrCommand", "tessera/api.ErrWorn", "tessera/api.ErrMany"], apart := false, laid := [("tessera/api.ErrParams", laid_tessera_api_ErrParams), ("tessera/api.ErrShape", laid_tessera_api_ErrShape), ("tessera/api.ErrSingular", laid_tessera_api_ErrSingular), ("tessera/api.ErrHalf", laid_tessera_api_ErrHalf), ("tessera/api.ErrData", laid_tessera_api_ErrData), ("tessera/api.ErrLost", laid_tessera_api_ErrLost), ("tessera/api.ErrProgram", laid_tessera_api_ErrProgram), ("tessera/api.ErrThere", laid_tessera_api_ErrThere), ("tessera/api.ErrEmpty", laid_tessera_api_ErrEmpty), ("tessera/api.ErrBytes", laid_tessera_api_ErrBytes), ("tessera/api.ErrSum", laid_tessera_api_ErrSum), ("tessera/api.ErrNumber", laid_tessera_api_ErrNumber), ("tessera/api.ErrDrive", laid_tessera_api_ErrDrive), ("tessera/api.ErrSlot", laid_tessera_api_ErrSlot), ("tessera/api.ErrMedia", laid_tessera_api_ErrMedia), ("tessera/api.ErrDown", laid_tessera_api_ErrDown), ("tessera/api.ErrFull", laid_tessera_api_ErrFull), ("tessera/api.ErrName", laid_tessera_api_ErrName), ("tessera/api.ErrGone", laid_tessera_api_ErrGone), ("tessera/api.ErrLarge", laid_tessera_api_ErrLarge), ("tessera/api.ErrBlank", laid_tessera_api_ErrBlank), ("tessera/api.ErrCatalog", laid_tessera_api_ErrCatalog), ("tessera/api.ErrCommand", laid_tessera_api_ErrCommand), ("tessera/api.ErrWorn", laid_tessera_api_ErrWorn), ("tessera/api.ErrMany", laid_tessera_api_ErrMany)] }
def PlanRunsSaid : Prop := planRunsRow.holds Tryz.pinned (OpenSpec.ofChange planRunsSpec)

/-- ITS FALSE NEIGHBOUR: 'it returns false'. Refute it at one input. -/
def planRunsWrong : ChangeSpec := { name := "planRuns", fn := fun _ => fun
  | [d] => { results := [.lit (.bool false)], args := [d] }
  | _ => none }
def PlanRunsWrongFalsely : Prop := planRunsRow.holds Tryz.pinned (OpenSpec.ofChange planRunsWrong)

/-- 'tesseralaw11.PlanLost': WHATEVER THE INPUT: true; the input reads as it did. -/
def planLostSpec : ChangeSpec := { name := "planLost", fn := fun _ => fun
  | [d] => { results := [.lit (.bool true)], args := [d] }
  | _ => none }
def planLostRow : OpenClaim := { program := "ytkoakingmnjdoaagreatdoor", sum := "410acd944011b81ae432af7efa06731f2579a57cb73e456a9bd521057d6c6fb7", func := "tessera/tesseralaw11.PlanLost", spec := "planLost", unfollowed := true, recurses := true, named := ["tessera/api.ErrLost", "tessera/api.ErrNumber", "tessera/api.ErrParams", "tessera/api.ErrHalf", "tessera/api.ErrShape", "tessera/api.ErrLarge"], apart := false, laid := [("tessera/api.ErrParams", laid_tessera_api_ErrParams), ("tessera/api.ErrShape", laid_tessera_api_ErrShape), ("tessera/api.ErrHalf", laid_tessera_api_ErrHalf), ("tessera/api.ErrLost", laid_tessera_api_ErrLost), ("tessera/api.ErrNumber", laid_tessera_api_ErrNumber), ("tessera/api.ErrLarge", laid_tessera_api_ErrLarge)] }
def PlanLostSaid : Prop := planLostRow.holds Tryz.pinned (OpenSpec.ofChange planLostSpec)

/-- ITS FALSE NEIGHBOUR: 'it returns false'. Refute it at one input. -/
def planLostWrong : ChangeSpec := { name := "planLost", fn := fun _ => fun
  | [d] => { results := [.lit (.bool false)], args := [d] }
  | _ => none }
def PlanLostWrongFalsely : Prop := planLostRow.holds Tryz.pinned (OpenSpec.ofChange planLostWrong)

/-- 'tesseralaw11.PlanSome': WHATEVER THE INPUT: true; the input reads as it did. -/
def planSomeSpec : ChangeSpec := { name := "planSome", fn := fun _ => fun
  | [d] => { results := [.lit (.bool true)], args := [d] }
  | _ => none }
def planSomeRow : OpenClaim := { program := "ytkoakingmnjdoaagreatdoor", sum := "410acd944011b81ae432af7efa06731f2579a57cb73e456a9bd521057d6c6fb7", func := "tessera/tesseralaw11.PlanSome", spec := "planSome", unfollowed := true, recurses := true, named := ["tessera/api.ErrNumber", "tessera/api.ErrParams", "tessera/api.ErrLost", "tessera/api.ErrHalf", "tessera/api.ErrShape", "tessera/api.ErrLarge", "tessera/api.ErrProgram", "tessera/api.ErrData", "tessera/api.ErrThere", "tessera/api.ErrEmpty"], apart := false, laid := [("tessera/api.ErrParams", laid_tessera_api_ErrParams), ("tessera/api.ErrShape", laid_tessera_api_ErrShape), ("tessera/api.ErrHalf", laid_tessera_api_ErrHalf), ("tessera/api.ErrData", laid_tessera_api_ErrData), ("tessera/api.ErrLost", laid_tessera_api_ErrLost), ("tessera/api.ErrProgram", laid_tessera_api_ErrProgram), ("tessera/api.ErrThere", laid_tessera_api_ErrThere), ("tessera/api.ErrEmpty", laid_tessera_api_ErrEmpty), ("tessera/api.ErrNumber", laid_tessera_api_ErrNumber), ("tessera/api.ErrLarge", laid_tessera_api_ErrLarge)] }
def PlanSomeSaid : Prop := planSomeRow.holds Tryz.pinned (OpenSpec.ofChange planSomeSpec)

/-- ITS FALSE NEIGHBOUR: 'it returns false'. Refute it at one input. -/
def planSomeWrong : ChangeSpec := { name := "planSome", fn := fun _ => fun
  | [d] => { results := [.lit (.bool false)], args := [d] }
  | _ => none }
def PlanSomeWrongFalsely : Prop := planSomeRow.holds Tryz.pinned (OpenSpec.ofChange planSomeWrong)

/-- 'tesseralaw11.PlanEach': WHATEVER THE INPUT: true; the input reads as it did. -/
def planEachSpec : ChangeSpec := { name := "planEach", fn := fun _ => fun
  | [d1, d2] => { results := [.lit (.bool true)], args := [d1, d2] }
  | _ => none }
def planEachRow : OpenClaim := { program := "ytkoakingmnjdoaagreatdoor", sum := "410acd944011b81ae432af7efa06731f2579a57cb73e456a9bd521057d6c6fb7", func := "tessera/tesseralaw11.PlanEach", spec := "planEach", unfollowed := true, recurses := true, named := ["tessera/api.ErrParams", "tessera/api.ErrNumber", "tessera/api.ErrLost", "tessera/api.ErrHalf", "tessera/api.ErrShape"], apart := false, laid := [("tessera/api.ErrParams", laid_tessera_api_ErrParams), ("tessera/api.ErrShape", laid_tessera_api_ErrShape), ("tessera/api.ErrHalf", laid_tessera_api_ErrHalf), ("tessera/api.ErrLost", laid_tessera_api_ErrLost), ("tessera/api.ErrNumber", laid_tessera_api_ErrNumber)] }
def PlanEachSaid : Prop := planEachRow.holds Tryz.pinned (OpenSpec.ofChange planEachSpec)

/-- ITS FALSE NEIGHBOUR: 'it returns false'. Refute it at one input. -/
def planEachWrong : ChangeSpec := { name := "planEach", fn := fun _ => fun
  | [d1, d2] => { results := [.lit (.bool false)], args := [d1, d2] }
  | _ => none }
def PlanEachWrongFalsely : Prop := planEachRow.holds Tryz.pinned (OpenSpec.ofChange planEachWrong)

/- THE SECOND FORM. 'bulk': how many values and letters a reading holds, each counted each time it is reached (what is shared counts as often as it is met; a slice's spare places count too). A statement '..UptoSaid' is the law's where the arguments, and the package variables that the reading takes, are together of bulk at most 1048576: NARROWER than '..Said'. Prove '..Said' where nothing that the law and all that it calls make is longer than what came in: it says more and counts as full. Else prove '..UptoSaid'. A law counts once. -/
mutual
def uptoBulk {H : Type} : DataW H → Nat
  | .lit (.string bytes) => bytes.length + 1
  | .lit _ => 1
  | .nil => 1
  | .ptr d => uptoBulk d + 1
  | .slice elems spare => uptoBulkAll elems + uptoBulkAll spare + 1
  | .agg parts => uptoBulkAll parts + 1
  | .iface _ d => uptoBulk d + 1
  | .map entries => uptoBulkEntries entries + 1
  | .held _ => 1
def uptoBulkAll {H : Type} : List (DataW H) → Nat
  | [] => 0
  | d :: r => uptoBulk d + uptoBulkAll r
def uptoBulkEntries {H : Type} : List (Lit × DataW H) → Nat
  | [] => 0
  | x :: r => uptoBulkEntry x + uptoBulkEntries r
def uptoBulkEntry {H : Type} : Lit × DataW H → Nat
  | (.string bytes, d) => bytes.length + uptoBulk d + 1
  | (_, d) => uptoBulk d + 1
 end
def uptoSmall : (H : Type) → List (DataW H) → Bool := fun _ ds => decide (uptoBulkAll ds ≤ 1048576)
def OpenSpec.upto (s : _root_.Go.ChangeSpec) : _root_.Go.OpenSpec := { _root_.Go.OpenSpec.ofChange s with cond := some uptoSmall }

/-- 'tesseralaw11.PlanFors', WHERE WHAT IT READS IS OF BULK AT MOST 1048576: true; the input reads as it did. -/
def planForsUptoRow : OpenClaim := { program := "ytkoakingmnjdoaagreatdoor", sum := "410acd944011b81ae432af7efa06731f2579a57cb73e456a9bd521057d6c6fb7", func := "tessera/tesseralaw11.PlanFors", spec := "planFors", unfollowed := true, recurses := true, named := ["tessera/api.ErrParams", "tessera/api.ErrHalf", "tessera/api.ErrLost", "tessera/api.ErrNumber", "tessera/api.ErrShape"], apart := false, laid := [("tessera/api.ErrParams", laid_tessera_api_ErrParams), ("tessera/api.ErrShape", laid_tessera_api_ErrShape), ("tessera/api.ErrHalf", laid_tessera_api_ErrHalf), ("tessera/api.ErrLost", laid_tessera_api_ErrLost), ("tessera/api.ErrNumber", laid_tessera_api_ErrNumber)], narrowed := true }
def PlanForsUptoSaid : Prop := planForsUptoRow.holds Tryz.pinned (OpenSpec.upto planForsSpec)

/-- 'tesseralaw11.PlanCheap', WHERE WHAT IT READS IS OF BULK AT MOST 1048576: true; the input reads as it did. -/
def planCheapUptoRow : OpenClaim := { program := "ytkoakingmnjdoaagreatdoor", sum := "410acd944011b81ae432af7efa06731f2579a57cb73e456a9bd521057d6c6fb7", func := "tessera/tesseralaw11.PlanCheap", spec := "planCheap", unfollowed := true, recurses := true, named := ["tessera/api.ErrParams", "tessera/api.ErrNumber", "tessera/api.ErrLost", "tessera/api.ErrHalf", "tessera/api.ErrShape", "tessera/api.ErrSingular", "tessera/api.ErrData", "tessera/api.ErrProgram", "tessera/api.ErrThere", "tessera/api.ErrEmpty", "tessera/api.ErrBytes", "tessera/api.ErrSum", "tessera/api.ErrDrive", "tessera/api.ErrSlot", "tessera/api.ErrMedia", "tessera/api.ErrDown", "tessera/api.ErrFull", "tessera/api.ErrName", "tessera/api.ErrGone", "tessera/api.ErrLarge", "tessera/api.ErrBlank", "tessera/api.ErrCatalog", "tessera/api.ErrCommand", "tessera/api.ErrWorn", "tessera/api.ErrMany"], apart := false, laid := [("tessera/api.ErrParams", laid_tessera_api_ErrParams), ("tessera/api.ErrShape", laid_tessera_api_ErrShape), ("tessera/api.ErrSingular", laid_tessera_api_ErrSingular), ("tessera/api.ErrHalf", laid_tessera_api_ErrHalf), ("tessera/api.ErrData", laid_tessera_api_ErrData), ("tessera/api.ErrLost", laid_tessera_api_ErrLost), ("tessera/api.ErrProgram", laid_tessera_api_ErrProgram), ("tessera/api.ErrThere", laid_tessera_api_ErrThere), ("tessera/api.ErrEmpty", laid_tessera_api_ErrEmpty), ("tessera/api.ErrBytes", laid_tessera_api_ErrBytes), ("tessera/api.ErrSum", laid_tessera_api_ErrSum), ("tessera/api.ErrNumber", laid_tessera_api_ErrNumber), ("tessera/api.ErrDrive", laid_tessera_api_ErrDrive), ("tessera/api.ErrSlot", laid_tessera_api_ErrSlot), ("tessera/api.ErrMedia", laid_tessera_api_ErrMedia), ("tessera/api.ErrDown", laid_tessera_api_ErrDown), ("tessera/api.ErrFull", laid_tessera_api_ErrFull), ("tessera/api.ErrName", laid_tessera_api_ErrName), ("tessera/api.ErrGone", laid_tessera_api_ErrGone), ("tessera/api.ErrLarge", laid_tessera_api_ErrLarge), ("tessera/api.ErrBlank", laid_tessera_api_ErrBlank), ("tessera/api.ErrCatalog", laid_tessera_api_ErrCatalog), ("tessera/api.ErrCommand", laid_tessera_api_ErrCommand), ("tessera/api.ErrWorn", laid_tessera_api_ErrWorn), ("tessera/api.ErrMany", laid_tessera_api_ErrMany)], narrowed := true }
def PlanCheapUptoSaid : Prop := planCheapUptoRow.holds Tryz.pinned (OpenSpec.upto planCheapSpec)

/-- 'tesseralaw11.PlanRuns', WHERE WHAT IT READS IS OF BULK AT MOST 1048576: true; the input reads as it did. -/
def planRunsUptoRow : OpenClaim := { program := "ytkoakingmnjdoaagreatdoor", sum := "410acd944011b81ae432af7efa06731f2579a57cb73e456a9bd521057d6c6fb7", func := "tessera/tesseralaw11.PlanRuns", spec := "planRuns", unfollowed := true, recurses := true, named := ["tessera/api.ErrNumber", "tessera/api.ErrParams", "tessera/api.ErrLost", "tessera/api.ErrHalf", "tessera/api.ErrShape", "tessera/api.ErrLarge", "tessera/api.ErrSingular", "tessera/api.ErrData", "tessera/api.ErrProgram", "tessera/api.ErrThere", "tessera/api.ErrEmpty", "tessera/api.ErrBytes", "tessera/api.ErrSum", "tessera/api.ErrDrive", "tessera/api.ErrSlot", "tessera/api.ErrMedia", "tessera/api.ErrDown", "tessera/api.ErrFull", "tessera/api.ErrName", "tessera/api.ErrGone", "tessera/api.ErrBlank", "tessera/api.ErrCatalog", "tessera/api.ErrCommand", "tessera/api.ErrWorn", "tessera/api.ErrMany"], apart := false, laid := [("tessera/api.ErrParams", laid_tessera_api_ErrParams), ("tessera/api.ErrShape", laid_tessera_api_ErrShape), ("tessera/api.ErrSingular", laid_tessera_api_ErrSingular), ("tessera/api.ErrHalf", laid_tessera_api_ErrHalf), ("tessera/api.ErrData", laid_tessera_api_ErrData), ("tessera/api.ErrLost", laid_tessera_api_ErrLost), ("tessera/api.ErrProgram", laid_tessera_api_ErrProgram), ("tessera/api.ErrThere", laid_tessera_api_ErrThere), ("tessera/api.ErrEmpty", laid_tessera_api_ErrEmpty), ("tessera/api.ErrBytes", laid_tessera_api_ErrBytes), ("tessera/api.ErrSum", laid_tessera_api_ErrSum), ("tessera/api.ErrNumber", laid_tessera_api_ErrNumber), ("tessera/api.ErrDrive", laid_tessera_api_ErrDrive), ("tessera/api.ErrSlot", laid_tessera_api_ErrSlot), ("tessera/api.ErrMedia", laid_tessera_api_ErrMedia), ("tessera/api.ErrDown", laid_tessera_api_ErrDown), ("tessera/api.ErrFull", laid_tessera_api_ErrFull), ("tessera/api.ErrName", laid_tessera_api_ErrName), ("tessera/api.ErrGone", laid_tessera_api_ErrGone), ("tessera/api.ErrLarge", laid_tessera_api_ErrLarge), ("tessera/api.ErrBlank", laid_tessera_api_ErrBlank), ("tessera/api.ErrCatalog", laid_tessera_api_ErrCatalog), ("tessera/api.ErrCommand", laid_tessera_api_ErrCommand), ("tessera/api.ErrWorn", laid_tessera_api_ErrWorn), ("tessera/api.ErrMany", laid_tessera_api_ErrMany)], narrowed := true }
def PlanRunsUptoSaid : Prop := planRunsUptoRow.holds Tryz.pinned (OpenSpec.upto planRunsSpec)

/-- 'tesseralaw11.PlanLost', WHERE WHAT IT READS IS OF BULK AT MOST 1048576: true; the input reads as it did. -/
def planLostUptoRow : OpenClaim := { program := "ytkoakingmnjdoaagreatdoor", sum := "410acd944011b81ae432af7efa06731f2579a57cb73e456a9bd521057d6c6fb7", func := "tessera/tesseralaw11.PlanLost", spec := "planLost", unfollowed := true, recurses := true, named := ["tessera/api.ErrLost", "tessera/api.ErrNumber", "tessera/api.ErrParams", "tessera/api.ErrHalf", "tessera/api.ErrShape", "tessera/api.ErrLarge"], apart := false, laid := [("tessera/api.ErrParams", laid_tessera_api_ErrParams), ("tessera/api.ErrShape", laid_tessera_api_ErrShape), ("tessera/api.ErrHalf", laid_tessera_api_ErrHalf), ("tessera/api.ErrLost", laid_tessera_api_ErrLost), ("tessera/api.ErrNumber", laid_tessera_api_ErrNumber), ("tessera/api.ErrLarge", laid_tessera_api_ErrLarge)], narrowed := true }
def PlanLostUptoSaid : Prop := planLostUptoRow.holds Tryz.pinned (OpenSpec.upto planLostSpec)

/-- 'tesseralaw11.PlanSome', WHERE WHAT IT READS IS OF BULK AT MOST 1048576: true; the input reads as it did. -/
def planSomeUptoRow : OpenClaim := { program := "ytkoakingmnjdoaagreatdoor", sum := "410acd944011b81ae432af7efa06731f2579a57cb73e456a9bd521057d6c6fb7", func := "tessera/tesseralaw11.PlanSome", spec := "planSome", unfollowed := true, recurses := true, named := ["tessera/api.ErrNumber", "tessera/api.ErrParams", "tessera/api.ErrLost", "tessera/api.ErrHalf", "tessera/api.ErrShape", "tessera/api.ErrLarge", "tessera/api.ErrProgram", "tessera/api.ErrData", "tessera/api.ErrThere", "tessera/api.ErrEmpty"], apart := false, laid := [("tessera/api.ErrParams", laid_tessera_api_ErrParams), ("tessera/api.ErrShape", laid_tessera_api_ErrShape), ("tessera/api.ErrHalf", laid_tessera_api_ErrHalf), ("tessera/api.ErrData", laid_tessera_api_ErrData), ("tessera/api.ErrLost", laid_tessera_api_ErrLost), ("tessera/api.ErrProgram", laid_tessera_api_ErrProgram), ("tessera/api.ErrThere", laid_tessera_api_ErrThere), ("tessera/api.ErrEmpty", laid_tessera_api_ErrEmpty), ("tessera/api.ErrNumber", laid_tessera_api_ErrNumber), ("tessera/api.ErrLarge", laid_tessera_api_ErrLarge)], narrowed := true }
def PlanSomeUptoSaid : Prop := planSomeUptoRow.holds Tryz.pinned (OpenSpec.upto planSomeSpec)

/-- 'tesseralaw11.PlanEach', WHERE WHAT IT READS IS OF BULK AT MOST 1048576: true; the input reads as it did. -/
def planEachUptoRow : OpenClaim := { program := "ytkoakingmnjdoaagreatdoor", sum := "410acd944011b81ae432af7efa06731f2579a57cb73e456a9bd521057d6c6fb7", func := "tessera/tesseralaw11.PlanEach", spec := "planEach", unfollowed := true, recurses := true, named := ["tessera/api.ErrParams", "tessera/api.ErrNumber", "tessera/api.ErrLost", "tessera/api.ErrHalf", "tessera/api.ErrShape"], apart := false, laid := [("tessera/api.ErrParams", laid_tessera_api_ErrParams), ("tessera/api.ErrShape", laid_tessera_api_ErrShape), ("tessera/api.ErrHalf", laid_tessera_api_ErrHalf), ("tessera/api.ErrLost", laid_tessera_api_ErrLost), ("tessera/api.ErrNumber", laid_tessera_api_ErrNumber)], narrowed := true }
def PlanEachUptoSaid : Prop := planEachUptoRow.holds Tryz.pinned (OpenSpec.upto planEachSpec)

end Rows
end Go.Proofs.YtkoakingmnjdoaaGreatDoor
