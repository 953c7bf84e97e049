/-
  NARROWER THAN 'FOR EVERY INPUT', by the rows' own cells (each row's printed sentence says how): CodeEncodes: laid · CodeDecodes: laid · CodeFits: laid · CodeAnyShards: laid · CodeLinear: laid · CodeCheap: laid.
  DERIVED. THE GIVEN ROWS OF THIS SEAT. 6 by the template 'for every input the law returns true; each argument reads behind the call as it read before'; 0 by the template 'total and deterministic' (their statements: YtmlpijlcpeoeaaaDoorTotals.lean).
  GIVEN WITH THE SEED: the statements are not yours to turn. If you find one false, say at which input.
  Laid BY PROGRAM, IN A SANDBOX (cutbox-rows.mjs): the forced cells as the released guide's own fill.sh prints them over the translation 58587795e86905a3… (all of the seat's roots in one cut). By AI agents, Wed Nov 11 2026. No macro, syntax, notation, axiom, sorry.
-/
import Derived.Test.YtmlpijlcpeoeaaaDoorChecked
import GoSem.Claim
import GoSem.ClaimJoined
import GoSem.ClaimMapViews
import Derived.JoinedTies
import Derived.KernelRfl
namespace Go.Proofs.YtmlpijlcpeoeaaaDoor
/- THE CELL 'sum', in the pinned program and in every row, IS THE sha256 OF THE DUMP (.gsa) THAT YtmlpijlcpeoeaaaDoorProg.lean LOADS. Nothing in Lean hashes anything: it is a label: what it is worth is what the hold of that sum in a sandbox is worth. -/
noncomputable def Tryd.pinned : Pinned := { name := "ytmlpijlcpeoeaaadoor", sum := "58587795e86905a37464faa8532f1ecfefd43872d503aa7f45a0ba5db052fd14", checked := Tryd.checked }
namespace Rows
def none {H : Type} : Left H := { results := [], args := [] }

/- WHAT THE LISTED PACKAGE-LEVEL VARIABLES READ AS WHEN THE CALL BEGINS. Each datum BY PROGRAM (the guide's laid-datum.mjs) off the statement by which the dump's own 'gosem.cut.vars' lays the variable. In a bare row this is a premise. The card (YtmlpijlcpeoeaaaDoorCards.lean) ties it to the program's text. -/
def laid_tessera_api_ErrParams {H : Type} : DataW H := .iface "*errors.errorString" (.ptr (.agg [.lit (.string [116, 101, 115, 115, 101, 114, 97, 58, 32, 112, 97, 114, 97, 109, 115])]))
def laid_tessera_api_ErrShape {H : Type} : DataW H := .iface "*errors.errorString" (.ptr (.agg [.lit (.string [116, 101, 115, 115, 101, 114, 97, 58, 32, 115, 104, 97, 112, 101])]))
def laid_tessera_api_ErrSingular {H : Type} : DataW H := .iface "*errors.errorString" (.ptr (.agg [.lit (.string [116, 101, 115, 115, 101, 114, 97, 58, 32, 115, 105, 110, 103, 117, 108, 97, 114])]))
def laid_tessera_api_ErrHalf {H : Type} : DataW H := .iface "*errors.errorString" (.ptr (.agg [.lit (.string [116, 101, 115, 115, 101, 114, 97, 58, 32, 104, 97, 108, 102])]))
def laid_tessera_api_ErrData {H : Type} : DataW H := .iface "*errors.errorString" (.ptr (.agg [.lit (.string [116, 101, 115, 115, 101, 114, 97, 58, 32, 100, 97, 116, 97])]))
def laid_tessera_api_ErrLost {H : Type} : DataW H := .iface "*errors.errorString" (.ptr (.agg [.lit (.string [116, 101, 115, 115, 101, 114, 97, 58, 32, 108, 111, 115, 116])]))
def laid_tessera_api_ErrProgram {H : Type} : DataW H := .iface "*errors.errorString" (.ptr (.agg [.lit (.string [116, 101, 115, 115, 101, 114, 97, 58, 32, 112, 114, 111, 103, 114, 97, 109])]))
def laid_tessera_api_ErrThere {H : Type} : DataW H := .iface "*errors.errorString" (.ptr (.agg [.lit (.string [116, 101, 115, 115, 101, 114, 97, 58, 32, 116, 104, 101, 114, 101])]))
def laid_tessera_api_ErrEmpty {H : Type} : DataW H := .iface "*errors.errorString" (.ptr (.agg [.lit (.string [116, 101, 115, 115, 101, 114, 97, 58, 32, 101, 109, 112, 116, 121])]))
def laid_tessera_api_ErrBytes {H : Type} : DataW H := .iface "*errors.errorString" (.ptr (.agg [.lit (.string [116, 101, 115, 115, 101, 114, 97, 58, 32, 98, 121, 116, 101, 115])]))
def laid_tessera_api_ErrSum {H : Type} : DataW H := .iface "*errors.errorString" (.ptr (.agg [.lit (.string [116, 101, 115, 115, 101, 114, 97, 58, 32, 115, 117, 109])]))
def laid_tessera_api_ErrNumber {H : Type} : DataW H := .iface "*errors.errorString" (.ptr (.agg [.lit (.string [116, 101, 115, 115, 101, 114, 97, 58, 32, 110, 117, 109, 98, 101, 114])]))
def laid_tessera_api_ErrDrive {H : Type} : DataW H := .iface "*errors.errorString" (.ptr (.agg [.lit (.string [116, 101, 115, 115, 101, 114, 97, 58, 32, 100, 114, 105, 118, 101])]))
def laid_tessera_api_ErrSlot {H : Type} : DataW H := .iface "*errors.errorString" (.ptr (.agg [.lit (.string [116, 101, 115, 115, 101, 114, 97, 58, 32, 115, 108, 111, 116])]))
def laid_tessera_api_ErrMedia {H : Type} : DataW H := .iface "*errors.errorString" (.ptr (.agg [.lit (.string [116, 101, 115, 115, 101, 114, 97, 58, 32, 109, 101, 100, 105, 97])]))
def laid_tessera_api_ErrDown {H : Type} : DataW H := .iface "*errors.errorString" (.ptr (.agg [.lit (.string [116, 101, 115, 115, 101, 114, 97, 58, 32, 100, 111, 119, 110])]))
def laid_tessera_api_ErrFull {H : Type} : DataW H := .iface "*errors.errorString" (.ptr (.agg [.lit (.string [116, 101, 115, 115, 101, 114, 97, 58, 32, 102, 117, 108, 108])]))
def laid_tessera_api_ErrName {H : Type} : DataW H := .iface "*errors.errorString" (.ptr (.agg [.lit (.string [116, 101, 115, 115, 101, 114, 97, 58, 32, 110, 97, 109, 101])]))
def laid_tessera_api_ErrGone {H : Type} : DataW H := .iface "*errors.errorString" (.ptr (.agg [.lit (.string [116, 101, 115, 115, 101, 114, 97, 58, 32, 103, 111, 110, 101])]))
def laid_tessera_api_ErrLarge {H : Type} : DataW H := .iface "*errors.errorString" (.ptr (.agg [.lit (.string [116, 101, 115, 115, 101, 114, 97, 58, 32, 108, 97, 114, 103, 101])]))
def laid_tessera_api_ErrBlank {H : Type} : DataW H := .iface "*errors.errorString" (.ptr (.agg [.lit (.string [116, 101, 115, 115, 101, 114, 97, 58, 32, 98, 108, 97, 110, 107])]))
def laid_tessera_api_ErrCatalog {H : Type} : DataW H := .iface "*errors.errorString" (.ptr (.agg [.lit (.string [116, 101, 115, 115, 101, 114, 97, 58, 32, 99, 97, 116, 97, 108, 111, 103])]))
def laid_tessera_api_ErrCommand {H : Type} : DataW H := .iface "*errors.errorString" (.ptr (.agg [.lit (.string [116, 101, 115, 115, 101, 114, 97, 58, 32, 99, 111, 109, 109, 97, 110, 100])]))
def laid_tessera_api_ErrWorn {H : Type} : DataW H := .iface "*errors.errorString" (.ptr (.agg [.lit (.string [116, 101, 115, 115, 101, 114, 97, 58, 32, 119, 111, 114, 110])]))
def laid_tessera_api_ErrMany {H : Type} : DataW H := .iface "*errors.errorString" (.ptr (.agg [.lit (.string [116, 101, 115, 115, 101, 114, 97, 58, 32, 109, 97, 110, 121])]))

/-- 'tesseralaw07.CodeEncodes': WHATEVER THE INPUT: true; the input reads as it did. -/
def codeEncodesSpec : ChangeSpec := { name := "codeEncodes", fn := fun _ => fun
  | [d1, d2, d3] => { results := [.lit (.bool true)], args := [d1, d2, d3] }
  | _ => none }
def codeEncodesRow : OpenClaim := { program := "ytmlpijlcpeoeaaadoor", sum := "58587795e86905a37464faa8532f1ecfefd43872d503aa7f45a0ba5db052fd14", func := "tessera/tesseralaw07.CodeEncodes", spec := "codeEncodes", unfollowed := true, recurses := true, named := ["tessera/api.ErrParams", "tessera/api.ErrShape", "tessera/api.ErrNumber", "tessera/api.ErrLarge", "tessera/api.ErrSingular", "tessera/api.ErrHalf", "tessera/api.ErrData", "tessera/api.ErrLost", "tessera/api.ErrProgram", "tessera/api.ErrThere", "tessera/api.ErrEmpty", "tessera/api.ErrBytes", "tessera/api.ErrSum", "tessera/api.ErrDrive", "tessera/api.ErrSlot", "tessera/api.ErrMedia", "tessera/api.ErrDown", "tessera/api.ErrFull", "tessera/api.ErrName", "tessera/api.ErrGone", "tessera/api.ErrBlank", "tessera/api.ErrCatalog", "tessera/api.ErrCommand", "tessera/api.ErrWorn", "tessera/api.ErrMany"], apart := false, laid := [("tessera/api.ErrParams", laid_tessera_api_ErrParams), ("tessera/api.ErrShape", laid_tessera_api_ErrShape), ("tessera/api.ErrSingular", laid_tessera_api_ErrSingular), ("tessera/api.ErrHalf", laid_tessera_api_ErrHalf), ("tessera/api.ErrData", laid_tessera_api_ErrData), ("tessera/api.ErrLost", laid_tessera_api_ErrLost), ("tessera/api.ErrProgram", laid_tessera_api_ErrProgram), ("tessera/api.ErrThere", laid_tessera_api_ErrThere), ("tessera/api.ErrEmpty", laid_tessera_api_ErrEmpty), ("tessera/api.ErrBytes", laid_tessera_api_ErrBytes), ("tessera/api.ErrSum", laid_tessera_api_ErrSum), ("tessera/api.ErrNumber", laid_tessera_api_ErrNumber), ("tessera/api.ErrDrive", laid_tessera_api_ErrDrive), ("tessera/api.ErrSlot", laid_tessera_api_ErrSlot), ("tessera/api.ErrMedia", laid_tessera_api_ErrMedia), ("tessera/api.ErrDown", laid_tessera_api_ErrDown), ("tessera/api.ErrFull", laid_tessera_api_ErrFull), ("tessera/api.ErrName", laid_tessera_api_ErrName), ("tessera/api.ErrGone", laid_tessera_api_ErrGone), ("tessera/api.ErrLarge", laid_tessera_api_ErrLarge), ("tessera/api.ErrBlank", laid_tessera_api_ErrBlank), ("tessera/api.ErrCatalog", laid_tessera_api_ErrCatalog), ("tessera/api.ErrCommand", laid_tessera_api_ErrCommand), ("tessera/api.ErrWorn", laid_tessera_api_ErrWorn), ("tessera/api.ErrMany", laid_tessera_api_ErrMany)] }
def CodeEncodesSaid : Prop := codeEncodesRow.holds Tryd.pinned (OpenSpec.ofChange codeEncodesSpec)

/-- ITS FALSE NEIGHBOUR: 'it returns false'. Refute it at one input. -/
def codeEncodesWrong : ChangeSpec := { name := "codeEncodes", fn := fun _ => fun
  | [d1, d2, d3] => { results := [.lit (.bool false)], args := [d1, d2, d3] }
  | _ => none }
def CodeEncodesWrongFalsely : Prop := codeEncodesRow.holds Tryd.pinned (OpenSpec.ofChange codeEncodesWrong)

/-- 'tesseralaw07.CodeDecodes': WHATEVER THE INPUT: true; the input reads as it did. -/
def codeDecodesSpec : ChangeSpec := { name := "codeDecodes", fn := fun _ => fun
  | [d] => { results := [.lit (.bool true)], args := [d] }
  | _ => none }
def codeDecodesRow : OpenClaim := { program := "ytmlpijlcpeoeaaadoor", sum := "58587795e86905a37464faa8532f1ecfefd43872d503aa7f45a0ba5db052fd14", func := "tessera/tesseralaw07.CodeDecodes", spec := "codeDecodes", unfollowed := true, recurses := true, named := ["tessera/api.ErrParams", "tessera/api.ErrShape", "tessera/api.ErrNumber", "tessera/api.ErrLarge", "tessera/api.ErrData", "tessera/api.ErrHalf", "tessera/api.ErrSingular", "tessera/api.ErrLost", "tessera/api.ErrProgram", "tessera/api.ErrThere", "tessera/api.ErrEmpty", "tessera/api.ErrBytes", "tessera/api.ErrSum", "tessera/api.ErrDrive", "tessera/api.ErrSlot", "tessera/api.ErrMedia", "tessera/api.ErrDown", "tessera/api.ErrFull", "tessera/api.ErrName", "tessera/api.ErrGone", "tessera/api.ErrBlank", "tessera/api.ErrCatalog", "tessera/api.ErrCommand", "tessera/api.ErrWorn", "tessera/api.ErrMany"], apart := false, laid := [("tessera/api.ErrParams", laid_tessera_api_ErrParams), ("tessera/api.ErrShape", laid_tessera_api_ErrShape), ("tessera/api.ErrSingular", laid_tessera_api_ErrSingular), ("tessera/api.ErrHalf", laid_tessera_api_ErrHalf), ("tessera/api.ErrData", laid_tessera_api_ErrData), ("tessera/api.ErrLost", laid_tessera_api_ErrLost), ("tessera/api.ErrProgram", laid_tessera_api_ErrProgram), ("tessera/api.ErrThere", laid_tessera_api_ErrThere), ("tessera/api.ErrEmpty", laid_tessera_api_ErrEmpty), ("tessera/api.ErrBytes", laid_tessera_api_ErrBytes), ("tessera/api.ErrSum", laid_tessera_api_ErrSum), ("tessera/api.ErrNumber", laid_tessera_api_ErrNumber), ("tessera/api.ErrDrive", laid_tessera_api_ErrDrive), ("tessera/api.ErrSlot", laid_tessera_api_ErrSlot), ("tessera/api.ErrMedia", laid_tessera_api_ErrMedia), ("tessera/api.ErrDown", laid_tessera_api_ErrDown), ("tessera/api.ErrFull", laid_tessera_api_ErrFull), ("tessera/api.ErrName", laid_tessera_api_ErrName), ("tessera/api.ErrGone", laid_tessera_api_ErrGone), ("tessera/api.ErrLarge", laid_tessera_api_ErrLarge), ("tessera/api.ErrBlank", laid_tessera_api_ErrBlank), ("tessera/api.ErrCatalog", laid_tessera_api_ErrCatalog), ("tessera/api.ErrCommand", laid_tessera_api_ErrCommand), ("tessera/api.ErrWorn", laid_tessera_api_ErrWorn), ("tessera/api.ErrMany", laid_tessera_api_ErrMany)] }
def CodeDecodesSaid : Prop := codeDecodesRow.holds Tryd.pinned (OpenSpec.ofChange codeDecodesSpec)

/-- ITS FALSE NEIGHBOUR: 'it returns false'. Refute it at one input. -/
def codeDecodesWrong : ChangeSpec := { name := "codeDecodes", fn := fun _ => fun
  | [d] => { results := [.lit (.bool false)], args := [d] }
  | _ => none }
def CodeDecodesWrongFalsely : Prop := codeDecodesRow.holds Tryd.pinned (OpenSpec.ofChange codeDecodesWrong)

/-- 'tesseralaw07.CodeFits': WHATEVER THE INPUT: true; the input reads as it did. -/
def codeFitsSpec : ChangeSpec := { name := "codeFits", fn := fun _ => fun
  | [d1, d2, d3] => { results := [.lit (.bool true)], args := [d1, d2, d3] }
  | _ => none }
def codeFitsRow : OpenClaim := { program := "ytmlpijlcpeoeaaadoor", sum := "58587795e86905a37464faa8532f1ecfefd43872d503aa7f45a0ba5db052fd14", func := "tessera/tesseralaw07.CodeFits", spec := "codeFits", unfollowed := true, recurses := true, named := ["tessera/api.ErrParams", "tessera/api.ErrData", "tessera/api.ErrShape", "tessera/api.ErrNumber", "tessera/api.ErrLarge"], apart := false, laid := [("tessera/api.ErrParams", laid_tessera_api_ErrParams), ("tessera/api.ErrShape", laid_tessera_api_ErrShape), ("tessera/api.ErrData", laid_tessera_api_ErrData), ("tessera/api.ErrNumber", laid_tessera_api_ErrNumber), ("tessera/api.ErrLarge", laid_tessera_api_ErrLarge)] }
def CodeFitsSaid : Prop := codeFitsRow.holds Tryd.pinned (OpenSpec.ofChange codeFitsSpec)

/-- ITS FALSE NEIGHBOUR: 'it returns false'. Refute it at one input. -/
def codeFitsWrong : ChangeSpec := { name := "codeFits", fn := fun _ => fun
  | [d1, d2, d3] => { results := [.lit (.bool false)], args := [d1, d2, d3] }
  | _ => none }
def CodeFitsWrongFalsely : Prop := codeFitsRow.holds Tryd.pinned (OpenSpec.ofChange codeFitsWrong)

/-- 'tesseralaw07.CodeAnyShards': WHATEVER THE INPUT: true; the input reads as it did. -/
def codeAnyShardsSpec : ChangeSpec := { name := "codeAnyShards", fn := fun _ => fun
  | [d] => { results := [.lit (.bool true)], args := [d] }
  | _ => none }
def codeAnyShardsRow : OpenClaim := { program := "ytmlpijlcpeoeaaadoor", sum := "58587795e86905a37464faa8532f1ecfefd43872d503aa7f45a0ba5db052fd14", func := "tessera/tesseralaw07.CodeAnyShards", spec := "codeAnyShards", unfollowed := true, recurses := true, named := ["tessera/api.ErrParams", "tessera/api.ErrShape", "tessera/api.ErrNumber", "tessera/api.ErrLarge", "tessera/api.ErrSingular", "tessera/api.ErrHalf", "tessera/api.ErrData", "tessera/api.ErrLost", "tessera/api.ErrProgram", "tessera/api.ErrThere", "tessera/api.ErrEmpty", "tessera/api.ErrBytes", "tessera/api.ErrSum", "tessera/api.ErrDrive", "tessera/api.ErrSlot", "tessera/api.ErrMedia", "tessera/api.ErrDown", "tessera/api.ErrFull", "tessera/api.ErrName", "tessera/api.ErrGone", "tessera/api.ErrBlank", "tessera/api.ErrCatalog", "tessera/api.ErrCommand", "tessera/api.ErrWorn", "tessera/api.ErrMany"], apart := false, laid := [("tessera/api.ErrParams", laid_tessera_api_ErrParams), ("tessera/api.ErrShape", laid_tessera_api_ErrShape), ("tessera/api.ErrSingular", laid_tessera_api_ErrSingular), ("tessera/api.ErrHalf", laid_tessera_api_ErrHalf), ("tessera/api.ErrData", laid_tessera_api_ErrData), ("tessera/api.ErrLost", laid_tessera_api_ErrLost), ("tessera/api.ErrProgram", laid_tessera_api_ErrProgram), ("tessera/api.ErrThere", laid_tessera_api_ErrThere), ("tessera/api.ErrEmpty", laid_tessera_api_ErrEmpty), ("tessera/api.ErrBytes", laid_tessera_api_ErrBytes), ("tessera/api.ErrSum", laid_tessera_api_ErrSum), ("tessera/api.ErrNumber", laid_tessera_api_ErrNumber), ("tessera/api.ErrDrive", laid_tessera_api_ErrDrive), ("tessera/api.ErrSlot", laid_tessera_api_ErrSlot), ("tessera/api.ErrMedia", laid_tessera_api_ErrMedia), ("tessera/api.ErrDown", laid_tessera_api_ErrDown), ("tessera/api.ErrFull", laid_tessera_api_ErrFull), ("tessera/api.ErrName", laid_tessera_api_ErrName), ("tessera/api.ErrGone", laid_tessera_api_ErrGone), ("tessera/api.ErrLarge", laid_tessera_api_ErrLarge), ("tessera/api.ErrBlank", laid_tessera_api_ErrBlank), ("tessera/api.ErrCatalog", laid_tessera_api_ErrCatalog), ("tessera/api.ErrCommand", laid_tessera_api_ErrCommand), ("tessera/api.ErrWorn", laid_tessera_api_ErrWorn), ("tessera/api.ErrMany", laid_tessera_api_ErrMany)] }
def CodeAnyShardsSaid : Prop := codeAnyShardsRow.holds Tryd.pinned (OpenSpec.ofChange codeAnyShardsSpec)

/-- ITS FALSE NEIGHBOUR: 'it returns false'. Refute it at one input. -/
def codeAnyShardsWrong : ChangeSpec := { name := "codeAnyShards", fn := fun _ => fun
  | [d] => { results := [.lit (.bool false)], args := [d] }
  | _ => none }
def CodeAnyShardsWrongFalsely : Prop := codeAnyShardsRow.holds Tryd.pinned (OpenSpec.ofChange codeAnyShardsWrong)

/-- 'tesseralaw07.CodeLinear': WHATEVER THE INPUT: true; the input reads as it did. -/
def codeLinearSpec : ChangeSpec := { name := "codeLinear", fn := fun _ => fun
  | [d] => { results := [.lit (.bool true)], args := [d] }
  | _ => none }
def codeLinearRow : OpenClaim := { program := "ytmlpijlcpeoeaaadoor", sum := "58587795e86905a37464faa8532f1ecfefd43872d503aa7f45a0ba5db052fd14", func := "tessera/tesseralaw07.CodeLinear", spec := "codeLinear", unfollowed := true, recurses := true, named := ["tessera/api.ErrParams", "tessera/api.ErrShape", "tessera/api.ErrNumber", "tessera/api.ErrLarge", "tessera/api.ErrData"], apart := false, laid := [("tessera/api.ErrParams", laid_tessera_api_ErrParams), ("tessera/api.ErrShape", laid_tessera_api_ErrShape), ("tessera/api.ErrData", laid_tessera_api_ErrData), ("tessera/api.ErrNumber", laid_tessera_api_ErrNumber), ("tessera/api.ErrLarge", laid_tessera_api_ErrLarge)] }
def CodeLinearSaid : Prop := codeLinearRow.holds Tryd.pinned (OpenSpec.ofChange codeLinearSpec)

/-- ITS FALSE NEIGHBOUR: 'it returns false'. Refute it at one input. -/
def codeLinearWrong : ChangeSpec := { name := "codeLinear", fn := fun _ => fun
  | [d] => { results := [.lit (.bool false)], args := [d] }
  | _ => none }
def CodeLinearWrongFalsely : Prop := codeLinearRow.holds Tryd.pinned (OpenSpec.ofChange codeLinearWrong)

/-- 'tesseralaw07.CodeCheap': WHATEVER THE INPUT: true; the input reads as it did. -/
def codeCheapSpec : ChangeSpec := { name := "codeCheap", fn := fun _ => fun
  | [d1, d2, d3] => { results := [.lit (.bool true)], args := [d1, d2, d3] }
  | _ => none }
def codeCheapRow : OpenClaim := { program := "ytmlpijlcpeoeaaadoor", sum := "58587795e86905a37464faa8532f1ecfefd43872d503aa7f45a0ba5db052fd14", func := "tessera/tesseralaw07.CodeCheap", spec := "codeCheap", unfollowed := true, recurses := true, named := ["tessera/api.ErrParams", "tessera/api.ErrShape", "tessera/api.ErrNumber", "tessera/api.ErrLarge"], apart := false, laid := [("tessera/api.ErrParams", laid_tessera_api_ErrParams), ("tessera/api.ErrShape", laid_tessera_api_ErrShape), ("tessera/api.ErrNumber", laid_tessera_api_ErrNumber), ("tessera/api.ErrLarge", laid_tessera_api_ErrLarge)] }
def CodeCheapSaid : Prop := codeCheapRow.holds Tryd.pinned (OpenSpec.ofChange codeCheapSpec)

/-- ITS FALSE NEIGHBOUR: 'it returns false'. Refute it at one input. -/
def codeCheapWrong : ChangeSpec := { name := "codeCheap", fn := fun _ => fun
  | [d1, d2, d3] => { results := [.lit (.bool false)], args := [d1, d2, d3] }
  | _ => none }
def CodeCheapWrongFalsely : Prop := codeCheapRow.holds Tryd.pinned (OpenSpec.ofChange codeCheapWrong)

/- THE SECOND FORM. 'bulk': how many values and letters a reading holds, each counted each time it is reached (what is shared counts as often as it is met; a slice's spare places count too). A statement '..UptoSaid' is the law's where the arguments, and the package variables that the reading takes, are together of bulk at most 1048576: NARROWER than '..Said'. Prove '..Said' where nothing that the law and all that it calls make is longer than what came in: it says more and counts as full. Else prove '..UptoSaid'. A law counts once. -/
mutual
def uptoBulk {H : Type} : DataW H → Nat
  | .lit (.string bytes) => bytes.length + 1
  | .lit _ => 1
  | .nil => 1
  | .ptr d => uptoBulk d + 1
  | .slice elems spare => uptoBulkAll elems + uptoBulkAll spare + 1
  | .agg parts => uptoBulkAll parts + 1
  | .iface _ d => uptoBulk d + 1
  | .map entries => uptoBulkEntries entries + 1
  | .held _ => 1
def uptoBulkAll {H : Type} : List (DataW H) → Nat
  | [] => 0
  | d :: r => uptoBulk d + uptoBulkAll r
def uptoBulkEntries {H : Type} : List (Lit × DataW H) → Nat
  | [] => 0
  | x :: r => uptoBulkEntry x + uptoBulkEntries r
def uptoBulkEntry {H : Type} : Lit × DataW H → Nat
  | (.string bytes, d) => bytes.length + uptoBulk d + 1
  | (_, d) => uptoBulk d + 1
 end
def uptoSmall : (H : Type) → List (DataW H) → Bool := fun _ ds => decide (uptoBulkAll ds ≤ 1048576)
def OpenSpec.upto (s : _root_.Go.ChangeSpec) : _root_.Go.OpenSpec := { _root_.Go.OpenSpec.ofChange s with cond := some uptoSmall }

/-- 'tesseralaw07.CodeEncodes', WHERE WHAT IT READS IS OF BULK AT MOST 1048576: true; the input reads as it did. -/
def codeEncodesUptoRow : OpenClaim := { program := "ytmlpijlcpeoeaaadoor", sum := "58587795e86905a37464faa8532f1ecfefd43872d503aa7f45a0ba5db052fd14", func := "tessera/tesseralaw07.CodeEncodes", spec := "codeEncodes", unfollowed := true, recurses := true, named := ["tessera/api.ErrParams", "tessera/api.ErrShape", "tessera/api.ErrNumber", "tessera/api.ErrLarge", "tessera/api.ErrSingular", "tessera/api.ErrHalf", "tessera/api.ErrData", "tessera/api.ErrLost", "tessera/api.ErrProgram", "tessera/api.ErrThere", "tessera/api.ErrEmpty", "tessera/api.ErrBytes", "tessera/api.ErrSum", "tessera/api.ErrDrive", "tessera/api.ErrSlot", "tessera/api.ErrMedia", "tessera/api.ErrDown", "tessera/api.ErrFull", "tessera/api.ErrName", "tessera/api.ErrGone", "tessera/api.ErrBlank", "tessera/api.ErrCatalog", "tessera/api.ErrCommand", "tessera/api.ErrWorn", "tessera/api.ErrMany"], apart := false, laid := [("tessera/api.ErrParams", laid_tessera_api_ErrParams), ("tessera/api.ErrShape", laid_tessera_api_ErrShape), ("tessera/api.ErrSingular", laid_tessera_api_ErrSingular), ("tessera/api.ErrHalf", laid_tessera_api_ErrHalf), ("tessera/api.ErrData", laid_tessera_api_ErrData), ("tessera/api.ErrLost", laid_tessera_api_ErrLost), ("tessera/api.ErrProgram", laid_tessera_api_ErrProgram), ("tessera/api.ErrThere", laid_tessera_api_ErrThere), ("tessera/api.ErrEmpty", laid_tessera_api_ErrEmpty), ("tessera/api.ErrBytes", laid_tessera_api_ErrBytes), ("tessera/api.ErrSum", laid_tessera_api_ErrSum), ("tessera/api.ErrNumber", laid_tessera_api_ErrNumber), ("tessera/api.ErrDrive", laid_tessera_api_ErrDrive), ("tessera/api.ErrSlot", laid_tessera_api_ErrSlot), ("tessera/api.ErrMedia", laid_tessera_api_ErrMedia), ("tessera/api.ErrDown", laid_tessera_api_ErrDown), ("tessera/api.ErrFull", laid_tessera_api_ErrFull), ("tessera/api.ErrName", laid_tessera_api_ErrName), ("tessera/api.ErrGone", laid_tessera_api_ErrGone), ("tessera/api.ErrLarge", laid_tessera_api_ErrLarge), ("tessera/api.ErrBlank", laid_tessera_api_ErrBlank), ("tessera/api.ErrCatalog", laid_tessera_api_ErrCatalog), ("tessera/api.ErrCommand", laid_tessera_api_ErrCommand), ("tessera/api.ErrWorn", laid_tessera_api_ErrWorn), ("tessera/api.ErrMany", laid_tessera_api_ErrMany)], narrowed := true }
def CodeEncodesUptoSaid : Prop := codeEncodesUptoRow.holds Tryd.pinned (OpenSpec.upto codeEncodesSpec)

/-- 'tesseralaw07.CodeDecodes', WHERE WHAT IT READS IS OF BULK AT MOST 1048576: true; the input reads as it did. -/
def codeDecodesUptoRow : OpenClaim := { program := "ytmlpijlcpeoeaaadoor", sum := "58587795e86905a37464faa8532f1ecfefd43872d503aa7f45a0ba5db052fd14", func := "tessera/tesseralaw07.CodeDecodes", spec := "codeDecodes", unfollowed := true, recurses := true, named := ["tessera/api.ErrParams", "tessera/api.ErrShape", "tessera/api.ErrNumber", "tessera/api.ErrLarge", "tessera/api.ErrData", "tessera/api.ErrHalf", "tessera/api.ErrSingular", "tessera/api.ErrLost", "tessera/api.ErrProgram", "tessera/api.ErrThere", "tessera/api.ErrEmpty", "tessera/api.ErrBytes", "tessera/api.ErrSum", "tessera/api.ErrDrive", "tessera/api.ErrSlot", "tessera/api.ErrMedia", "tessera/api.ErrDown", "tessera/api.ErrFull", "tessera/api.ErrName", "tessera/api.ErrGone", "tessera/api.ErrBlank", "tessera/api.ErrCatalog", "tessera/api.ErrCommand", "tessera/api.ErrWorn", "tessera/api.ErrMany"], apart := false, laid := [("tessera/api.ErrParams", laid_tessera_api_ErrParams), ("tessera/api.ErrShape", laid_tessera_api_ErrShape), ("tessera/api.ErrSingular", laid_tessera_api_ErrSingular), ("tessera/api.ErrHalf", laid_tessera_api_ErrHalf), ("tessera/api.ErrData", laid_tessera_api_ErrData), ("tessera/api.ErrLost", laid_tessera_api_ErrLost), ("tessera/api.ErrProgram", laid_tessera_api_ErrProgram), ("tessera/api.ErrThere", laid_tessera_api_ErrThere), ("tessera/api.ErrEmpty", laid_tessera_api_ErrEmpty), ("tessera/api.ErrBytes", laid_tessera_api_ErrBytes), ("tessera/api.ErrSum", laid_tessera_api_ErrSum), ("tessera/api.ErrNumber", laid_tessera_api_ErrNumber), ("tessera/api.ErrDrive", laid_tessera_api_ErrDrive), ("tessera/api.ErrSlot", laid_tessera_api_ErrSlot), ("tessera/api.ErrMedia", laid_tessera_api_ErrMedia), ("tessera/api.ErrDown", laid_tessera_api_ErrDown), ("tessera/api.ErrFull", laid_tessera_api_ErrFull), ("tessera/api.ErrName", laid_tessera_api_ErrName), ("tessera/api.ErrGone", laid_tessera_api_ErrGone), ("tessera/api.ErrLarge", laid_tessera_api_ErrLarge), ("tessera/api.ErrBlank", laid_tessera_api_ErrBlank), ("tessera/api.ErrCatalog", laid_tessera_api_ErrCatalog), ("tessera/api.ErrCommand", laid_tessera_api_ErrCommand), ("tessera/api.ErrWorn", laid_tessera_api_ErrWorn), ("tessera/api.ErrMany", laid_tessera_api_ErrMany)], narrowed := true }
def CodeDecodesUptoSaid : Prop := codeDecodesUptoRow.holds Tryd.pinned (OpenSpec.upto codeDecodesSpec)

/-- 'tesseralaw07.CodeFits', WHERE WHAT IT READS IS OF BULK AT MOST 1048576: true; the input reads as it did. -/
def codeFitsUptoRow : OpenClaim := { program := "ytmlpijlcpeoeaaadoor", sum := "58587795e86905a37464faa8532f1ecfefd43872d503aa7f45a0ba5db052fd14", func := "tessera/tesseralaw07.CodeFits", spec := "codeFits", unfollowed := true, recurses := true, named := ["tessera/api.ErrParams", "tessera/api.ErrData", "tessera/api.ErrShape", "tessera/api.ErrNumber", "tessera/api.ErrLarge"], apart := false, laid := [("tessera/api.ErrParams", laid_tessera_api_ErrParams), ("tessera/api.ErrShape", laid_tessera_api_ErrShape), ("tessera/api.ErrData", laid_tessera_api_ErrData), ("tessera/api.ErrNumber", laid_tessera_api_ErrNumber), ("tessera/api.ErrLarge", laid_tessera_api_ErrLarge)], narrowed := true }
def CodeFitsUptoSaid : Prop := codeFitsUptoRow.holds Tryd.pinned (OpenSpec.upto codeFitsSpec)

/-- 'tesseralaw07.CodeAnyShards', WHERE WHAT IT READS IS OF BULK AT MOST 1048576: true; the input reads as it did. -/
def codeAnyShardsUptoRow : OpenClaim := { program := "ytmlpijlcpeoeaaadoor", sum := "58587795e86905a37464faa8532f1ecfefd43872d503aa7f45a0ba5db052fd14", func := "tessera/tesseralaw07.CodeAnyShards", spec := "codeAnyShards", unfollowed := true, recurses := true, named := ["tessera/api.ErrParams", "tessera/api.ErrShape", "tessera/api.ErrNumber", "tessera/api.ErrLarge", "tessera/api.ErrSingular", "tessera/api.ErrHalf", "tessera/api.ErrData", "tessera/api.ErrLost", "tessera/api.ErrProgram", "tessera/api.ErrThere", "tessera/api.ErrEmpty", "tessera/api.ErrBytes", "tessera/api.ErrSum", "tessera/api.ErrDrive", "tessera/api.ErrSlot", "tessera/api.ErrMedia", "tessera/api.ErrDown", "tessera/api.ErrFull", "tessera/api.ErrName", "tessera/api.ErrGone", "tessera/api.ErrBlank", "tessera/api.ErrCatalog", "tessera/api.ErrCommand", "tessera/api.ErrWorn", "tessera/api.ErrMany"], apart := false, laid := [("tessera/api.ErrParams", laid_tessera_api_ErrParams), ("tessera/api.ErrShape", laid_tessera_api_ErrShape), ("tessera/api.ErrSingular", laid_tessera_api_ErrSingular), ("tessera/api.ErrHalf", laid_tessera_api_ErrHalf), ("tessera/api.ErrData", laid_tessera_api_ErrData), ("tessera/api.ErrLost", laid_tessera_api_ErrLost), ("tessera/api.ErrProgram", laid_tessera_api_ErrProgram), ("tessera/api.ErrThere", laid_tessera_api_ErrThere), ("tessera/api.ErrEmpty", laid_tessera_api_ErrEmpty), ("tessera/api.ErrBytes", laid_tessera_api_ErrBytes), ("tessera/api.ErrSum", laid_tessera_api_ErrSum), ("tessera/api.ErrNumber", laid_tessera_api_ErrNumber), ("tessera/api.ErrDrive", laid_tessera_api_ErrDrive), ("tessera/api.ErrSlot", laid_tessera_api_ErrSlot), ("tessera/api.ErrMedia", laid_tessera_api_ErrMedia), ("tessera/api.ErrDown", laid_tessera_api_ErrDown), ("tessera/api.ErrFull", laid_tessera_api_ErrFull), ("tessera/api.ErrName", laid_tessera_api_ErrName), ("tessera/api.ErrGone", laid_tessera_api_ErrGone), ("tessera/api.ErrLarge", laid_tessera_api_ErrLarge), ("tessera/api.ErrBlank", laid_tessera_api_ErrBlank), ("tessera/api.ErrCatalog", laid_tessera_api_ErrCatalog), ("tessera/api.ErrCommand", laid_tessera_api_ErrCommand), ("tessera/api.ErrWorn", laid_tessera_api_ErrWorn), ("tessera/api.ErrMany", laid_tessera_api_ErrMany)], narrowed := true }
def CodeAnyShardsUptoSaid : Prop := codeAnyShardsUptoRow.holds Tryd.pinned (OpenSpec.upto codeAnyShardsSpec)

/-- 'tesseralaw07.CodeLinear', WHERE WHAT IT READS IS OF BULK AT MOST 1048576: true; the input reads as it did. -/
def codeLinearUptoRow : OpenClaim := { program := "ytmlpijlcpeoeaaadoor", sum := "58587795e86905a37464faa8532f1ecfefd43872d503aa7f45a0ba5db052fd14", func := "tessera/tesseralaw07.CodeLinear", spec := "codeLinear", unfollowed := true, recurses := true, named := ["tessera/api.ErrParams", "tessera/api.ErrShape", "tessera/api.ErrNumber", "tessera/api.ErrLarge", "tessera/api.ErrData"], apart := false, laid := [("tessera/api.ErrParams", laid_tessera_api_ErrParams), ("tessera/api.ErrShape", laid_tessera_api_ErrShape), ("tessera/api.ErrData", laid_tessera_api_ErrData), ("tessera/api.ErrNumber", laid_tessera_api_ErrNumber), ("tessera/api.ErrLarge", laid_tessera_api_ErrLarge)], narrowed := true }
def CodeLinearUptoSaid : Prop := codeLinearUptoRow.holds Tryd.pinned (OpenSpec.upto codeLinearSpec)

/-- 'tesseralaw07.CodeCheap', WHERE WHAT IT READS IS OF BULK AT MOST 1048576: true; the input reads as it did. -/
def codeCheapUptoRow : OpenClaim := { program := "ytmlpijlcpeoeaaadoor", sum := "58587795e86905a37464faa8532f1ecfefd43872d503aa7f45a0ba5db052fd14", func := "tessera/tesseralaw07.CodeCheap", spec := "codeCheap", unfollowed := true, recurses := true, named := ["tessera/api.ErrParams", "tessera/api.ErrShape", "tessera/api.ErrNumber", "tessera/api.ErrLarge"], apart := false, laid := [("tessera/api.ErrParams", laid_tessera_api_ErrParams), ("tessera/api.ErrShape", laid_tessera_api_ErrShape), ("tessera/api.ErrNumber", laid_tessera_api_ErrNumber), ("tessera/api.ErrLarge", laid_tessera_api_ErrLarge)], narrowed := true }
def CodeCheapUptoSaid : Prop := codeCheapUptoRow.holds Tryd.pinned (OpenSpec.upto codeCheapSpec)

end Rows
end Go.Proofs.YtmlpijlcpeoeaaaDoor
