/-
  NARROWER THAN 'FOR EVERY INPUT', by the rows' own cells (each row's printed sentence says how): ProgTells: laid · ExecPlays: laid · ExecDoes: laid · ExecMeans: laid.
  DERIVED. THE GIVEN ROWS OF THIS SEAT. 4 by the template 'for every input the law returns true; each argument reads behind the call as it read before'; 0 by the template 'total and deterministic' (their statements: YtanmgpgiepkogaaDoorTotals.lean).
  GIVEN WITH THE SEED: the statements are not yours to turn. If you find one false, say at which input.
  Laid BY PROGRAM, IN A SANDBOX (cutbox-rows.mjs): the forced cells as the released guide's own fill.sh prints them over the translation 32d5756b3b3adf25… (all of the seat's roots in one cut). By AI agents, Wed Nov 11 2026. No macro, syntax, notation, axiom, sorry.
-/
import Derived.Test.YtanmgpgiepkogaaDoorChecked
import GoSem.Claim
import GoSem.ClaimJoined
import GoSem.ClaimMapViews
import Derived.JoinedTies
import Derived.KernelRfl
namespace Go.Proofs.YtanmgpgiepkogaaDoor
/- THE CELL 'sum', in the pinned program and in every row, IS THE sha256 OF THE DUMP (.gsa) THAT YtanmgpgiepkogaaDoorProg.lean LOADS. Nothing in Lean hashes anything: it is a label: what it is worth is what the hold of that sum in a sandbox is worth. -/
noncomputable def Tryd.pinned : Pinned := { name := "ytanmgpgiepkogaadoor", sum := "32d5756b3b3adf252bec75a41a739430761305fde3a11faedf114764ce191d45", checked := Tryd.checked }
namespace Rows
def none {H : Type} : Left H := { results := [], args := [] }

/- WHAT THE LISTED PACKAGE-LEVEL VARIABLES READ AS WHEN THE CALL BEGINS. Each datum BY PROGRAM (the guide's laid-datum.mjs) off the statement by which the dump's own 'gosem.cut.vars' lays the variable. In a bare row this is a premise. The card (YtanmgpgiepkogaaDoorCards.lean) ties it to the program's text. -/
def laid_math_bits_deBruijn32tab {H : Type} : DataW H := .agg [.lit (.int .u8 0), .lit (.int .u8 1), .lit (.int .u8 28), .lit (.int .u8 2), .lit (.int .u8 29), .lit (.int .u8 14), .lit (.int .u8 24), .lit (.int .u8 3), .lit (.int .u8 30), .lit (.int .u8 22), .lit (.int .u8 20), .lit (.int .u8 15), .lit (.int .u8 25), .lit (.int .u8 17), .lit (.int .u8 4), .lit (.int .u8 8), .lit (.int .u8 31), .lit (.int .u8 27), .lit (.int .u8 13), .lit (.int .u8 23), .lit (.int .u8 21), .lit (.int .u8 19), .lit (.int .u8 16), .lit (.int .u8 7), .lit (.int .u8 26), .lit (.int .u8 12), .lit (.int .u8 18), .lit (.int .u8 6), .lit (.int .u8 11), .lit (.int .u8 5), .lit (.int .u8 10), .lit (.int .u8 9)]
def laid_math_bits_deBruijn64tab {H : Type} : DataW H := .agg [.lit (.int .u8 0), .lit (.int .u8 1), .lit (.int .u8 56), .lit (.int .u8 2), .lit (.int .u8 57), .lit (.int .u8 49), .lit (.int .u8 28), .lit (.int .u8 3), .lit (.int .u8 61), .lit (.int .u8 58), .lit (.int .u8 42), .lit (.int .u8 50), .lit (.int .u8 38), .lit (.int .u8 29), .lit (.int .u8 17), .lit (.int .u8 4), .lit (.int .u8 62), .lit (.int .u8 47), .lit (.int .u8 59), .lit (.int .u8 36), .lit (.int .u8 45), .lit (.int .u8 43), .lit (.int .u8 51), .lit (.int .u8 22), .lit (.int .u8 53), .lit (.int .u8 39), .lit (.int .u8 33), .lit (.int .u8 30), .lit (.int .u8 24), .lit (.int .u8 18), .lit (.int .u8 12), .lit (.int .u8 5), .lit (.int .u8 63), .lit (.int .u8 55), .lit (.int .u8 48), .lit (.int .u8 27), .lit (.int .u8 60), .lit (.int .u8 41), .lit (.int .u8 37), .lit (.int .u8 16), .lit (.int .u8 46), .lit (.int .u8 35), .lit (.int .u8 44), .lit (.int .u8 21), .lit (.int .u8 52), .lit (.int .u8 32), .lit (.int .u8 23), .lit (.int .u8 11), .lit (.int .u8 54), .lit (.int .u8 26), .lit (.int .u8 40), .lit (.int .u8 15), .lit (.int .u8 34), .lit (.int .u8 20), .lit (.int .u8 31), .lit (.int .u8 10), .lit (.int .u8 25), .lit (.int .u8 14), .lit (.int .u8 19), .lit (.int .u8 9), .lit (.int .u8 13), .lit (.int .u8 8), .lit (.int .u8 7), .lit (.int .u8 6)]
def laid_internal_strconv_uint64pow10 {H : Type} : DataW H := .agg [.lit (.int .u64 1), .lit (.int .u64 10), .lit (.int .u64 100), .lit (.int .u64 1000), .lit (.int .u64 10000), .lit (.int .u64 100000), .lit (.int .u64 1000000), .lit (.int .u64 10000000), .lit (.int .u64 100000000), .lit (.int .u64 1000000000), .lit (.int .u64 10000000000), .lit (.int .u64 100000000000), .lit (.int .u64 1000000000000), .lit (.int .u64 10000000000000), .lit (.int .u64 100000000000000), .lit (.int .u64 1000000000000000), .lit (.int .u64 10000000000000000), .lit (.int .u64 100000000000000000), .lit (.int .u64 1000000000000000000), .lit (.int .u64 10000000000000000000)]
def laid_tessera_api_ErrShape {H : Type} : DataW H := .iface "*errors.errorString" (.ptr (.agg [.lit (.string [116, 101, 115, 115, 101, 114, 97, 58, 32, 115, 104, 97, 112, 101])]))
def laid_tessera_api_ErrProgram {H : Type} : DataW H := .iface "*errors.errorString" (.ptr (.agg [.lit (.string [116, 101, 115, 115, 101, 114, 97, 58, 32, 112, 114, 111, 103, 114, 97, 109])]))
def laid_tessera_api_ErrParams {H : Type} : DataW H := .iface "*errors.errorString" (.ptr (.agg [.lit (.string [116, 101, 115, 115, 101, 114, 97, 58, 32, 112, 97, 114, 97, 109, 115])]))
def laid_tessera_api_ErrSingular {H : Type} : DataW H := .iface "*errors.errorString" (.ptr (.agg [.lit (.string [116, 101, 115, 115, 101, 114, 97, 58, 32, 115, 105, 110, 103, 117, 108, 97, 114])]))
def laid_tessera_api_ErrHalf {H : Type} : DataW H := .iface "*errors.errorString" (.ptr (.agg [.lit (.string [116, 101, 115, 115, 101, 114, 97, 58, 32, 104, 97, 108, 102])]))
def laid_tessera_api_ErrData {H : Type} : DataW H := .iface "*errors.errorString" (.ptr (.agg [.lit (.string [116, 101, 115, 115, 101, 114, 97, 58, 32, 100, 97, 116, 97])]))
def laid_tessera_api_ErrLost {H : Type} : DataW H := .iface "*errors.errorString" (.ptr (.agg [.lit (.string [116, 101, 115, 115, 101, 114, 97, 58, 32, 108, 111, 115, 116])]))
def laid_tessera_api_ErrThere {H : Type} : DataW H := .iface "*errors.errorString" (.ptr (.agg [.lit (.string [116, 101, 115, 115, 101, 114, 97, 58, 32, 116, 104, 101, 114, 101])]))
def laid_tessera_api_ErrEmpty {H : Type} : DataW H := .iface "*errors.errorString" (.ptr (.agg [.lit (.string [116, 101, 115, 115, 101, 114, 97, 58, 32, 101, 109, 112, 116, 121])]))
def laid_tessera_api_ErrBytes {H : Type} : DataW H := .iface "*errors.errorString" (.ptr (.agg [.lit (.string [116, 101, 115, 115, 101, 114, 97, 58, 32, 98, 121, 116, 101, 115])]))
def laid_tessera_api_ErrSum {H : Type} : DataW H := .iface "*errors.errorString" (.ptr (.agg [.lit (.string [116, 101, 115, 115, 101, 114, 97, 58, 32, 115, 117, 109])]))
def laid_tessera_api_ErrNumber {H : Type} : DataW H := .iface "*errors.errorString" (.ptr (.agg [.lit (.string [116, 101, 115, 115, 101, 114, 97, 58, 32, 110, 117, 109, 98, 101, 114])]))
def laid_tessera_api_ErrDrive {H : Type} : DataW H := .iface "*errors.errorString" (.ptr (.agg [.lit (.string [116, 101, 115, 115, 101, 114, 97, 58, 32, 100, 114, 105, 118, 101])]))
def laid_tessera_api_ErrSlot {H : Type} : DataW H := .iface "*errors.errorString" (.ptr (.agg [.lit (.string [116, 101, 115, 115, 101, 114, 97, 58, 32, 115, 108, 111, 116])]))
def laid_tessera_api_ErrMedia {H : Type} : DataW H := .iface "*errors.errorString" (.ptr (.agg [.lit (.string [116, 101, 115, 115, 101, 114, 97, 58, 32, 109, 101, 100, 105, 97])]))
def laid_tessera_api_ErrDown {H : Type} : DataW H := .iface "*errors.errorString" (.ptr (.agg [.lit (.string [116, 101, 115, 115, 101, 114, 97, 58, 32, 100, 111, 119, 110])]))
def laid_tessera_api_ErrFull {H : Type} : DataW H := .iface "*errors.errorString" (.ptr (.agg [.lit (.string [116, 101, 115, 115, 101, 114, 97, 58, 32, 102, 117, 108, 108])]))
def laid_tessera_api_ErrName {H : Type} : DataW H := .iface "*errors.errorString" (.ptr (.agg [.lit (.string [116, 101, 115, 115, 101, 114, 97, 58, 32, 110, 97, 109, 101])]))
def laid_tessera_api_ErrGone {H : Type} : DataW H := .iface "*errors.errorString" (.ptr (.agg [.lit (.string [116, 101, 115, 115, 101, 114, 97, 58, 32, 103, 111, 110, 101])]))
def laid_tessera_api_ErrLarge {H : Type} : DataW H := .iface "*errors.errorString" (.ptr (.agg [.lit (.string [116, 101, 115, 115, 101, 114, 97, 58, 32, 108, 97, 114, 103, 101])]))
def laid_tessera_api_ErrBlank {H : Type} : DataW H := .iface "*errors.errorString" (.ptr (.agg [.lit (.string [116, 101, 115, 115, 101, 114, 97, 58, 32, 98, 108, 97, 110, 107])]))
def laid_tessera_api_ErrCatalog {H : Type} : DataW H := .iface "*errors.errorString" (.ptr (.agg [.lit (.string [116, 101, 115, 115, 101, 114, 97, 58, 32, 99, 97, 116, 97, 108, 111, 103])]))
def laid_tessera_api_ErrCommand {H : Type} : DataW H := .iface "*errors.errorString" (.ptr (.agg [.lit (.string [116, 101, 115, 115, 101, 114, 97, 58, 32, 99, 111, 109, 109, 97, 110, 100])]))
def laid_tessera_api_ErrWorn {H : Type} : DataW H := .iface "*errors.errorString" (.ptr (.agg [.lit (.string [116, 101, 115, 115, 101, 114, 97, 58, 32, 119, 111, 114, 110])]))
def laid_tessera_api_ErrMany {H : Type} : DataW H := .iface "*errors.errorString" (.ptr (.agg [.lit (.string [116, 101, 115, 115, 101, 114, 97, 58, 32, 109, 97, 110, 121])]))

/-- 'tesseralaw09.ProgTells': WHATEVER THE INPUT: true; the input reads as it did. -/
def progTellsSpec : ChangeSpec := { name := "progTells", fn := fun _ => fun
  | [d] => { results := [.lit (.bool true)], args := [d] }
  | _ => none }
def progTellsRow : OpenClaim := { program := "ytanmgpgiepkogaadoor", sum := "32d5756b3b3adf252bec75a41a739430761305fde3a11faedf114764ce191d45", func := "tessera/tesseralaw09.ProgTells", spec := "progTells", inPlace := ["internal/abi.NoEscape", "internal/bytealg.MakeNoZero"], unfollowed := true, recurses := true, named := ["tessera/api.ErrProgram", "tessera/api.ErrShape", "internal/strconv.uint64pow10", "math/bits.deBruijn32tab", "math/bits.deBruijn64tab"], apart := false, laid := [("math/bits.deBruijn32tab", laid_math_bits_deBruijn32tab), ("math/bits.deBruijn64tab", laid_math_bits_deBruijn64tab), ("internal/strconv.uint64pow10", laid_internal_strconv_uint64pow10), ("tessera/api.ErrShape", laid_tessera_api_ErrShape), ("tessera/api.ErrProgram", laid_tessera_api_ErrProgram)] }
def ProgTellsSaid : Prop := progTellsRow.holds Tryd.pinned (OpenSpec.ofChange progTellsSpec)

/-- ITS FALSE NEIGHBOUR: 'it returns false'. Refute it at one input. -/
def progTellsWrong : ChangeSpec := { name := "progTells", fn := fun _ => fun
  | [d] => { results := [.lit (.bool false)], args := [d] }
  | _ => none }
def ProgTellsWrongFalsely : Prop := progTellsRow.holds Tryd.pinned (OpenSpec.ofChange progTellsWrong)

/-- 'tesseralaw10.ExecPlays': WHATEVER THE INPUT: true; the input reads as it did. -/
def execPlaysSpec : ChangeSpec := { name := "execPlays", fn := fun _ => fun
  | [d1, d2, d3] => { results := [.lit (.bool true)], args := [d1, d2, d3] }
  | _ => none }
def execPlaysRow : OpenClaim := { program := "ytanmgpgiepkogaadoor", sum := "32d5756b3b3adf252bec75a41a739430761305fde3a11faedf114764ce191d45", func := "tessera/tesseralaw10.ExecPlays", spec := "execPlays", unfollowed := true, recurses := true, named := ["tessera/api.ErrNumber", "tessera/api.ErrProgram", "tessera/api.ErrData", "tessera/api.ErrHalf", "tessera/api.ErrThere", "tessera/api.ErrEmpty", "tessera/api.ErrParams", "tessera/api.ErrShape", "tessera/api.ErrSingular", "tessera/api.ErrLost", "tessera/api.ErrBytes", "tessera/api.ErrSum", "tessera/api.ErrDrive", "tessera/api.ErrSlot", "tessera/api.ErrMedia", "tessera/api.ErrDown", "tessera/api.ErrFull", "tessera/api.ErrName", "tessera/api.ErrGone", "tessera/api.ErrLarge", "tessera/api.ErrBlank", "tessera/api.ErrCatalog", "tessera/api.ErrCommand", "tessera/api.ErrWorn", "tessera/api.ErrMany"], apart := false, laid := [("tessera/api.ErrParams", laid_tessera_api_ErrParams), ("tessera/api.ErrShape", laid_tessera_api_ErrShape), ("tessera/api.ErrSingular", laid_tessera_api_ErrSingular), ("tessera/api.ErrHalf", laid_tessera_api_ErrHalf), ("tessera/api.ErrData", laid_tessera_api_ErrData), ("tessera/api.ErrLost", laid_tessera_api_ErrLost), ("tessera/api.ErrProgram", laid_tessera_api_ErrProgram), ("tessera/api.ErrThere", laid_tessera_api_ErrThere), ("tessera/api.ErrEmpty", laid_tessera_api_ErrEmpty), ("tessera/api.ErrBytes", laid_tessera_api_ErrBytes), ("tessera/api.ErrSum", laid_tessera_api_ErrSum), ("tessera/api.ErrNumber", laid_tessera_api_ErrNumber), ("tessera/api.ErrDrive", laid_tessera_api_ErrDrive), ("tessera/api.ErrSlot", laid_tessera_api_ErrSlot), ("tessera/api.ErrMedia", laid_tessera_api_ErrMedia), ("tessera/api.ErrDown", laid_tessera_api_ErrDown), ("tessera/api.ErrFull", laid_tessera_api_ErrFull), ("tessera/api.ErrName", laid_tessera_api_ErrName), ("tessera/api.ErrGone", laid_tessera_api_ErrGone), ("tessera/api.ErrLarge", laid_tessera_api_ErrLarge), ("tessera/api.ErrBlank", laid_tessera_api_ErrBlank), ("tessera/api.ErrCatalog", laid_tessera_api_ErrCatalog), ("tessera/api.ErrCommand", laid_tessera_api_ErrCommand), ("tessera/api.ErrWorn", laid_tessera_api_ErrWorn), ("tessera/api.ErrMany", laid_tessera_api_ErrMany)] }
def ExecPlaysSaid : Prop := execPlaysRow.holds Tryd.pinned (OpenSpec.ofChange execPlaysSpec)

/-- ITS FALSE NEIGHBOUR: 'it returns false'. Refute it at one input. -/
def execPlaysWrong : ChangeSpec := { name := "execPlays", fn := fun _ => fun
  | [d1, d2, d3] => { results := [.lit (.bool false)], args := [d1, d2, d3] }
  | _ => none }
def ExecPlaysWrongFalsely : Prop := execPlaysRow.holds Tryd.pinned (OpenSpec.ofChange execPlaysWrong)

/-- 'tesseralaw10.ExecDoes': WHATEVER THE INPUT: true; the input reads as it did. -/
def execDoesSpec : ChangeSpec := { name := "execDoes", fn := fun _ => fun
  | [d1, d2, d3] => { results := [.lit (.bool true)], args := [d1, d2, d3] }
  | _ => none }
def execDoesRow : OpenClaim := { program := "ytanmgpgiepkogaadoor", sum := "32d5756b3b3adf252bec75a41a739430761305fde3a11faedf114764ce191d45", func := "tessera/tesseralaw10.ExecDoes", spec := "execDoes", unfollowed := true, recurses := true, named := ["tessera/api.ErrProgram", "tessera/api.ErrNumber", "tessera/api.ErrData", "tessera/api.ErrHalf", "tessera/api.ErrThere", "tessera/api.ErrEmpty"], apart := false, laid := [("tessera/api.ErrHalf", laid_tessera_api_ErrHalf), ("tessera/api.ErrData", laid_tessera_api_ErrData), ("tessera/api.ErrProgram", laid_tessera_api_ErrProgram), ("tessera/api.ErrThere", laid_tessera_api_ErrThere), ("tessera/api.ErrEmpty", laid_tessera_api_ErrEmpty), ("tessera/api.ErrNumber", laid_tessera_api_ErrNumber)] }
def ExecDoesSaid : Prop := execDoesRow.holds Tryd.pinned (OpenSpec.ofChange execDoesSpec)

/-- ITS FALSE NEIGHBOUR: 'it returns false'. Refute it at one input. -/
def execDoesWrong : ChangeSpec := { name := "execDoes", fn := fun _ => fun
  | [d1, d2, d3] => { results := [.lit (.bool false)], args := [d1, d2, d3] }
  | _ => none }
def ExecDoesWrongFalsely : Prop := execDoesRow.holds Tryd.pinned (OpenSpec.ofChange execDoesWrong)

/-- 'tesseralaw10.ExecMeans': WHATEVER THE INPUT: true; the input reads as it did. -/
def execMeansSpec : ChangeSpec := { name := "execMeans", fn := fun _ => fun
  | [d1, d2, d3] => { results := [.lit (.bool true)], args := [d1, d2, d3] }
  | _ => none }
def execMeansRow : OpenClaim := { program := "ytanmgpgiepkogaadoor", sum := "32d5756b3b3adf252bec75a41a739430761305fde3a11faedf114764ce191d45", func := "tessera/tesseralaw10.ExecMeans", spec := "execMeans", unfollowed := true, recurses := true, named := ["tessera/api.ErrNumber", "tessera/api.ErrProgram", "tessera/api.ErrData", "tessera/api.ErrHalf", "tessera/api.ErrThere", "tessera/api.ErrEmpty"], apart := false, laid := [("tessera/api.ErrHalf", laid_tessera_api_ErrHalf), ("tessera/api.ErrData", laid_tessera_api_ErrData), ("tessera/api.ErrProgram", laid_tessera_api_ErrProgram), ("tessera/api.ErrThere", laid_tessera_api_ErrThere), ("tessera/api.ErrEmpty", laid_tessera_api_ErrEmpty), ("tessera/api.ErrNumber", laid_tessera_api_ErrNumber)] }
def ExecMeansSaid : Prop := execMeansRow.holds Tryd.pinned (OpenSpec.ofChange execMeansSpec)

/-- ITS FALSE NEIGHBOUR: 'it returns false'. Refute it at one input. -/
def execMeansWrong : ChangeSpec := { name := "execMeans", fn := fun _ => fun
  | [d1, d2, d3] => { results := [.lit (.bool false)], args := [d1, d2, d3] }
  | _ => none }
def ExecMeansWrongFalsely : Prop := execMeansRow.holds Tryd.pinned (OpenSpec.ofChange execMeansWrong)

/- THE SECOND FORM. 'bulk': how many values and letters a reading holds, each counted each time it is reached (what is shared counts as often as it is met; a slice's spare places count too). A statement '..UptoSaid' is the law's where the arguments, and the package variables that the reading takes, are together of bulk at most 1048576: NARROWER than '..Said'. Prove '..Said' where nothing that the law and all that it calls make is longer than what came in: it says more and counts as full. Else prove '..UptoSaid'. A law counts once. -/
mutual
def uptoBulk {H : Type} : DataW H → Nat
  | .lit (.string bytes) => bytes.length + 1
  | .lit _ => 1
  | .nil => 1
  | .ptr d => uptoBulk d + 1
  | .slice elems spare => uptoBulkAll elems + uptoBulkAll spare + 1
  | .agg parts => uptoBulkAll parts + 1
  | .iface _ d => uptoBulk d + 1
  | .map entries => uptoBulkEntries entries + 1
  | .held _ => 1
def uptoBulkAll {H : Type} : List (DataW H) → Nat
  | [] => 0
  | d :: r => uptoBulk d + uptoBulkAll r
def uptoBulkEntries {H : Type} : List (Lit × DataW H) → Nat
  | [] => 0
  | x :: r => uptoBulkEntry x + uptoBulkEntries r
def uptoBulkEntry {H : Type} : Lit × DataW H → Nat
  | (.string bytes, d) => bytes.length + uptoBulk d + 1
  | (_, d) => uptoBulk d + 1
 end
def uptoSmall : (H : Type) → List (DataW H) → Bool := fun _ ds => decide (uptoBulkAll ds ≤ 1048576)
def OpenSpec.upto (s : _root_.Go.ChangeSpec) : _root_.Go.OpenSpec := { _root_.Go.OpenSpec.ofChange s with cond := some uptoSmall }

/-- 'tesseralaw09.ProgTells', WHERE WHAT IT READS IS OF BULK AT MOST 1048576: true; the input reads as it did. -/
def progTellsUptoRow : OpenClaim := { program := "ytanmgpgiepkogaadoor", sum := "32d5756b3b3adf252bec75a41a739430761305fde3a11faedf114764ce191d45", func := "tessera/tesseralaw09.ProgTells", spec := "progTells", inPlace := ["internal/abi.NoEscape", "internal/bytealg.MakeNoZero"], unfollowed := true, recurses := true, named := ["tessera/api.ErrProgram", "tessera/api.ErrShape", "internal/strconv.uint64pow10", "math/bits.deBruijn32tab", "math/bits.deBruijn64tab"], apart := false, laid := [("math/bits.deBruijn32tab", laid_math_bits_deBruijn32tab), ("math/bits.deBruijn64tab", laid_math_bits_deBruijn64tab), ("internal/strconv.uint64pow10", laid_internal_strconv_uint64pow10), ("tessera/api.ErrShape", laid_tessera_api_ErrShape), ("tessera/api.ErrProgram", laid_tessera_api_ErrProgram)], narrowed := true }
def ProgTellsUptoSaid : Prop := progTellsUptoRow.holds Tryd.pinned (OpenSpec.upto progTellsSpec)

/-- 'tesseralaw10.ExecPlays', WHERE WHAT IT READS IS OF BULK AT MOST 1048576: true; the input reads as it did. -/
def execPlaysUptoRow : OpenClaim := { program := "ytanmgpgiepkogaadoor", sum := "32d5756b3b3adf252bec75a41a739430761305fde3a11faedf114764ce191d45", func := "tessera/tesseralaw10.ExecPlays", spec := "execPlays", unfollowed := true, recurses := true, named := ["tessera/api.ErrNumber", "tessera/api.ErrProgram", "tessera/api.ErrData", "tessera/api.ErrHalf", "tessera/api.ErrThere", "tessera/api.ErrEmpty", "tessera/api.ErrParams", "tessera/api.ErrShape", "tessera/api.ErrSingular", "tessera/api.ErrLost", "tessera/api.ErrBytes", "tessera/api.ErrSum", "tessera/api.ErrDrive", "tessera/api.ErrSlot", "tessera/api.ErrMedia", "tessera/api.ErrDown", "tessera/api.ErrFull", "tessera/api.ErrName", "tessera/api.ErrGone", "tessera/api.ErrLarge", "tessera/api.ErrBlank", "tessera/api.ErrCatalog", "tessera/api.ErrCommand", "tessera/api.ErrWorn", "tessera/api.ErrMany"], apart := false, laid := [("tessera/api.ErrParams", laid_tessera_api_ErrParams), ("tessera/api.ErrShape", laid_tessera_api_ErrShape), ("tessera/api.ErrSingular", laid_tessera_api_ErrSingular), ("tessera/api.ErrHalf", laid_tessera_api_ErrHalf), ("tessera/api.ErrData", laid_tessera_api_ErrData), ("tessera/api.ErrLost", laid_tessera_api_ErrLost), ("tessera/api.ErrProgram", laid_tessera_api_ErrProgram), ("tessera/api.ErrThere", laid_tessera_api_ErrThere), ("tessera/api.ErrEmpty", laid_tessera_api_ErrEmpty), ("tessera/api.ErrBytes", laid_tessera_api_ErrBytes), ("tessera/api.ErrSum", laid_tessera_api_ErrSum), ("tessera/api.ErrNumber", laid_tessera_api_ErrNumber), ("tessera/api.ErrDrive", laid_tessera_api_ErrDrive), ("tessera/api.ErrSlot", laid_tessera_api_ErrSlot), ("tessera/api.ErrMedia", laid_tessera_api_ErrMedia), ("tessera/api.ErrDown", laid_tessera_api_ErrDown), ("tessera/api.ErrFull", laid_tessera_api_ErrFull), ("tessera/api.ErrName", laid_tessera_api_ErrName), ("tessera/api.ErrGone", laid_tessera_api_ErrGone), ("tessera/api.ErrLarge", laid_tessera_api_ErrLarge), ("tessera/api.ErrBlank", laid_tessera_api_ErrBlank), ("tessera/api.ErrCatalog", laid_tessera_api_ErrCatalog), ("tessera/api.ErrCommand", laid_tessera_api_ErrCommand), ("tessera/api.ErrWorn", laid_tessera_api_ErrWorn), ("tessera/api.ErrMany", laid_tessera_api_ErrMany)], narrowed := true }
def ExecPlaysUptoSaid : Prop := execPlaysUptoRow.holds Tryd.pinned (OpenSpec.upto execPlaysSpec)

/-- 'tesseralaw10.ExecDoes', WHERE WHAT IT READS IS OF BULK AT MOST 1048576: true; the input reads as it did. -/
def execDoesUptoRow : OpenClaim := { program := "ytanmgpgiepkogaadoor", sum := "32d5756b3b3adf252bec75a41a739430761305fde3a11faedf114764ce191d45", func := "tessera/tesseralaw10.ExecDoes", spec := "execDoes", unfollowed := true, recurses := true, named := ["tessera/api.ErrProgram", "tessera/api.ErrNumber", "tessera/api.ErrData", "tessera/api.ErrHalf", "tessera/api.ErrThere", "tessera/api.ErrEmpty"], apart := false, laid := [("tessera/api.ErrHalf", laid_tessera_api_ErrHalf), ("tessera/api.ErrData", laid_tessera_api_ErrData), ("tessera/api.ErrProgram", laid_tessera_api_ErrProgram), ("tessera/api.ErrThere", laid_tessera_api_ErrThere), ("tessera/api.ErrEmpty", laid_tessera_api_ErrEmpty), ("tessera/api.ErrNumber", laid_tessera_api_ErrNumber)], narrowed := true }
def ExecDoesUptoSaid : Prop := execDoesUptoRow.holds Tryd.pinned (OpenSpec.upto execDoesSpec)

/-- 'tesseralaw10.ExecMeans', WHERE WHAT IT READS IS OF BULK AT MOST 1048576: true; the input reads as it did. -/
def execMeansUptoRow : OpenClaim := { program := "ytanmgpgiepkogaadoor", sum := "32d5756b3b3adf252bec75a41a739430761305fde3a11faedf114764ce191d45", func := "tessera/tesseralaw10.ExecMeans", spec := "execMeans", unfollowed := true, recurses := true, named := ["tessera/api.ErrNumber", "tessera/api.ErrProgram", "tessera/api.ErrData", "tessera/api.ErrHalf", "tessera/api.ErrThere", "tessera/api.ErrEmpty"], apart := false, laid := [("tessera/api.ErrHalf", laid_tessera_api_ErrHalf), ("tessera/api.ErrData", laid_tessera_api_ErrData), ("tessera/api.ErrProgram", laid_tessera_api_ErrProgram), ("tessera/api.ErrThere", laid_tessera_api_ErrThere), ("tessera/api.ErrEmpty", laid_tessera_api_ErrEmpty), ("tessera/api.ErrNumber", laid_tessera_api_ErrNumber)], narrowed := true }
def ExecMeansUptoSaid : Prop := execMeansUptoRow.holds Tryd.pinned (OpenSpec.upto execMeansSpec)

end Rows
end Go.Proofs.YtanmgpgiepkogaaDoor
