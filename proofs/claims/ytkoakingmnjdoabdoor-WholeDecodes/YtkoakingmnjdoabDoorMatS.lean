/- What InForm, Same, Equal, SameMatrix, SameBytes answer, of all matrices; nothing that was there turns. -/
import Derived.Test.YtkoakingmnjdoabDoorMatA
namespace Go.Proofs.YtkoakingmnjdoabDoor
open Go.RowKit Gf
set_option linter.unusedVariables false
set_option maxRecDepth 20000
/-- are the two lists one? -/
def eqB (xs ys : List F) : Bool := decide (xs = ys)
theorem eqB_true (xs : List F) : eqB xs xs = true := by simp [eqB]
theorem str8_eqB (xs ys : List F) : ((str8 xs).toList == (str8 ys).toList) = eqB xs ys := by
  rw [ByteArray.toList_eq, ByteArray.toList_eq]
  show ((xs.toArray).toList == (ys.toArray).toList) = _
  rw [Bool.eq_iff_iff]; simp [eqB]
end Go.Proofs.YtkoakingmnjdoabDoor
