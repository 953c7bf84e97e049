/- What InForm, Same, Equal, SameMatrix, SameBytes answer, of all matrices; nothing that was there turns. -/
import Derived.Test.YtkoakingmnjdoaaGreatDoorMatA
namespace Go.Proofs.YtkoakingmnjdoaaGreatDoor
open Go.RowKit Gf
set_option linter.unusedVariables false
set_option maxRecDepth 20000
/-- are the two lists one? -/
def eqB (xs ys : List F) : Bool := decide (xs = ys)
theorem eqB_true (xs : List F) : eqB xs xs = true := by simp [eqB]
theorem str8_eqB (xs ys : List F) : ((str8 xs).toList == (str8 ys).toList) = eqB xs ys := by
  rw [ByteArray.toList_eq, ByteArray.toList_eq]
  show ((xs.toArray).toList == (ys.toArray).toList) = _
  rw [Bool.eq_iff_iff]; simp [eqB]
set_option maxHeartbeats 400000 in
theorem sameBytes_F (a b : Option Addr) (la ca lb cb : Nat) (xs ys : List F) (w : World) (hla : la = xs.length) (hlb : lb = ys.length) (hx : Row8 w a xs) (hy : Row8 w b ys) :
    Calls Tryz.prog 33 #[.slice a la ca, .slice b lb cb] w fun e w' => e = .returned (.bool (eqB xs ys)) ∧ w = w' := by
  have h1 := conv8 (ca := ca) hla hx
  have h2 := conv8 (ca := cb) hlb hy
  have h3 := str8_eqB xs ys
  clear hla hlb hx hy
  go_enter Tryz.func33, Tryz.ntmps33
  go_wp2
  go_ret
  exact ⟨rfl, rfl⟩
end Go.Proofs.YtkoakingmnjdoaaGreatDoor
