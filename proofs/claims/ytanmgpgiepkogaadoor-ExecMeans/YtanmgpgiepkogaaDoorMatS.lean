/- What InForm, Same, Equal, SameMatrix, SameBytes answer, of all matrices; nothing that was there turns. -/
import Derived.Test.YtanmgpgiepkogaaDoorMatA
namespace Go.Proofs.YtanmgpgiepkogaaDoor
open Go.RowKit Gf
set_option linter.unusedVariables false
set_option maxRecDepth 20000
/-- are the two lists one? -/
def eqB (xs ys : List F) : Bool := decide (xs = ys)
theorem eqB_true (xs : List F) : eqB xs xs = true := by simp [eqB]
theorem str8_eqB (xs ys : List F) : ((str8 xs).toList == (str8 ys).toList) = eqB xs ys := by
  rw [ByteArray.toList_eq, ByteArray.toList_eq]
  show ((xs.toArray).toList == (ys.toArray).toList) = _
  rw [Bool.eq_iff_iff]; simp [eqB]
set_option maxHeartbeats 400000 in
theorem sameMatrix_F (r c : Int) (a b : Option Addr) (la ca lb cb : Nat) (xs ys : List F) (w : World) (hla : la = xs.length) (hlb : lb = ys.length) (hx : Row8 w a xs) (hy : Row8 w b ys) :
    Calls Tryd.prog 19 #[.agg #[.int .i64 r, .int .i64 c, .slice a la ca], .agg #[.int .i64 r, .int .i64 c, .slice b lb cb]] w fun e w' => e = .returned (.bool (eqB xs ys)) ∧ Below w.heap.size w w' := by
  have h1 := fun o1 o2 => conv8 (ca := ca) hla (row8_alloc (row8_alloc hx o1) o2)
  have h2 := fun o1 o2 => conv8 (ca := cb) hlb (row8_alloc (row8_alloc hy o1) o2)
  have h3 := str8_eqB xs ys
  clear hla hlb hx hy
  go_enter Tryd.func19, Tryd.ntmps19
  go_wp2
  go_ret
  exact ⟨rfl, ((Below.refl _ _).alloc (Nat.le_refl _) _).alloc (by simp) _⟩
end Go.Proofs.YtanmgpgiepkogaaDoor
