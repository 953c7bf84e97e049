/- What Times, Left and combine of package mat answer, of all matrices in form; nothing that was there turns. -/
import Derived.Test.YtanmgpgiepkogaaDoorMatO
import Derived.Test.YtanmgpgiepkogaaDoorMatS
namespace Go.Proofs.YtanmgpgiepkogaaDoor
open Go.RowKit Gf
set_option linter.unusedVariables false
set_option maxRecDepth 20000
theorem rowF_set {c i : Nat} {f : Nat → F} {x : F} : (rowF c f).set i x = rowF c (fun j => if j = i then x else f j) := by
  refine rowF_eq (by rw [List.length_set, rowF_len]) fun j hj => ?_
  by_cases h : j = i
  · subst h; simp [at8, rowF_len, hj]
  · rw [if_neg h]
    have e : at8 ((rowF c f).set i x) j = at8 (rowF c f) j := by simp [at8, Ne.symm h]
    rw [e, at8_rowF hj]
/-- a column, made as far as row k -/
def colP (r : Nat) (f : Nat → F) (k : Nat) : List F := rowF r (fun i => if i < k then f i else 0)
theorem colP_len (r : Nat) (f : Nat → F) (k : Nat) : (colP r f k).length = r := rowF_len _ _
theorem colP_zero (r : Nat) (f : Nat → F) : zeros r = colP r f 0 := rowF_eq (zeros_len r) fun j hj => by rw [at8_zeros, if_neg (by omega)]
theorem colP_done (r : Nat) (f : Nat → F) : colP r f r = rowF r f := rowF_congr fun j hj => by rw [if_pos hj]
theorem colP_step (r : Nat) (f : Nat → F) (k : Nat) : (colP r f k).set k (f k) = colP r f (k + 1) := by
  rw [colP, rowF_set]
  refine rowF_congr fun j hj => ?_
  by_cases h : j = k
  · subst h; rw [if_pos rfl, if_pos (by omega)]
  · rw [if_neg h]
    by_cases h2 : j < k
    · rw [if_pos h2, if_pos (by omega)]
    · rw [if_neg h2, if_neg (by omega)]
end Go.Proofs.YtanmgpgiepkogaaDoor
