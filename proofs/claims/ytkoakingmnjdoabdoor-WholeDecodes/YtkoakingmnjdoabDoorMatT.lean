/- What Transpose of package mat answers, of every matrix in form. -/
import Derived.Test.YtkoakingmnjdoabDoorMatA
namespace Go.Proofs.YtkoakingmnjdoabDoor
open Go.RowKit Gf
set_option linter.unusedVariables false
set_option maxRecDepth 20000
/-- transposed as far as row i, place j -/
def trP (r c : Nat) (xs : List F) (i j : Nat) : List F := grid r (fun b a => if a < i ∨ a = i ∧ b < j then at8 xs (a * c + b) else 0) c
theorem trP_len (r c : Nat) (xs : List F) (i j : Nat) : (trP r c xs i j).length = c * r := grid_len _ _ _
theorem trP_zero (r c : Nat) (xs : List F) : zeros (c * r) = trP r c xs 0 0 := by
  rw [zeros_grid]; exact grid_congr fun b a _ _ => by rw [if_neg (by omega)]
theorem trP_done (r c : Nat) (xs : List F) : trP r c xs r 0 = trM r c xs := grid_congr fun b a _ h => by rw [if_pos (by omega)]
theorem trP_row (r c : Nat) (xs : List F) (i : Nat) : trP r c xs i c = trP r c xs (i + 1) 0 := grid_congr fun b a h _ => by
  by_cases e : a < i + 1
  · rw [if_pos (by omega), if_pos (by omega)]
  · rw [if_neg (by omega), if_neg (by omega)]
theorem trP_step {r c : Nat} {xs : List F} {i j : Nat} (hi : i < r) (hj : j < c) : (trP r c xs i j).set (j * r + i) (at8 xs (i * c + j)) = trP r c xs i (j + 1) := by
  rw [trP, grid_set hj hi]
  refine grid_congr fun b a hb ha => ?_
  by_cases e : b = j ∧ a = i
  · rw [if_pos e, if_pos (by omega), e.1, e.2]
  · rw [if_neg e]
    by_cases e2 : a < i ∨ a = i ∧ b < j
    · rw [if_pos e2, if_pos (by omega)]
    · rw [if_neg e2, if_neg (by omega)]
end Go.Proofs.YtkoakingmnjdoabDoor
