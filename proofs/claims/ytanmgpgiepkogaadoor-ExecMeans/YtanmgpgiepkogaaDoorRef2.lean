/- What the document's own One, Transpose and Product of package mat's chapter answer, of all matrices in form; nothing that was there turns. -/
import Derived.Test.YtanmgpgiepkogaaDoorMatSq
import Derived.Test.YtanmgpgiepkogaaDoorMatT
import Derived.Test.YtanmgpgiepkogaaDoorMatAl
import Derived.Test.YtanmgpgiepkogaaDoorHolds
import Derived.Test.YtanmgpgiepkogaaDoorGfRefW
namespace Go.Proofs.YtanmgpgiepkogaaDoor
open Go.RowKit Gf
set_option linter.unusedVariables false
set_option maxRecDepth 20000
/-- a grid, made row by row, as far as place j of row i -/
def gridP (c : Nat) (f : Nat → Nat → F) (r i j : Nat) : List F := grid c (fun a b => if a < i ∨ a = i ∧ b < j then f a b else 0) r
theorem gridP_len (c : Nat) (f : Nat → Nat → F) (r i j : Nat) : (gridP c f r i j).length = r * c := grid_len _ _ _
theorem gridP_zero (c : Nat) (f : Nat → Nat → F) (r : Nat) : zeros (r * c) = gridP c f r 0 0 := by rw [zeros_grid]; exact grid_congr fun i j _ _ => by rw [if_neg (by omega)]
theorem gridP_done (c : Nat) (f : Nat → Nat → F) (r : Nat) : gridP c f r r 0 = grid c f r := grid_congr fun a b h _ => by rw [if_pos (by omega)]
theorem gridP_row (c : Nat) (f : Nat → Nat → F) (r i : Nat) : gridP c f r i c = gridP c f r (i + 1) 0 := grid_congr fun a b _ h => by
  by_cases e : a < i + 1
  · rw [if_pos (by omega), if_pos (by omega)]
  · rw [if_neg (by omega), if_neg (by omega)]
theorem gridP_step {c r i j : Nat} {f : Nat → Nat → F} (hi : i < r) (hj : j < c) : (gridP c f r i j).set (i * c + j) (f i j) = gridP c f r i (j + 1) := by
  rw [gridP, grid_set hi hj]
  refine grid_congr fun a b ha hb => ?_
  by_cases e : a = i ∧ b = j
  · rw [if_pos e, if_pos (by omega), e.1, e.2]
  · rw [if_neg e]
    by_cases e2 : a < i ∨ a = i ∧ b < j
    · rw [if_pos e2, if_pos (by omega)]
    · rw [if_neg e2, if_neg (by omega)]
theorem grownBy_drewN {w w' : World} {r : Option Nat} (h : w.grownBy w' r) : ∀ n, w.grownBy (w'.drewN n) r
  | 0 => h
  | n + 1 => grownBy_drew (grownBy_drewN h n)
theorem row8_get {w : World} {a : Option Addr} {xs : List F} {j : Nat} (h : Row8 w a xs) (hj : j < xs.length) : ∃ b off, a = some ⟨b, off, none⟩ ∧ b < w.heap.size ∧ ∀ i, i < xs.length → w.cell? ⟨b, off + i, none⟩ = some (.int .u8 ((at8 xs i).toNat : Int)) := by
  rcases h with e | ⟨b, off, rfl, h⟩
  · rw [e] at hj; simp at hj
  · have := World.block_lt_of_cell? w _ (h j hj)
    exact ⟨b, off, rfl, by simpa using this, h⟩
end Go.Proofs.YtanmgpgiepkogaaDoor
