/- What Check of package mat answers, of every matrix; nothing that was there turns. -/
import Derived.Test.YtanmgpgiepkogaaDoorRows
import Derived.WalkKit
import Derived.WalkSpells
import Derived.WalkLawsBesides
import Derived.Handy
namespace Go.Proofs.YtanmgpgiepkogaaDoor
open Go.RowKit
set_option maxRecDepth 20000
/-- may a matrix have so many rows? -/
def szB (x : Int) : Bool := decide (0 ≤ x) && decide (x ≤ 64)
theorem szB_true {x : Int} (h0 : 0 ≤ x) (h1 : x ≤ 64) : szB x = true := by simp [szB, h0, h1]
theorem szB_false {x : Int} (h : ¬ (0 ≤ x ∧ x ≤ 64)) : szB x = false := by simp [szB]; omega
set_option maxHeartbeats 400000 in
theorem fits_any (x : Int) (w : World) : Calls Tryd.prog 95 #[.int .i64 x] w fun e w' => e = .returned (.bool (szB x)) ∧ w = w' := by
  by_cases h0 : 0 ≤ x
  · by_cases h1 : x ≤ 64
    · go_enter Tryd.func95, Tryd.ntmps95
      go_wp2
      go_ret
      exact ⟨by rw [szB_true h0 h1]; rfl, rfl⟩
    · go_enter Tryd.func95, Tryd.ntmps95
      go_wp2
      go_ret
      exact ⟨by rw [szB_false (by omega)]; rfl, rfl⟩
  · go_enter Tryd.func95, Tryd.ntmps95
    go_wp2
    go_ret
    exact ⟨by rw [szB_false (by omega)]; rfl, rfl⟩
theorem fits_yes (x : Int) (w : World) (h0 : 0 ≤ x) (h1 : x ≤ 64) : Calls Tryd.prog 95 #[.int .i64 x] w fun e w' => e = .returned (.bool true) ∧ w = w' :=
  (fits_any x w).mono fun e w' ⟨a, b⟩ => ⟨by rw [a, szB_true h0 h1], b⟩
theorem fits_no (x : Int) (w : World) (h : ¬ (0 ≤ x ∧ x ≤ 64)) : Calls Tryd.prog 95 #[.int .i64 x] w fun e w' => e = .returned (.bool false) ∧ w = w' :=
  (fits_any x w).mono fun e w' ⟨a, b⟩ => ⟨by rw [a, szB_false h], b⟩
theorem mul_small {r c : Nat} (hr : r ≤ 64) (hc : c ≤ 64) : 0 ≤ (r : Int) * (c : Int) ∧ (r : Int) * (c : Int) ≤ 4096 := by
  have h := Nat.mul_le_mul hr hc
  have e : (r : Int) * (c : Int) = ((r * c : Nat) : Int) := by simp
  omega
end Go.Proofs.YtanmgpgiepkogaaDoor
