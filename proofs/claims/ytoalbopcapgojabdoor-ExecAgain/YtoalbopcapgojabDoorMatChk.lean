/- What Check of package mat answers, of every matrix; nothing that was there turns. -/
import Derived.Test.YtoalbopcapgojabDoorRows
import Derived.WalkKit
import Derived.WalkSpells
import Derived.WalkLawsBesides
import Derived.Handy
namespace Go.Proofs.YtoalbopcapgojabDoor
open Go.RowKit
set_option maxRecDepth 20000
/-- may a matrix have so many rows? -/
def szB (x : Int) : Bool := decide (0 ≤ x) && decide (x ≤ 64)
theorem szB_true {x : Int} (h0 : 0 ≤ x) (h1 : x ≤ 64) : szB x = true := by simp [szB, h0, h1]
theorem szB_false {x : Int} (h : ¬ (0 ≤ x ∧ x ≤ 64)) : szB x = false := by simp [szB]; omega
theorem mul_small {r c : Nat} (hr : r ≤ 64) (hc : c ≤ 64) : 0 ≤ (r : Int) * (c : Int) ∧ (r : Int) * (c : Int) ≤ 4096 := by
  have h := Nat.mul_le_mul hr hc
  have e : (r : Int) * (c : Int) = ((r * c : Nat) : Int) := by simp
  omega
end Go.Proofs.YtoalbopcapgojabDoor
