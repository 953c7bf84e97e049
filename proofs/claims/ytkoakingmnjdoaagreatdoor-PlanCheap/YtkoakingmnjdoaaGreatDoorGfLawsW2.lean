/- The walks of the statements GfLaws and GfPowers: each returns true of all elements and numbers. -/
import Derived.Test.YtkoakingmnjdoaaGreatDoorGfLawsW
namespace Go.Proofs.YtkoakingmnjdoaaGreatDoor
open Go.RowKit Gf
set_option maxRecDepth 20000
theorem mul_1 (x : F) (w : World) : Calls Tryz.prog 137 #[.int .u8 x.toNat, .int .u8 1] w fun e w' => e = .returned (.int .u8 x.toNat) ∧ w = w' := by
  have := mul_F x 1 w
  rw [F.mul_one, show (((1 : F).toNat : Nat) : Int) = 1 from rfl] at this
  exact this
theorem mul_0 (x : F) (w : World) : Calls Tryz.prog 137 #[.int .u8 x.toNat, .int .u8 0] w fun e w' => e = .returned (.int .u8 0) ∧ w = w' := by
  have := mul_F x 0 w
  rw [F.mul_zero, show (((0 : F).toNat : Nat) : Int) = 0 from rfl] at this
  exact this
theorem mul_x {x y z : F} (h : gm x y = z) (w : World) : Calls Tryz.prog 137 #[.int .u8 x.toNat, .int .u8 y.toNat] w fun e w' => e = .returned (.int .u8 z.toNat) ∧ w = w' := h ▸ mul_F x y w
theorem mul_i {x : F} (h : x ≠ 0) (w : World) : Calls Tryz.prog 137 #[.int .u8 x.toNat, .int .u8 (inv x).toNat] w fun e w' => e = .returned (.int .u8 1) ∧ w = w' := by
  have := mul_F x (inv x) w
  rw [F.mul_inv h, show (((1 : F).toNat : Nat) : Int) = 1 from rfl] at this
  exact this
end Go.Proofs.YtkoakingmnjdoaaGreatDoor
