/- The chapter's worked answers of package gf hold: the function 'alive' of the statements returns true, and writes nothing that was there. -/
import Derived.Test.YtkoakingmnjdoaaGreatDoorGfDot
namespace Go.Proofs.YtkoakingmnjdoaaGreatDoor
open Go.RowKit Gf
set_option maxRecDepth 20000
theorem inv2 (w : World) : Calls Tryz.prog 128 #[.int .u8 2] w fun e w' => e = .returned (.tuple #[.int .u8 142, .bool true]) ∧ w = w' := by
  have h := inv_F 2 w
  rw [if_neg (by decide +kernel), show decide ((2 : F) ≠ 0) = true from by decide +kernel] at h
  have e : ((inv 2).toNat : Int) = 142 := by decide +kernel
  rw [e] at h
  exact h
theorem mul2 (w : World) : Calls Tryz.prog 137 #[.int .u8 2, .int .u8 128] w fun e w' => e = .returned (.int .u8 29) ∧ w = w' := by
  have h := mul_any 2 128 w (by decide) (by decide) (by decide) (by decide)
  rw [show mulI 2 128 = 29 from by decide +kernel] at h
  exact h
theorem mul3 (w : World) : Calls Tryz.prog 137 #[.int .u8 3, .int .u8 7] w fun e w' => e = .returned (.int .u8 9) ∧ w = w' := by
  have h := mul_any 3 7 w (by decide) (by decide) (by decide) (by decide)
  rw [show mulI 3 7 = 9 from by decide +kernel] at h
  exact h
end Go.Proofs.YtkoakingmnjdoaaGreatDoor
