/- The walks of the statements GfLaws, GfLogs and GfPowers: each returns true of all elements and numbers. -/
import Derived.Test.YtkoakingmnjdoaaGreatDoorGfAlive
import Derived.WalkSmall
namespace Go.Proofs.YtkoakingmnjdoaaGreatDoor
open Go.RowKit Gf
set_option maxRecDepth 20000
theorem eqv_yes {x y : F} (h : x = y) : ((x.toNat : Int) == (y.toNat : Int)) = true := by simp [h]
theorem eqv_no {x y : F} (h : x ≠ y) : ((x.toNat : Int) == (y.toNat : Int)) = false := by
  have : x.toNat ≠ y.toNat := fun e => h (F.ext' e)
  simp; omega
theorem ne0 {x : F} (h : x ≠ 0) : ((x.toNat : Int) == 0) = false := eqv_no h
theorem is0 {x : F} (h : x = 0) : ((x.toNat : Int) == 0) = true := eqv_yes h
theorem inv_no {x : F} (h : x = 0) (w : World) : Calls Tryz.prog 128 #[.int .u8 x.toNat] w fun e w' => e = .returned (.tuple #[.int .u8 0, .bool false]) ∧ w = w' := by
  have := inv_F x w
  rw [if_pos h, show decide (x ≠ 0) = false from by simp [h]] at this
  exact this
theorem inv_yes {x : F} (h : x ≠ 0) (w : World) : Calls Tryz.prog 128 #[.int .u8 x.toNat] w fun e w' => e = .returned (.tuple #[.int .u8 (inv x).toNat, .bool true]) ∧ w = w' := by
  have := inv_F x w
  rw [if_neg h, decide_eq_true h] at this
  exact this
theorem log_sum {x y : F} (hx : x ≠ 0) (hy : y ≠ 0) : (((logT (gm x y).toNat : Nat) : Int) == (((logT x.toNat : Nat) : Int) + ((logT y.toNat : Nat) : Int)) % 255) = true := by
  rw [F.log_mul hx hy]; simp
theorem log_eq {x y : F} (hx : x ≠ 0) (hy : y ≠ 0) : ((((logT x.toNat : Nat) : Int) == ((logT y.toNat : Nat) : Int)) == ((x.toNat : Int) == (y.toNat : Int))) = true := by
  by_cases h : x = y
  · simp [h]
  · rw [eqv_no h]
    have : logT x.toNat ≠ logT y.toNat := fun e => h (F.log_inj hx hy e)
    simp; omega
theorem bne0 {x : F} (h : x ≠ 0) : ((x.toNat : Int) != 0) = true := by rw [bne, ne0 h]; rfl
theorem bis0 {x : F} (h : x = 0) : ((x.toNat : Int) != 0) = false := by rw [bne, is0 h]; rfl
end Go.Proofs.YtkoakingmnjdoaaGreatDoor
