/- The walk of the statement GfPowers: it returns true of all elements and numbers. -/
import Derived.Test.YtkoakingmnjdoaaGreatDoorGfLawsW2
namespace Go.Proofs.YtkoakingmnjdoaaGreatDoor
open Go.RowKit Gf
set_option maxRecDepth 20000
theorem powF_ne {x : F} (h : x ≠ 0) (n : Int) : powF x n = npow x (n % 255).toNat := by
  by_cases hn : n = 0
  · subst hn; simp [powF]
  · simp [powF, h, hn]
theorem powF_add {x : F} (h : x ≠ 0) (n m : Int) : gm (powF x n) (powF x m) = powF x (n + m) := by
  rw [powF_ne h, powF_ne h, powF_ne h, ← npow_add, ← npow_mod h ((n % 255).toNat + (m % 255).toNat)]
  congr 1; omega
theorem powF_neg {x : F} (h : x ≠ 0) (n : Int) : gm (powF x n) (powF x (-n)) = 1 := by
  rw [powF_add h, Int.add_right_neg]; rfl
theorem powF_one (x : F) : powF x 1 = x := by
  by_cases h : x = 0
  · simp [powF, h]
  · rw [powF_ne h]; exact npow_one x
theorem powF_log {x : F} (h : x ≠ 0) : powF gen ((logT x.toNat : Nat) : Int) = x := by
  have hl := F.log_lt h
  rw [powF_ne (by decide +kernel : gen ≠ 0), show (((logT x.toNat : Nat) : Int) % 255).toNat = logT x.toNat from by omega]
  exact log_miss x h
theorem pow_2 {x : F} (h : x ≠ 0) (w : World) : Calls Tryz.prog 135 #[.int .u8 2, .int .i64 ((logT x.toNat : Nat) : Int)] w fun e w' => e = .returned (.int .u8 x.toNat) ∧ w = w' := by
  have hl := F.log_lt h
  have := pow_F gen ((logT x.toNat : Nat) : Int) w (by omega) (by omega)
  rw [powF_log h] at this
  exact this
theorem pow_1 (x : F) (w : World) : Calls Tryz.prog 135 #[.int .u8 x.toNat, .int .i64 1] w fun e w' => e = .returned (.int .u8 x.toNat) ∧ w = w' := by
  have := pow_F x 1 w (by decide) (by decide)
  rw [powF_one] at this
  exact this
theorem pow_0 (x : F) (w : World) : Calls Tryz.prog 135 #[.int .u8 x.toNat, .int .i64 0] w fun e w' => e = .returned (.int .u8 1) ∧ w = w' := pow_F x 0 w (by decide) (by decide)
theorem mul_pn {x : F} (h : x ≠ 0) (n : Int) (w : World) : Calls Tryz.prog 137 #[.int .u8 (powF x n).toNat, .int .u8 (powF x (-n)).toNat] w fun e w' => e = .returned (.int .u8 1) ∧ w = w' := by
  have := mul_F (powF x n) (powF x (-n)) w
  rw [powF_neg h, show (((1 : F).toNat : Nat) : Int) = 1 from rfl] at this
  exact this
theorem tmod_bd (n : Int) : -1099511627776 < n.tmod 1099511627776 ∧ n.tmod 1099511627776 < 1099511627776 :=
  ⟨by
    by_cases h : 0 ≤ n
    · rw [Int.tmod_eq_emod_of_nonneg h]; omega
    · have e : n.tmod 1099511627776 = -((-n) % 1099511627776) := by
        rw [← Int.tmod_eq_emod_of_nonneg (by omega), Int.neg_tmod, Int.neg_neg]
      rw [e]; omega, Int.tmod_lt_of_pos _ (by decide)⟩
end Go.Proofs.YtkoakingmnjdoaaGreatDoor
