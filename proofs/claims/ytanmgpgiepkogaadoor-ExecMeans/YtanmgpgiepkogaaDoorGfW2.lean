/- What Pow, Inv, Div, Log and Add of package gf return, of all elements and numbers; nothing is written. -/
import Derived.Test.YtanmgpgiepkogaaDoorGfW
namespace Go.Proofs.YtanmgpgiepkogaaDoor
open Go.RowKit Gf
set_option maxRecDepth 20000

/-- a power by a whole number: powers of an element but 0 go round after 255 -/
def powF (x : F) (n : Int) : F := if n = 0 then 1 else if x = 0 then 0 else npow x (n % 255).toNat
theorem bits_split (m k : Nat) : m % 2 ^ (k + 1) = m % 2 ^ k + 2 ^ k * (m / 2 ^ k % 2) := by
  rw [Nat.pow_succ, Nat.mod_mul]
theorem pow_one_step {x : F} {m k : Nat} (h : m / 2 ^ k % 2 = 1) : gm (npow x (m % 2 ^ k)) (npow x (2 ^ k)) = npow x (m % 2 ^ (k + 1)) := by
  rw [bits_split, h, npow_add, Nat.mul_one]
theorem pow_no_step {x : F} {m k : Nat} (h : m / 2 ^ k % 2 = 0) : npow x (m % 2 ^ k) = npow x (m % 2 ^ (k + 1)) := by
  rw [bits_split, h, Nat.mul_zero, Nat.add_zero]
theorem sq_step (x : F) (k : Nat) : gm (npow x (2 ^ k)) (npow x (2 ^ k)) = npow x (2 ^ (k + 1)) := by
  rw [← npow_add, Nat.pow_succ, Nat.mul_two]
theorem i64_and1 (m k : Nat) (hm : m < 255) : bits .and .i64 ((m : Int) / 2 ^ k) 1 = ((m / 2 ^ k % 2 : Nat) : Int) := by
  have e : ((m : Int) / 2 ^ k) = ((m / 2 ^ k : Nat) : Int) := by norm_cast
  have hd : m / 2 ^ k ≤ m := Nat.div_le_self _ _
  rw [e]
  have h := bits_mask .i64 62 (by decide) (fun n a b => by rw [IntKind.wrap_i64]; omega) 1 (by decide) ((m / 2 ^ k : Nat) : Int) (Int.natCast_nonneg _) (by omega)
  simpa using h
theorem tmod_255 (n : Int) : -254 ≤ n.tmod 255 ∧ n.tmod 255 ≤ 254 ∧ (n.tmod 255 + 255) % 255 = ((n % 255).toNat : Int) := by
  by_cases h : 0 ≤ n
  · rw [Int.tmod_eq_emod_of_nonneg h]; omega
  · have e : n.tmod 255 = -((-n) % 255) := by
      rw [← Int.tmod_eq_emod_of_nonneg (by omega), Int.neg_tmod, Int.neg_neg]
    rw [e]; omega
/-- the logarithm by 2, and whether there is one -/
def logF (x : F) : Int := if x = 0 then 0 else (logT x.toNat : Nat)
theorem exp_step (k : Nat) : dblI ((npow gen k).toNat : Int) = ((npow gen (k + 1)).toNat : Int) := by
  unfold dblI
  rw [Int.toNat_natCast, dbl_eq _ (bl _), npow_succ, F.val_mul]; rfl
theorem log_miss (x : F) (h : x ≠ 0) : npow gen (logT x.toNat) = x := by
  apply F.ext'
  rw [gen_pow, Nat.mod_eq_of_lt (F.log_lt h)]
  exact (tab_exp_log _ (bl x) (fun e => h (F.val_eq_zero.1 e))).1
theorem log_gen (k : Nat) (h : k < 255) : logT (npow gen k).toNat = k := by
  rw [gen_pow, Nat.mod_eq_of_lt h]; exact (tab_log_exp k h).1
theorem gen_ne (k : Nat) : npow gen k ≠ 0 := npow_ne_zero (fun h => absurd (congrArg UInt8.toNat h) (by decide)) k
end Go.Proofs.YtanmgpgiepkogaaDoor
