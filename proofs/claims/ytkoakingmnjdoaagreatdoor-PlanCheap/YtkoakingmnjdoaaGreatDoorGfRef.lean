/- What the document's own product of package gf's chapter comes to: polynomials multiplied bit by bit and reduced agree with the product by doubling; no program is spoken of. -/
import Derived.Test.YtkoakingmnjdoaaGreatDoorGf
namespace Go.Proofs.YtkoakingmnjdoaaGreatDoor.Gf
set_option maxRecDepth 20000
def cl (a b : Nat) : Nat → Nat
  | 0 => 0
  | i + 1 => cl a b i ^^^ (a / 2 ^ i % 2 * (b * 2 ^ i))
def clIn (a b i j : Nat) : Nat := cl a b i ^^^ (a / 2 ^ i % 2 * (b % 2 ^ j * 2 ^ i))
def rdS (k q : Nat) : Nat := q ^^^ (q / 2 ^ (14 - k) % 2 * (285 * 2 ^ (6 - k)))
def rd (p : Nat) : Nat → Nat
  | 0 => p
  | k + 1 => rdS k (rd p k)
theorem rdS_xor (k x y : Nat) : rdS k (x ^^^ y) = rdS k x ^^^ rdS k y := by
  unfold rdS
  rw [bit_xor, bit_mul _ _ _ (Nat.mod_lt _ (by decide)) (Nat.mod_lt _ (by decide))]
  ac_rfl
theorem rd_xor (x y : Nat) : ∀ k, rd (x ^^^ y) k = rd x k ^^^ rd y k
  | 0 => rfl
  | k + 1 => by simp only [rd]; rw [rd_xor x y k, rdS_xor]
theorem rd_zero : rd 0 7 = 0 := by decide +kernel
theorem rd_base : ∀ b < 256, ∀ i < 8, rd (b * 2 ^ i) 7 = aTo b i := by decide +kernel
theorem rd_cl' (a b : Nat) (hb : b < 256) : ∀ i, i ≤ 8 → rd (cl a b i) 7 = pTo b a i
  | 0, _ => rd_zero
  | i + 1, h => by
    simp only [cl, pTo]
    rw [rd_xor, rd_cl' a b hb i (by omega)]
    have e : a / 2 ^ i % 2 = 0 ∨ a / 2 ^ i % 2 = 1 := by omega
    rcases e with e | e <;> rw [e]
    · rw [Nat.zero_mul, Nat.zero_mul, rd_zero]
    · rw [Nat.one_mul, Nat.one_mul, rd_base b hb i (by omega)]
theorem rd_cl (x y : F) : rd (cl x.toNat y.toNat 8) 7 = (gm x y).toNat := by
  rw [rd_cl' _ _ (bl y) 8 (Nat.le_refl _), F.mul_comm, F.val_mul]; rfl
theorem xor_lt {a b n : Nat} (ha : a < 2 ^ n) (hb : b < 2 ^ n) : a ^^^ b < 2 ^ n := Nat.xor_lt_two_pow ha hb
theorem sh_lt : ∀ b < 256, ∀ i < 8, b * 2 ^ i < 2 ^ 15 := by decide +kernel
theorem bit_lt {x n : Nat} (a : Nat) (h : x < 2 ^ n) : a % 2 * x < 2 ^ n := by
  have e : a % 2 = 0 ∨ a % 2 = 1 := by omega
  rcases e with e | e <;> rw [e] <;> omega
theorem cl_lt (a : Nat) {b : Nat} (hb : b < 256) : ∀ i, i ≤ 8 → cl a b i < 2 ^ 15
  | 0, _ => Nat.two_pow_pos 15
  | i + 1, h => xor_lt (cl_lt a hb i (by omega)) (bit_lt _ (sh_lt b hb i (by omega)))
theorem clIn_lt (a : Nat) {b : Nat} (hb : b < 256) (i j : Nat) (hi : i < 8) : clIn a b i j < 2 ^ 15 :=
  xor_lt (cl_lt a hb i (by omega)) (bit_lt _ (sh_lt _ (Nat.lt_of_le_of_lt (Nat.mod_le _ _) hb) i hi))
theorem rdS_lt (k : Nat) {q : Nat} (h : q < 2 ^ 15) (hk : k < 7) : rdS k q < 2 ^ 15 := by
  refine xor_lt h (bit_lt _ ?_)
  have : k = 0 ∨ k = 1 ∨ k = 2 ∨ k = 3 ∨ k = 4 ∨ k = 5 ∨ k = 6 := by omega
  rcases this with rfl | rfl | rfl | rfl | rfl | rfl | rfl <;> decide
theorem rd_lt {p : Nat} (h : p < 2 ^ 15) : ∀ k, k ≤ 7 → rd p k < 2 ^ 15
  | 0, _ => h
  | k + 1, hk => rdS_lt k (rd_lt h k (by omega)) (by omega)
theorem in_bit : ∀ b < 256, ∀ i < 8, ∀ j < 8, b / 2 ^ j % 2 = 1 → b % 2 ^ (j + 1) * 2 ^ i = (b % 2 ^ j * 2 ^ i) ^^^ 2 ^ (i + j) := by decide +kernel
theorem clIn_zero (a b i : Nat) : clIn a b i 0 = cl a b i := by simp [clIn, Nat.mod_one]
theorem clIn_end (a : Nat) {b : Nat} (hb : b < 256) (i : Nat) : clIn a b i 8 = cl a b (i + 1) := by
  unfold clIn; rw [Nat.mod_eq_of_lt (by omega : b < 2 ^ 8)]; rfl
theorem clIn_yes {a b i j : Nat} (hb : b < 256) (hi : i < 8) (hj : j < 8) (h1 : a / 2 ^ i % 2 = 1) (h2 : b / 2 ^ j % 2 = 1) : clIn a b i (j + 1) = clIn a b i j ^^^ 2 ^ (i + j) := by
  unfold clIn; rw [h1, Nat.one_mul, Nat.one_mul, in_bit b hb i hi j hj h2, Nat.xor_assoc]
theorem clIn_no1 {a b i j : Nat} (h1 : a / 2 ^ i % 2 = 0) : clIn a b i (j + 1) = clIn a b i j := by
  unfold clIn; rw [h1, Nat.zero_mul, Nat.zero_mul]
theorem clIn_no2 {a b i j : Nat} (h2 : b / 2 ^ j % 2 = 0) : clIn a b i (j + 1) = clIn a b i j := by
  unfold clIn; rw [Nat.pow_succ, Nat.mod_mul, h2, Nat.mul_zero, Nat.add_zero]
end Go.Proofs.YtkoakingmnjdoaaGreatDoor.Gf
