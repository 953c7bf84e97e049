/- What the document's own Mul, Inv, Div, Pow and Log of package gf's chapter return, of all elements and numbers: the same as package gf's. -/
import Derived.Test.YtkoakingmnjdoaaGreatDoorGfPowersW
import Derived.Test.YtkoakingmnjdoaaGreatDoorGfRef
namespace Go.Proofs.YtkoakingmnjdoaaGreatDoor
open Go.RowKit Gf
set_option maxRecDepth 20000
theorem i64_xor_nat (a b : Nat) (ha : a < 2 ^ 15) (hb : b < 2 ^ 15) : bits .xor .i64 (a : Int) (b : Int) = ((a ^^^ b : Nat) : Int) := by
  have hx : a ^^^ b < 2 ^ 15 := Nat.xor_lt_two_pow ha hb
  show IntKind.i64.wrap ((BitVec.ofInt 64 (a : Int) ^^^ BitVec.ofInt 64 (b : Int)).toNat : Int) = _
  rw [BitVec.ofInt_natCast, BitVec.ofInt_natCast, BitVec.toNat_xor, BitVec.toNat_ofNat, BitVec.toNat_ofNat, Nat.mod_eq_of_lt (by omega), Nat.mod_eq_of_lt (by omega), IntKind.wrap_i64]
  omega
theorem u8_and1 (m k : Nat) (hm : m < 256) : bits .and .u8 ((m : Int) / 2 ^ k) 1 = ((m / 2 ^ k % 2 : Nat) : Int) := by
  have e : ((m : Int) / 2 ^ k) = ((m / 2 ^ k : Nat) : Int) := by norm_cast
  have hd : m / 2 ^ k < 256 := Nat.lt_of_le_of_lt (Nat.div_le_self _ _) hm
  rw [e, show (1 : Int) = ((1 : Nat) : Int) from rfl, u8_and_nat _ _ hd (by decide), Nat.and_one_is_mod]
theorem bit_yes {m k : Nat} (hm : m < 256) (h : m / 2 ^ k % 2 = 1) : (bits .and .u8 ((m : Int) / 2 ^ k) 1 == 1) = true := by rw [u8_and1 m k hm, h]; rfl
theorem bit_no {m k : Nat} (hm : m < 256) (h : m / 2 ^ k % 2 = 0) : (bits .and .u8 ((m : Int) / 2 ^ k) 1 == 1) = false := by rw [u8_and1 m k hm, h]; rfl
theorem wrap_pow {n : Nat} (h : n < 15) : wrap64 ((2 : Int) ^ n) = ((2 ^ n : Nat) : Int) := by
  have e : (2 : Int) ^ n = ((2 ^ n : Nat) : Int) := by norm_cast
  have l : 2 ^ n ≤ 2 ^ 14 := Nat.pow_le_pow_right (by decide) (by omega)
  rw [e]; generalize 2 ^ n = t at l; unfold wrap64; omega
theorem cl_step {a b i j : Nat} (hb : b < 256) (hi : i < 8) (hj : j < 8) (h1 : a / 2 ^ i % 2 = 1) (h2 : b / 2 ^ j % 2 = 1) :
    bits .xor .i64 ((clIn a b i j : Nat) : Int) (wrap64 (2 ^ (i + j))) = ((clIn a b i (j + 1) : Nat) : Int) := by
  rw [wrap_pow (by omega), i64_xor_nat _ _ (clIn_lt a hb i j hi) (Nat.pow_lt_pow_right (by decide) (by omega)), clIn_yes hb hi hj h1 h2]
theorem i64_bit (q m : Nat) (hq : q < 2 ^ 15) : bits .and .i64 ((q : Int) / 2 ^ m) 1 = ((q / 2 ^ m % 2 : Nat) : Int) := by
  have e : ((q : Int) / 2 ^ m) = ((q / 2 ^ m : Nat) : Int) := by norm_cast
  have hd : q / 2 ^ m ≤ q := Nat.div_le_self _ _
  rw [e]
  have h := bits_mask .i64 62 (by decide) (fun n a b => by rw [IntKind.wrap_i64]; omega) 1 (by decide) ((q / 2 ^ m : Nat) : Int) (Int.natCast_nonneg _) (by omega)
  simpa using h
theorem rd_yes {p m : Nat} (hp : p < 2 ^ 15) (h8 : 8 ≤ m) (h14 : m ≤ 14) (h : rd p (14 - m) / 2 ^ m % 2 = 1) :
    bits .xor .i64 ((rd p (14 - m) : Nat) : Int) (wrap64 (285 * 2 ^ (m - 8))) = ((rd p (14 - m + 1) : Nat) : Int) := by
  have hr := rd_lt hp (14 - m) (by omega)
  have e : wrap64 (285 * 2 ^ (m - 8)) = ((285 * 2 ^ (m - 8) : Nat) : Int) ∧ 285 * 2 ^ (m - 8) < 2 ^ 15 := by
    have : m = 8 ∨ m = 9 ∨ m = 10 ∨ m = 11 ∨ m = 12 ∨ m = 13 ∨ m = 14 := by omega
    rcases this with rfl | rfl | rfl | rfl | rfl | rfl | rfl <;> decide +kernel
  rw [e.1, i64_xor_nat _ _ hr e.2]
  simp only [rd, rdS]
  rw [show 14 - (14 - m) = m from by omega, h, Nat.one_mul, show 6 - (14 - m) = m - 8 from by omega]
theorem rd_no {p m : Nat} (h14 : m ≤ 14) (h : rd p (14 - m) / 2 ^ m % 2 = 0) : rd p (14 - m) = rd p (14 - m + 1) := by
  simp only [rd, rdS]
  rw [show 14 - (14 - m) = m from by omega, h, Nat.zero_mul, Nat.xor_zero]
set_option maxHeartbeats 1000000 in
theorem rmul_F (x y : F) (w : World) :
    Calls Tryz.prog 64 #[.int .u8 x.toNat, .int .u8 y.toNat] w fun e w' => e = .returned (.int .u8 (gm x y).toNat) ∧ w = w' := by
  have hx := (bl x)
  have hy := (bl y)
  go_enter Tryz.func64, Tryz.ntmps64
  go_wp2
  go_loop [5, 6] (fun p i => ∃ k : Nat, k ≤ 8 ∧ i = .int .i64 k ∧ p = .int .i64 (cl x.toNat y.toNat k : Nat)) (fun _ i => 8 - (intOf i).toNat)
  case atStart => exact ⟨0, by omega, rfl, rfl⟩
  case round =>
    obtain ⟨k, hk, rfl, rfl⟩ := hrel
    by_cases hlt : k < 8
    · go_wp2
      go_loop [5, 7] (fun p j => ∃ m : Nat, m ≤ 8 ∧ j = .int .i64 m ∧ p = .int .i64 (clIn x.toNat y.toNat k m : Nat)) (fun _ j => 8 - (intOf j).toNat)
      case atStart => exact ⟨0, by omega, rfl, by rw [clIn_zero]⟩
      case round =>
        obtain ⟨m, hm, rfl, rfl⟩ := hrel
        by_cases hlt2 : m < 8
        · have hp := clIn_lt x.toNat (bl y) k m hlt
          by_cases ha : x.toNat / 2 ^ k % 2 = 1
          · have ta := bit_yes hx ha
            by_cases hb : y.toNat / 2 ^ m % 2 = 1
            · have tb := bit_yes hy hb
              have HS : Hid _ := cl_step hy hlt hlt2 ha hb
              clear ha hb
              go_wp2
              exact ⟨⟨m + 1, by omega, by go_num, by rw [HS.out]⟩, by simp [intOf]; omega⟩
            · have hb0 : y.toNat / 2 ^ m % 2 = 0 := by omega
              have tb := bit_no hy hb0
              have HS : Hid _ := clIn_no2 (a := x.toNat) (i := k) hb0
              clear ha hb hb0
              go_wp2
              exact ⟨⟨m + 1, by omega, by go_num, by rw [HS.out]⟩, by simp [intOf]; omega⟩
          · have ha0 : x.toNat / 2 ^ k % 2 = 0 := by omega
            have ta := bit_no hx ha0
            have HS : Hid _ := clIn_no1 (b := y.toNat) (j := m) ha0
            clear ha ha0
            go_wp2
            exact ⟨⟨m + 1, by omega, by go_num, by rw [HS.out]⟩, by simp [intOf]; omega⟩
        · have hm8 : m = 8 := by omega
          subst hm8
          have HS : Hid _ := clIn_end x.toNat (bl y) k
          go_wp2
          exact ⟨⟨k + 1, by omega, by go_num, by rw [HS.out]⟩, by simp [intOf]; omega⟩
    · have hk8 : k = 8 := by omega
      subst hk8
      have hp := cl_lt x.toNat (bl y) 8 (Nat.le_refl _)
      have HE : Hid _ := rd_cl x y
      generalize cl x.toNat y.toNat 8 = P at hp HE
      go_wp2
      go_loop [5, 8] (fun p i => ∃ m : Nat, 7 ≤ m ∧ m ≤ 14 ∧ i = .int .i64 m ∧ p = .int .i64 (rd P (14 - m) : Nat)) (fun _ i => (intOf i).toNat)
      case atStart => exact ⟨14, by omega, by omega, rfl, rfl⟩
      case round =>
        obtain ⟨m, hm1, hm2, rfl, rfl⟩ := hrel
        have hr := rd_lt hp (14 - m) (by omega)
        by_cases h8 : 8 ≤ m
        · by_cases hb : rd P (14 - m) / 2 ^ m % 2 = 1
          · have tb : (bits .and .i64 ((rd P (14 - m) : Nat) / 2 ^ m) 1 == 1) = true := by rw [i64_bit _ _ hr, hb]; rfl
            have HS : Hid _ := rd_yes hp h8 hm2 hb
            clear hb
            go_wp2
            exact ⟨⟨m - 1, by omega, by omega, by go_num, by rw [HS.out, show 14 - (m - 1) = 14 - m + 1 from by omega]⟩, by simp [intOf]; omega⟩
          · have hb0 : rd P (14 - m) / 2 ^ m % 2 = 0 := by omega
            have tb : (bits .and .i64 ((rd P (14 - m) : Nat) / 2 ^ m) 1 == 1) = false := by rw [i64_bit _ _ hr, hb0]; rfl
            have HS : Hid _ := rd_no hm2 hb0
            clear hb hb0
            go_wp2
            exact ⟨⟨m - 1, by omega, by omega, by go_num, by rw [HS.out, show 14 - (m - 1) = 14 - m + 1 from by omega]⟩, by simp [intOf]; omega⟩
        · have h7 : m = 7 := by omega
          subst h7
          go_wp2
          go_ret
          refine ⟨?_, rfl⟩
          have e : ((rd P 7 : Nat) : Int) % 256 = ((gm x y).toNat : Int) := by rw [HE.out]; have := bl (gm x y); omega
          show Ending.returned (.int .u8 (((rd P 7 : Nat) : Int) % 256)) = _
          rw [e]
theorem rmul_x {x y z : F} (h : gm x y = z) (w : World) : Calls Tryz.prog 64 #[.int .u8 x.toNat, .int .u8 y.toNat] w fun e w' => e = .returned (.int .u8 z.toNat) ∧ w = w' := h ▸ rmul_F x y w
theorem rmul_2 (x : F) (w : World) : Calls Tryz.prog 64 #[.int .u8 x.toNat, .int .u8 2] w fun e w' => e = .returned (.int .u8 (gm x gen).toNat) ∧ w = w' := rmul_F x gen w
theorem rmul_k {x : F} {k : Nat} (h : k < 256) (w : World) : Calls Tryz.prog 64 #[.int .u8 x.toNat, .int .u8 (k : Int)] w fun e w' => e = .returned (.int .u8 (gm x (el k)).toNat) ∧ w = w' := by
  have := rmul_F x (el k) w
  rw [el_val h] at this
  exact this
theorem f_eq1_no {x : F} (h : x ≠ 1) : ((x.toNat : Int) == 1) = false := eqv_no h
theorem f_eq1_yes {x : F} (h : x = 1) : ((x.toNat : Int) == 1) = true := eqv_yes h
set_option maxRecDepth 100000 in
set_option maxHeartbeats 1000000 in
theorem rinv_no {x : F} (h : x = 0) (w : World) :
    Calls Tryz.prog 54 #[.int .u8 x.toNat] w fun e w' => e = .returned (.tuple #[.int .u8 0, .bool false]) ∧ w = w' := by
  have HX : Hid (∀ k, gm x (el k) ≠ 1) := fun k => by rw [h, F.zero_mul]; exact fun e => F.one_ne_zero e.symm
  clear h
  go_enter Tryz.func54, Tryz.ntmps54
  go_wp2
  go_loop [4] (fun i => ∃ k : Nat, 1 ≤ k ∧ k ≤ 256 ∧ i = .int .i64 k) (fun i => 256 - (intOf i).toNat)
  case atStart => exact ⟨1, by omega, by omega, rfl⟩
  case round =>
    obtain ⟨k, hk1, hk2, rfl⟩ := hrel
    by_cases hlt : k < 256
    · have tb := f_eq1_no (HX.out k)
      go_wp2_with fail
      refine Calls.mono (rmul_k hlt _) ?_
      rintro e w' ⟨rfl, rfl⟩
      go_wp2_with fail
      exact ⟨⟨k + 1, by omega, by omega, by go_num⟩, by simp [intOf]; omega⟩
    · have : k = 256 := by omega
      subst this
      go_wp2
      go_ret2
      exact ⟨rfl, rfl⟩
set_option maxRecDepth 100000 in
set_option maxHeartbeats 1000000 in
theorem rinv_yes {x : F} (h : x ≠ 0) (w : World) :
    Calls Tryz.prog 54 #[.int .u8 x.toNat] w fun e w' => e = .returned (.tuple #[.int .u8 (inv x).toNat, .bool true]) ∧ w = w' := by
  have HX : Hid (∀ k, k < (inv x).toNat → gm x (el k) ≠ 1) := fun k hk e => by
    have := F.inv_unique e
    have hl := (bl (inv x))
    rw [← this] at hk
    simp [el] at hk
    omega
  have HY : Hid (gm x (el (inv x).toNat) = 1) := by
    have e : el (inv x).toNat = inv x := el_self _
    rw [e]; exact F.mul_inv h
  have hp : 1 ≤ (inv x).toNat := by
    have : (inv x).toNat ≠ 0 := fun e => F.inv_ne_zero h (F.val_eq_zero.1 e)
    omega
  have hl := (bl (inv x))
  clear h
  generalize (inv x).toNat = v at HX HY hp hl ⊢
  go_enter Tryz.func54, Tryz.ntmps54
  go_wp2
  go_loop [4] (fun i => ∃ k : Nat, 1 ≤ k ∧ k ≤ v ∧ i = .int .i64 k) (fun i => 256 - (intOf i).toNat)
  case atStart => exact ⟨1, by omega, hp, rfl⟩
  case round =>
    obtain ⟨k, hk1, hk2, rfl⟩ := hrel
    by_cases hlt : k < v
    · have tb := f_eq1_no (HX.out k hlt)
      go_wp2_with fail
      refine Calls.mono (rmul_k (by omega) _) ?_
      rintro e w' ⟨rfl, rfl⟩
      go_wp2_with fail
      exact ⟨⟨k + 1, by omega, by omega, by go_num⟩, by simp [intOf]; omega⟩
    · have : k = v := by omega
      subst this
      have tb := f_eq1_yes HY.out
      go_wp2_with fail
      refine Calls.mono (rmul_k (by omega) _) ?_
      rintro e w' ⟨rfl, rfl⟩
      go_wp2_with fail
      go_ret2
      exact ⟨rfl, rfl⟩
end Go.Proofs.YtkoakingmnjdoaaGreatDoor
