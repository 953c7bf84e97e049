/- What Pow, Inv, Div, Log and Add of package gf return, of all elements and numbers; nothing is written. -/
import Derived.Test.YtkoakingmnjdoaaGreatDoorGfW
namespace Go.Proofs.YtkoakingmnjdoaaGreatDoor
open Go.RowKit Gf
set_option maxRecDepth 20000

/-- a power by a whole number: powers of an element but 0 go round after 255 -/
def powF (x : F) (n : Int) : F := if n = 0 then 1 else if x = 0 then 0 else npow x (n % 255).toNat
theorem bits_split (m k : Nat) : m % 2 ^ (k + 1) = m % 2 ^ k + 2 ^ k * (m / 2 ^ k % 2) := by
  rw [Nat.pow_succ, Nat.mod_mul]
theorem pow_one_step {x : F} {m k : Nat} (h : m / 2 ^ k % 2 = 1) : gm (npow x (m % 2 ^ k)) (npow x (2 ^ k)) = npow x (m % 2 ^ (k + 1)) := by
  rw [bits_split, h, npow_add, Nat.mul_one]
theorem pow_no_step {x : F} {m k : Nat} (h : m / 2 ^ k % 2 = 0) : npow x (m % 2 ^ k) = npow x (m % 2 ^ (k + 1)) := by
  rw [bits_split, h, Nat.mul_zero, Nat.add_zero]
theorem sq_step (x : F) (k : Nat) : gm (npow x (2 ^ k)) (npow x (2 ^ k)) = npow x (2 ^ (k + 1)) := by
  rw [← npow_add, Nat.pow_succ, Nat.mul_two]
theorem i64_and1 (m k : Nat) (hm : m < 255) : bits .and .i64 ((m : Int) / 2 ^ k) 1 = ((m / 2 ^ k % 2 : Nat) : Int) := by
  have e : ((m : Int) / 2 ^ k) = ((m / 2 ^ k : Nat) : Int) := by norm_cast
  have hd : m / 2 ^ k ≤ m := Nat.div_le_self _ _
  rw [e]
  have h := bits_mask .i64 62 (by decide) (fun n a b => by rw [IntKind.wrap_i64]; omega) 1 (by decide) ((m / 2 ^ k : Nat) : Int) (Int.natCast_nonneg _) (by omega)
  simpa using h
theorem tmod_255 (n : Int) : -254 ≤ n.tmod 255 ∧ n.tmod 255 ≤ 254 ∧ (n.tmod 255 + 255) % 255 = ((n % 255).toNat : Int) := by
  by_cases h : 0 ≤ n
  · rw [Int.tmod_eq_emod_of_nonneg h]; omega
  · have e : n.tmod 255 = -((-n) % 255) := by
      rw [← Int.tmod_eq_emod_of_nonneg (by omega), Int.neg_tmod, Int.neg_neg]
    rw [e]; omega
set_option maxHeartbeats 400000 in
theorem pow_F (x : F) (n : Int) (w : World) (h0 : -9223372036854775808 ≤ n) (h1 : n ≤ 9223372036854775807) :
    Calls Tryz.prog 135 #[.int .u8 x.toNat, .int .i64 n] w fun e w' => e = .returned (.int .u8 (powF x n).toNat) ∧ w = w' := by
  by_cases hn : n = 0
  · subst hn
    go_enter Tryz.func135, Tryz.ntmps135
    go_wp2
    go_ret
    exact ⟨rfl, rfl⟩
  have hnb : (n == 0) = false := by simpa using hn
  by_cases hx : x = 0
  · subst hx
    have hp : powF 0 n = 0 := by simp [powF, hn]
    rw [hp]
    go_enter Tryz.func135, Tryz.ntmps135
    go_wp2
    go_ret
    exact ⟨rfl, rfl⟩
  have hxb : ((x.toNat : Int) == 0) = false := by
    have : x.toNat ≠ 0 := fun e => hx (F.val_eq_zero.1 e)
    simp; omega
  have hp : powF x n = npow x (n % 255).toNat := by simp [powF, hn, hx]
  rw [hp]
  obtain ⟨b1, b2, hmm⟩ := tmod_255 n
  have hm0 : 0 ≤ n % 255 := Int.emod_nonneg _ (by decide)
  have hm1 : n % 255 < 255 := Int.emod_lt_of_pos _ (by decide)
  have hm2 : (n % 255).toNat < 255 := by omega
  generalize (n % 255).toNat = m at hmm hm2
  have HM : Hid _ := hmm
  clear hm0 hm1 hp hn hx hmm
  go_enter Tryz.func135, Tryz.ntmps135
  go_wp2
  rw [HM.out]
  go_loop [0, 5, 15] (fun a p i => ∃ k : Nat, k ≤ 8 ∧ i = .int .i64 k ∧ a = .int .u8 (npow x (2 ^ k)).toNat ∧ p = .int .u8 (npow x (m % 2 ^ k)).toNat) (fun _ _ i => 8 - (intOf i).toNat)
  case atStart => exact ⟨0, by omega, rfl, by simp, by simp [Nat.mod_one]⟩
  case round =>
    obtain ⟨k, hk, rfl, rfl, rfl⟩ := hrel
    by_cases hlt : k < 8
    · have HB : Hid _ := i64_and1 m k hm2
      by_cases hb : m / 2 ^ k % 2 = 1
      · have ht : (bits .and .i64 ((m : Int) / 2 ^ k) 1 == 1) = true := by rw [HB.out, hb]; rfl
        have HS : Hid _ := pow_one_step (x := x) hb
        have HQ : Hid _ := sq_step x k
        clear hb
        go_wp2_with fail
        refine (mul_F _ _ _).mono ?_
        rintro e w' ⟨rfl, rfl⟩
        go_wp2_with fail
        refine (mul_F _ _ _).mono ?_
        rintro e w' ⟨rfl, rfl⟩
        go_wp2_with fail
        go_round
        case rel => exact ⟨k + 1, by omega, by go_num, by rw [HQ.out], by rw [HS.out]⟩
        case measure => simp [intOf]; omega
      · have hb0 : m / 2 ^ k % 2 = 0 := by omega
        have ht : (bits .and .i64 ((m : Int) / 2 ^ k) 1 == 1) = false := by rw [HB.out, hb0]; rfl
        have HS : Hid _ := pow_no_step (x := x) hb0
        have HQ : Hid _ := sq_step x k
        clear hb hb0
        go_wp2_with fail
        refine (mul_F _ _ _).mono ?_
        rintro e w' ⟨rfl, rfl⟩
        go_wp2_with fail
        go_round
        case rel => exact ⟨k + 1, by omega, by go_num, by rw [HQ.out], by rw [HS.out]⟩
        case measure => simp [intOf]; omega
    · have : k = 8 := by omega
      subst this
      go_wp2
      go_ret
      exact ⟨by rw [Nat.mod_eq_of_lt (by omega : m < 2 ^ 8)]; rfl, rfl⟩

theorem inv_F (x : F) (w : World) :
    Calls Tryz.prog 128 #[.int .u8 x.toNat] w fun e w' => e = .returned (.tuple #[.int .u8 (if x = 0 then (0 : F) else inv x).toNat, .bool (decide (x ≠ 0))]) ∧ w = w' := by
  by_cases hx : x = 0
  · subst hx
    go_enter Tryz.func128, Tryz.ntmps128
    go_wp2
    go_ret2
    exact ⟨rfl, rfl⟩
  have hxb : ((x.toNat : Int) == 0) = false := by
    have : x.toNat ≠ 0 := fun e => hx (F.val_eq_zero.1 e)
    simp; omega
  have hp : powF x (-1) = inv x := by simp [powF, hx]; rfl
  rw [if_neg hx, decide_eq_true hx]
  rw [← hp]
  clear hp hx
  go_enter Tryz.func128, Tryz.ntmps128
  go_wp2_with fail
  refine (pow_F _ _ _ (by omega) (by omega)).mono ?_
  rintro e w' ⟨rfl, rfl⟩
  go_wp2_with fail
  go_ret2
  exact ⟨rfl, rfl⟩

/-- the logarithm by 2, and whether there is one -/
def logF (x : F) : Int := if x = 0 then 0 else (logT x.toNat : Nat)
theorem exp_step (k : Nat) : dblI ((npow gen k).toNat : Int) = ((npow gen (k + 1)).toNat : Int) := by
  unfold dblI
  rw [Int.toNat_natCast, dbl_eq _ (bl _), npow_succ, F.val_mul]; rfl
theorem log_miss (x : F) (h : x ≠ 0) : npow gen (logT x.toNat) = x := by
  apply F.ext'
  rw [gen_pow, Nat.mod_eq_of_lt (F.log_lt h)]
  exact (tab_exp_log _ (bl x) (fun e => h (F.val_eq_zero.1 e))).1
theorem log_gen (k : Nat) (h : k < 255) : logT (npow gen k).toNat = k := by
  rw [gen_pow, Nat.mod_eq_of_lt h]; exact (tab_log_exp k h).1
theorem gen_ne (k : Nat) : npow gen k ≠ 0 := npow_ne_zero (fun h => absurd (congrArg UInt8.toNat h) (by decide)) k
end Go.Proofs.YtkoakingmnjdoaaGreatDoor
