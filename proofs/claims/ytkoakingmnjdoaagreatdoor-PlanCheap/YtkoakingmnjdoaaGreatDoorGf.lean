/- The laws of the field of 256 elements, by tables and by doubling; no program is spoken of. -/
import Derived.Test.YtkoakingmnjdoaaGreatDoorGfTab
namespace Go.Proofs.YtkoakingmnjdoaaGreatDoor.Gf
set_option maxRecDepth 20000
theorem exp_lt (i : Nat) (h : i < 255) : expT i < 256 := (tab_log_exp i h).2.2
theorem mul_lt {a b : Nat} (ha : a < 256) (hb : b < 256) : mul a b < 256 := by
  rw [tab_mul a ha b hb]; split
  · decide
  · split
    · decide
    · exact exp_lt _ (by omega)
theorem dbl_lt {a : Nat} (ha : a < 256) : dbl a < 256 := by
  unfold dbl; exact Nat.xor_lt_two_pow (n := 8) (by omega) (by omega)
theorem aTo_lt {a : Nat} (ha : a < 256) : ∀ k, aTo a k < 256
  | 0 => ha
  | k + 1 => dbl_lt (aTo_lt ha k)
theorem pTo_lt {a : Nat} (b : Nat) (ha : a < 256) : ∀ k, pTo a b k < 256
  | 0 => Nat.zero_lt_succ _
  | k + 1 => by
    refine Nat.xor_lt_two_pow (n := 8) (pTo_lt b ha k) ?_
    have h := aTo_lt ha k
    have : b / 2 ^ k % 2 = 0 ∨ b / 2 ^ k % 2 = 1 := by omega
    rcases this with e | e <;> rw [e] <;> omega

/-! the field on bytes -/
abbrev F := UInt8
theorem bl (x : F) : x.toNat < 256 := UInt8.toNat_lt x
theorem F.ext' {a b : F} (h : a.toNat = b.toNat) : a = b := UInt8.toNat_inj.1 h
theorem toNat_of {n : Nat} (h : n < 256) : (UInt8.ofNat n).toNat = n := by rw [UInt8.toNat_ofNat']; exact Nat.mod_eq_of_lt h
/-- the sum of two elements -/
def ga (a b : F) : F := UInt8.ofNat (a.toNat ^^^ b.toNat)
/-- the product of two elements -/
def gm (a b : F) : F := UInt8.ofNat (mul a.toNat b.toNat)
theorem F.val_add (a b : F) : (ga a b).toNat = a.toNat ^^^ b.toNat := toNat_of (Nat.xor_lt_two_pow (n := 8) (bl a) (bl b))
theorem F.val_mul (a b : F) : (gm a b).toNat = mul a.toNat b.toNat := toNat_of (mul_lt (bl a) (bl b))
theorem F.val_eq_zero {a : F} : a.toNat = 0 ↔ a = 0 := ⟨fun h => F.ext' h, fun h => by rw [h]; rfl⟩
theorem F.add_comm (a b : F) : ga a b = ga b a := F.ext' (by rw [F.val_add, F.val_add, Nat.xor_comm])
theorem F.add_assoc (a b c : F) : ga (ga a b) c = ga a (ga b c) := F.ext' (by simp only [F.val_add, Nat.xor_assoc])
theorem F.add_left_comm (a b c : F) : ga a (ga b c) = ga b (ga a c) := by rw [← F.add_assoc, F.add_comm a b, F.add_assoc]
@[simp] theorem F.add_zero (a : F) : ga a 0 = a := F.ext' (by rw [F.val_add]; exact Nat.xor_zero _)
@[simp] theorem F.zero_add (a : F) : ga 0 a = a := by rw [F.add_comm, F.add_zero]
@[simp] theorem F.add_self (a : F) : ga a a = 0 := F.ext' (by rw [F.val_add, Nat.xor_self]; rfl)
theorem F.add_left_cancel (a b : F) : ga a (ga a b) = b := by rw [← F.add_assoc, F.add_self, F.zero_add]
theorem F.add_right_cancel (a b : F) : ga (ga a b) b = a := by rw [F.add_assoc, F.add_self, F.add_zero]
theorem F.eq_of_add_eq_zero {a b : F} (h : ga a b = 0) : a = b := by
  have := F.add_right_cancel a b; rw [h, F.zero_add] at this; exact this.symm
theorem F.add_eq_zero {a b : F} : ga a b = 0 ↔ a = b := ⟨F.eq_of_add_eq_zero, fun h => by rw [h, F.add_self]⟩

theorem mul_eq (a b : F) : (gm a b).toNat = if a.toNat = 0 then 0 else if b.toNat = 0 then 0 else expT ((logT a.toNat + logT b.toNat) % 255) :=
  (F.val_mul a b).trans (tab_mul _ (bl a) _ (bl b))
theorem F.mul_comm (a b : F) : gm a b = gm b a := by
  apply F.ext'; rw [mul_eq, mul_eq]
  by_cases ha : a.toNat = 0 <;> by_cases hb : b.toNat = 0 <;> simp [ha, hb, Nat.add_comm]
@[simp] theorem F.mul_zero (a : F) : gm a 0 = 0 := by
  apply F.ext'; rw [mul_eq]; simp
@[simp] theorem F.zero_mul (a : F) : gm 0 a = 0 := by rw [F.mul_comm, F.mul_zero]
theorem log_one : logT 1 = 0 := by decide +kernel
@[simp] theorem F.mul_one (a : F) : gm a 1 = a := by
  apply F.ext'; rw [mul_eq]
  by_cases ha : a.toNat = 0
  · simp [ha]
  · have := tab_exp_log a.toNat (bl a) ha
    simp [ha, log_one, Nat.mod_eq_of_lt this.2, this.1]
@[simp] theorem F.one_mul (a : F) : gm 1 a = a := by rw [F.mul_comm, F.mul_one]
theorem F.mul_ne_zero {a b : F} (ha : a ≠ 0) (hb : b ≠ 0) : gm a b ≠ 0 := by
  intro h
  have h' := congrArg UInt8.toNat h
  rw [mul_eq, if_neg (fun e => ha (F.val_eq_zero.1 e)), if_neg (fun e => hb (F.val_eq_zero.1 e))] at h'
  exact (tab_log_exp _ (Nat.mod_lt _ (by decide))).2.1 h'
theorem F.log_mul {a b : F} (ha : a ≠ 0) (hb : b ≠ 0) : logT (gm a b).toNat = (logT a.toNat + logT b.toNat) % 255 := by
  rw [mul_eq, if_neg (fun e => ha (F.val_eq_zero.1 e)), if_neg (fun e => hb (F.val_eq_zero.1 e))]
  exact (tab_log_exp _ (Nat.mod_lt _ (by decide))).1
theorem F.log_inj {a b : F} (ha : a ≠ 0) (hb : b ≠ 0) (h : logT a.toNat = logT b.toNat) : a = b := by
  apply F.ext'
  rw [← (tab_exp_log a.toNat (bl a) (fun e => ha (F.val_eq_zero.1 e))).1, h, (tab_exp_log b.toNat (bl b) (fun e => hb (F.val_eq_zero.1 e))).1]
theorem F.log_lt {a : F} (ha : a ≠ 0) : logT a.toNat < 255 := (tab_exp_log a.toNat (bl a) (fun e => ha (F.val_eq_zero.1 e))).2
theorem F.mul_assoc (a b c : F) : gm (gm a b) c = gm a (gm b c) := by
  by_cases ha : a = 0
  · simp [ha]
  by_cases hb : b = 0
  · simp [hb]
  by_cases hc : c = 0
  · simp [hc]
  apply F.log_inj (F.mul_ne_zero (F.mul_ne_zero ha hb) hc) (F.mul_ne_zero ha (F.mul_ne_zero hb hc))
  rw [F.log_mul (F.mul_ne_zero ha hb) hc, F.log_mul ha hb, F.log_mul ha (F.mul_ne_zero hb hc), F.log_mul hb hc]
  omega
theorem F.mul_left_comm (a b c : F) : gm a (gm b c) = gm b (gm a c) := by rw [← F.mul_assoc, F.mul_comm a b, F.mul_assoc]

theorem bit_xor (b c k : Nat) : (b ^^^ c) / 2 ^ k % 2 = (b / 2 ^ k % 2) ^^^ (c / 2 ^ k % 2) := by
  have h := Nat.testBit_xor (x := b) (y := c) (i := k)
  rw [Nat.testBit_eq_decide_div_mod_eq, Nat.testBit_eq_decide_div_mod_eq, Nat.testBit_eq_decide_div_mod_eq] at h
  have e1 : (b ^^^ c) / 2 ^ k % 2 = 0 ∨ (b ^^^ c) / 2 ^ k % 2 = 1 := by omega
  have e2 : b / 2 ^ k % 2 = 0 ∨ b / 2 ^ k % 2 = 1 := by omega
  have e3 : c / 2 ^ k % 2 = 0 ∨ c / 2 ^ k % 2 = 1 := by omega
  rcases e1 with e1 | e1 <;> rcases e2 with e2 | e2 <;> rcases e3 with e3 | e3 <;> simp [e1, e2, e3] at h ⊢
theorem bit_mul (x y n : Nat) (hx : x < 2) (hy : y < 2) : (x ^^^ y) * n = (x * n) ^^^ (y * n) := by
  have e2 : x = 0 ∨ x = 1 := by omega
  have e3 : y = 0 ∨ y = 1 := by omega
  rcases e2 with rfl | rfl <;> rcases e3 with rfl | rfl <;> simp
theorem pTo_xor (a b c : Nat) : ∀ k, pTo a (b ^^^ c) k = pTo a b k ^^^ pTo a c k
  | 0 => by simp [pTo]
  | k + 1 => by
    simp only [pTo]
    rw [pTo_xor a b c k, bit_xor, bit_mul _ _ _ (Nat.mod_lt _ (by decide)) (Nat.mod_lt _ (by decide))]
    ac_rfl
theorem F.mul_add (a b c : F) : gm a (ga b c) = ga (gm a b) (gm a c) := F.ext' (by rw [F.val_add, F.val_mul, F.val_mul, F.val_mul, F.val_add]; exact pTo_xor _ _ _ 8)
theorem F.add_mul (a b c : F) : gm (ga a b) c = ga (gm a c) (gm b c) := by
  rw [F.mul_comm, F.mul_add, F.mul_comm c a, F.mul_comm c b]

/-! powers -/
def npow (a : F) : Nat → F
  | 0 => 1
  | n + 1 => gm (npow a n) a
@[simp] theorem npow_zero (a : F) : npow a 0 = 1 := rfl
theorem npow_succ (a : F) (n : Nat) : npow a (n + 1) = gm (npow a n) a := rfl
@[simp] theorem npow_one (a : F) : npow a 1 = a := by simp [npow_succ]
theorem npow_add (a : F) (m : Nat) : ∀ n, npow a (m + n) = gm (npow a m) (npow a n)
  | 0 => by simp
  | n + 1 => by rw [← Nat.add_assoc, npow_succ, npow_add a m n, npow_succ, F.mul_assoc]
theorem npow_ne_zero {a : F} (ha : a ≠ 0) : ∀ n, npow a n ≠ 0
  | 0 => by rw [npow_zero]; intro h; exact absurd (congrArg UInt8.toNat h) (by decide)
  | n + 1 => by rw [npow_succ]; exact F.mul_ne_zero (npow_ne_zero ha n) ha
theorem npow_zero_left {n : Nat} (h : n ≠ 0) : npow 0 n = 0 := by
  cases n with
  | zero => exact absurd rfl h
  | succ n => rw [npow_succ, F.mul_zero]
theorem log_npow {a : F} (ha : a ≠ 0) : ∀ n, logT (npow a n).toNat = logT a.toNat * n % 255
  | 0 => by rw [npow_zero, Nat.mul_zero]; decide +kernel
  | n + 1 => by
    rw [npow_succ, F.log_mul (npow_ne_zero ha n) ha, log_npow ha n, Nat.mul_add, Nat.mul_one]
    omega
theorem npow_mod {a : F} (ha : a ≠ 0) (n : Nat) : npow a (n % 255) = npow a n := by
  apply F.log_inj (npow_ne_zero ha _) (npow_ne_zero ha _)
  rw [log_npow ha, log_npow ha]
  exact Nat.mul_mod_mod _ _ _
theorem npow_255 {a : F} (ha : a ≠ 0) : npow a 255 = 1 := by
  rw [← npow_mod ha 255]; rfl
def inv (a : F) : F := npow a 254
theorem F.mul_inv {a : F} (ha : a ≠ 0) : gm a (inv a) = 1 := by
  rw [F.mul_comm]; exact npow_255 ha
theorem F.inv_mul {a : F} (ha : a ≠ 0) : gm (inv a) a = 1 := npow_255 ha
theorem F.inv_ne_zero {a : F} (ha : a ≠ 0) : inv a ≠ 0 := npow_ne_zero ha _
theorem F.inv_unique {a b : F} (h : gm a b = 1) : b = inv a := by
  have ha : a ≠ 0 := by
    intro e; rw [e, F.zero_mul] at h; exact absurd (congrArg UInt8.toNat h) (by decide)
  have e1 : gm (gm (inv a) a) b = b := by rw [F.inv_mul ha, F.one_mul]
  rw [F.mul_assoc, h, F.mul_one] at e1
  exact e1.symm
theorem F.one_ne_zero : (1 : F) ≠ 0 := fun h => absurd (congrArg UInt8.toNat h) (by decide)
theorem F.mul_eq_zero {a b : F} : gm a b = 0 ↔ a = 0 ∨ b = 0 := by
  constructor
  · intro h
    by_cases ha : a = 0
    · exact Or.inl ha
    · by_cases hb : b = 0
      · exact Or.inr hb
      · exact absurd h (F.mul_ne_zero ha hb)
  · rintro (rfl | rfl) <;> simp
theorem F.mul_left_cancel {a b c : F} (ha : a ≠ 0) (h : gm a b = gm a c) : b = c := by
  have := congrArg (gm (inv a)) h
  simpa [← F.mul_assoc, F.inv_mul ha] using this

/-! the generator 2 -/
def gen : F := 2
theorem gen_pow (n : Nat) : (npow gen n).toNat = expT (n % 255) := by
  have hg : gen ≠ 0 := fun h => absurd (congrArg UInt8.toNat h) (by decide)
  have hl : logT gen.toNat = 1 := by decide +kernel
  have h := log_npow hg n
  rw [hl, Nat.one_mul] at h
  rw [← h, (tab_exp_log _ (bl (npow gen n)) (fun e => npow_ne_zero hg n (F.val_eq_zero.1 e))).1]
end Go.Proofs.YtkoakingmnjdoaaGreatDoor.Gf
