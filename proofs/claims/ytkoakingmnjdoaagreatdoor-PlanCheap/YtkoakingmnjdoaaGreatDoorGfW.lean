/- What the element functions of package gf (and of the document's answers) return, of all elements and numbers; nothing is written. -/
import Derived.Test.YtkoakingmnjdoaaGreatDoorRows
import Derived.Test.YtkoakingmnjdoaaGreatDoorGf
import Derived.WalkKit
import Derived.WalkSpells
import Derived.WalkLawsBesides
namespace Go.Proofs.YtkoakingmnjdoaaGreatDoor
open Go.RowKit Gf
set_option maxRecDepth 20000

/-- the element of a number -/
def toF (a : Int) : F := UInt8.ofNat a.toNat
@[simp] theorem toF_val (x : F) : toF (x.toNat : Int) = x := by simp [toF]
theorem val_toF {a : Int} (h0 : 0 ≤ a) (h1 : a ≤ 255) : ((toF a).toNat : Int) = a := by
  have : (UInt8.ofNat a.toNat).toNat = a.toNat := toNat_of (by omega)
  simp only [toF, this]; omega
/-- the element of a number -/
def el (k : Nat) : F := UInt8.ofNat k
theorem el_val {k : Nat} (h : k < 256) : ((el k).toNat : Int) = (k : Int) := by rw [el, toNat_of h]
theorem el_self (y : F) : el y.toNat = y := by simp [el]
theorem F.bd (x : F) : 0 ≤ (x.toNat : Int) ∧ (x.toNat : Int) ≤ 255 := ⟨by omega, by have := (bl x); omega⟩
/-- the product of numbers, as elements -/
def mulI (a b : Int) : Int := ((gm (toF a) (toF b)).toNat : Int)
theorem mulI_bd (a b : Int) : 0 ≤ mulI a b ∧ mulI a b ≤ 255 := F.bd _
theorem mulI_val (x y : F) : mulI x.toNat y.toNat = ((gm x y).toNat : Int) := by simp [mulI]
theorem xor_val (x y : F) : bits .xor .u8 (x.toNat : Int) (y.toNat : Int) = ((ga x y).toNat : Int) := by
  rw [u8_xor_nat _ _ (bl x) (bl y), F.val_add]
theorem exists_F {a : Int} (h0 : 0 ≤ a) (h1 : a ≤ 255) : ∃ x : F, a = (x.toNat : Int) := ⟨toF a, (val_toF h0 h1).symm⟩

def dblI (a : Int) : Int := ((dbl a.toNat : Nat) : Int)
set_option maxHeartbeats 400000 in
theorem double_any (a : Int) (w : World) (h0 : 0 ≤ a) (h1 : a ≤ 255) :
    Calls Tryz.prog 151 #[.int .u8 a] w fun e w' => e = .returned (.int .u8 (dblI a)) ∧ w = w' := by
  go_enter Tryz.func151, Tryz.ntmps151
  go_wp2
  go_ret
  refine ⟨?_, rfl⟩
  have e : bits .xor .u8 (a * 2 % 256) (a / 128 * 29) = dblI a := by
    rw [u8_xor _ _ (by omega) (by omega) (by omega) (by omega)]
    unfold dblI dbl
    congr 3 <;> omega
  show Ending.returned (.int .u8 (bits .xor .u8 (a * 2 % 256) (a / 128 * 29))) = _
  rw [e]

theorem mul_step (x : F) (b k : Nat) (hb : b < 256) :
    bits .xor .u8 (pTo x.toNat b k : Nat) (bits .and .u8 ((b : Int) / 2 ^ k) 1 * (aTo x.toNat k : Nat) % 256) = ((pTo x.toNat b (k + 1) : Nat) : Int) := by
  have ha := aTo_lt (bl x) k
  have hp := pTo_lt b (bl x) k
  have e : ((b : Int) / 2 ^ k) = ((b / 2 ^ k : Nat) : Int) := by norm_cast
  have hd : b / 2 ^ k < 256 := Nat.lt_of_le_of_lt (Nat.div_le_self _ _) hb
  rw [e]
  have e2 : bits .and .u8 ((b / 2 ^ k : Nat) : Int) 1 = ((b / 2 ^ k % 2 : Nat) : Int) := by
    rw [show (1 : Int) = ((1 : Nat) : Int) from rfl, u8_and_nat _ _ hd (by decide), Nat.and_one_is_mod]
  rw [e2]
  have hb2 : b / 2 ^ k % 2 = 0 ∨ b / 2 ^ k % 2 = 1 := by omega
  have e3 : (((b / 2 ^ k % 2 : Nat) : Int) * (aTo x.toNat k : Nat) % 256) = ((b / 2 ^ k % 2 * aTo x.toNat k : Nat) : Int) := by
    rcases hb2 with h | h <;> rw [h] <;> simp <;> omega
  rw [e3, u8_xor_nat _ _ hp (by rcases hb2 with h | h <;> rw [h] <;> omega)]
  rfl
set_option maxHeartbeats 400000 in
theorem mul_F (x y : F) (w : World) :
    Calls Tryz.prog 137 #[.int .u8 x.toNat, .int .u8 y.toNat] w fun e w' => e = .returned (.int .u8 (gm x y).toNat) ∧ w = w' := by
  have hx := (bl x)
  have hy := (bl y)
  go_enter Tryz.func137, Tryz.ntmps137
  go_wp2
  go_loop [0, 5, 7] (fun a p i => ∃ k : Nat, k ≤ 8 ∧ i = .int .i64 k ∧ a = .int .u8 (aTo x.toNat k : Nat) ∧ p = .int .u8 (pTo x.toNat y.toNat k : Nat)) (fun _ _ i => 8 - (intOf i).toNat)
  case atStart => exact ⟨0, by omega, rfl, rfl, rfl⟩
  case round =>
    obtain ⟨k, hk, rfl, rfl, rfl⟩ := hrel
    by_cases hlt : k < 8
    · have ha := aTo_lt (bl x) k
      have hp := pTo_lt y.toNat (bl x) k
      have HS : Hid _ := mul_step x y.toNat k hy
      go_wp2_with (go_at_call 151; refine (double_any _ _ (by omega) (by omega)).mono ?_; rintro e w' ⟨rfl, rfl⟩)
      go_round
      case rel => exact ⟨k + 1, by omega, by go_num, rfl, by rw [HS.out]⟩
      case measure => simp [intOf]; omega
    · have : k = 8 := by omega
      subst this
      go_wp2
      go_ret
      exact ⟨by rw [F.val_mul]; rfl, rfl⟩
theorem mul_any (a b : Int) (w : World) (h0 : 0 ≤ a) (h1 : a ≤ 255) (g0 : 0 ≤ b) (g1 : b ≤ 255) :
    Calls Tryz.prog 137 #[.int .u8 a, .int .u8 b] w fun e w' => e = .returned (.int .u8 (mulI a b)) ∧ w = w' := by
  obtain ⟨x, rfl⟩ := exists_F h0 h1
  obtain ⟨y, rfl⟩ := exists_F g0 g1
  rw [mulI_val]
  exact mul_F x y w
end Go.Proofs.YtkoakingmnjdoaaGreatDoor
