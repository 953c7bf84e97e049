/- What the element functions of package gf (and of the document's answers) return, of all elements and numbers; nothing is written. -/
import Derived.Test.YtmepggihgbjfiaaRows
import Derived.Test.YtmepggihgbjfiaaGf
import Derived.WalkKit
import Derived.WalkSpells
import Derived.WalkLawsBesides
namespace Go.Proofs.Ytmepggihgbjfiaa
open Go.RowKit Gf

/-- the element of a number -/
def toF (a : Int) : F := ⟨a.toNat % 256, Nat.mod_lt _ (by decide)⟩
@[simp] theorem toF_val (x : F) : toF (x.val : Int) = x := F.ext' (by simp [toF, Nat.mod_eq_of_lt x.lt])
theorem val_toF {a : Int} (h0 : 0 ≤ a) (h1 : a ≤ 255) : ((toF a).val : Int) = a := by
  have : a.toNat % 256 = a.toNat := Nat.mod_eq_of_lt (by omega)
  simp only [toF, this]; omega
theorem F.bd (x : F) : 0 ≤ (x.val : Int) ∧ (x.val : Int) ≤ 255 := ⟨by omega, by have := x.lt; omega⟩
/-- the product of numbers, as elements -/
def mulI (a b : Int) : Int := ((toF a * toF b).val : Int)
theorem mulI_bd (a b : Int) : 0 ≤ mulI a b ∧ mulI a b ≤ 255 := F.bd _
theorem mulI_val (x y : F) : mulI x.val y.val = ((x * y).val : Int) := by simp [mulI]
theorem xor_val (x y : F) : bits .xor .u8 (x.val : Int) (y.val : Int) = ((x + y).val : Int) := by
  rw [u8_xor_nat _ _ x.lt y.lt]; rfl
theorem exists_F {a : Int} (h0 : 0 ≤ a) (h1 : a ≤ 255) : ∃ x : F, a = (x.val : Int) := ⟨toF a, (val_toF h0 h1).symm⟩

def dblI (a : Int) : Int := ((dbl a.toNat : Nat) : Int)
set_option maxHeartbeats 400000 in
theorem double_any (a : Int) (w : World) (h0 : 0 ≤ a) (h1 : a ≤ 255) :
    Calls Try.prog 30 #[.int .u8 a] w fun e w' => e = .returned (.int .u8 (dblI a)) ∧ w = w' := by
  go_enter Try.func30, Try.ntmps30
  go_wp2
  go_ret
  refine ⟨?_, rfl⟩
  have e : bits .xor .u8 (a * 2 % 256) (a / 128 * 29) = dblI a := by
    rw [u8_xor _ _ (by omega) (by omega) (by omega) (by omega)]
    unfold dblI dbl
    congr 3 <;> omega
  show Ending.returned (.int .u8 (bits .xor .u8 (a * 2 % 256) (a / 128 * 29))) = _
  rw [e]

theorem mul_step (x : F) (b k : Nat) (hb : b < 256) :
    bits .xor .u8 (pTo x.val b k : Nat) (bits .and .u8 ((b : Int) / 2 ^ k) 1 * (aTo x.val k : Nat) % 256) = ((pTo x.val b (k + 1) : Nat) : Int) := by
  have ha := aTo_lt x.lt k
  have hp := pTo_lt b x.lt k
  have e : ((b : Int) / 2 ^ k) = ((b / 2 ^ k : Nat) : Int) := by norm_cast
  have hd : b / 2 ^ k < 256 := Nat.lt_of_le_of_lt (Nat.div_le_self _ _) hb
  rw [e]
  have e2 : bits .and .u8 ((b / 2 ^ k : Nat) : Int) 1 = ((b / 2 ^ k % 2 : Nat) : Int) := by
    rw [show (1 : Int) = ((1 : Nat) : Int) from rfl, u8_and_nat _ _ hd (by decide), Nat.and_one_is_mod]
  rw [e2]
  have hb2 : b / 2 ^ k % 2 = 0 ∨ b / 2 ^ k % 2 = 1 := by omega
  have e3 : (((b / 2 ^ k % 2 : Nat) : Int) * (aTo x.val k : Nat) % 256) = ((b / 2 ^ k % 2 * aTo x.val k : Nat) : Int) := by
    rcases hb2 with h | h <;> rw [h] <;> simp <;> omega
  rw [e3, u8_xor_nat _ _ hp (by rcases hb2 with h | h <;> rw [h] <;> omega)]
  rfl
set_option maxHeartbeats 400000 in
theorem mul_F (x y : F) (w : World) :
    Calls Try.prog 17 #[.int .u8 x.val, .int .u8 y.val] w fun e w' => e = .returned (.int .u8 (x * y).val) ∧ w = w' := by
  have hx := x.lt
  have hy := y.lt
  go_enter Try.func17, Try.ntmps17
  go_wp2
  go_loop [0, 5, 7] (fun a p i => ∃ k : Nat, k ≤ 8 ∧ i = .int .i64 k ∧ a = .int .u8 (aTo x.val k : Nat) ∧ p = .int .u8 (pTo x.val y.val k : Nat)) (fun _ _ i => 8 - (intOf i).toNat)
  case atStart => exact ⟨0, by omega, rfl, rfl, rfl⟩
  case round =>
    obtain ⟨k, hk, rfl, rfl, rfl⟩ := hrel
    by_cases hlt : k < 8
    · have ha := aTo_lt x.lt k
      have hp := pTo_lt y.val x.lt k
      have HS : Hid _ := mul_step x y.val k hy
      go_wp2_with (go_at_call 30; refine (double_any _ _ (by omega) (by omega)).mono ?_; rintro e w' ⟨rfl, rfl⟩)
      go_round
      case rel => exact ⟨k + 1, by omega, by go_num, rfl, by rw [HS.out]⟩
      case measure => simp [intOf]; omega
    · have : k = 8 := by omega
      subst this
      go_wp2
      go_ret
      exact ⟨rfl, rfl⟩
theorem mul_any (a b : Int) (w : World) (h0 : 0 ≤ a) (h1 : a ≤ 255) (g0 : 0 ≤ b) (g1 : b ≤ 255) :
    Calls Try.prog 17 #[.int .u8 a, .int .u8 b] w fun e w' => e = .returned (.int .u8 (mulI a b)) ∧ w = w' := by
  obtain ⟨x, rfl⟩ := exists_F h0 h1
  obtain ⟨y, rfl⟩ := exists_F g0 g1
  rw [mulI_val]
  exact mul_F x y w
end Go.Proofs.Ytmepggihgbjfiaa
