/- What Check of package mat answers, of every matrix; nothing that was there turns. -/
import Derived.Test.YtkoakingmnjdoaaGreatDoorRows
import Derived.WalkKit
import Derived.WalkSpells
import Derived.WalkLawsBesides
import Derived.Handy
namespace Go.Proofs.YtkoakingmnjdoaaGreatDoor
open Go.RowKit
set_option maxRecDepth 20000
/-- may a matrix have so many rows? -/
def szB (x : Int) : Bool := decide (0 ≤ x) && decide (x ≤ 64)
theorem szB_true {x : Int} (h0 : 0 ≤ x) (h1 : x ≤ 64) : szB x = true := by simp [szB, h0, h1]
theorem szB_false {x : Int} (h : ¬ (0 ≤ x ∧ x ≤ 64)) : szB x = false := by simp [szB]; omega
set_option maxHeartbeats 400000 in
theorem fits_any (x : Int) (w : World) : Calls Tryz.prog 121 #[.int .i64 x] w fun e w' => e = .returned (.bool (szB x)) ∧ w = w' := by
  by_cases h0 : 0 ≤ x
  · by_cases h1 : x ≤ 64
    · go_enter Tryz.func121, Tryz.ntmps121
      go_wp2
      go_ret
      exact ⟨by rw [szB_true h0 h1]; rfl, rfl⟩
    · go_enter Tryz.func121, Tryz.ntmps121
      go_wp2
      go_ret
      exact ⟨by rw [szB_false (by omega)]; rfl, rfl⟩
  · go_enter Tryz.func121, Tryz.ntmps121
    go_wp2
    go_ret
    exact ⟨by rw [szB_false (by omega)]; rfl, rfl⟩
theorem fits_yes (x : Int) (w : World) (h0 : 0 ≤ x) (h1 : x ≤ 64) : Calls Tryz.prog 121 #[.int .i64 x] w fun e w' => e = .returned (.bool true) ∧ w = w' :=
  (fits_any x w).mono fun e w' ⟨a, b⟩ => ⟨by rw [a, szB_true h0 h1], b⟩
theorem fits_no (x : Int) (w : World) (h : ¬ (0 ≤ x ∧ x ≤ 64)) : Calls Tryz.prog 121 #[.int .i64 x] w fun e w' => e = .returned (.bool false) ∧ w = w' :=
  (fits_any x w).mono fun e w' ⟨a, b⟩ => ⟨by rw [a, szB_false h], b⟩
theorem mul_small {r c : Nat} (hr : r ≤ 64) (hc : c ≤ 64) : 0 ≤ (r : Int) * (c : Int) ∧ (r : Int) * (c : Int) ≤ 4096 := by
  have h := Nat.mul_le_mul hr hc
  have e : (r : Int) * (c : Int) = ((r * c : Nat) : Int) := by simp
  omega
set_option maxHeartbeats 400000 in
theorem check_ok (r c : Nat) (a : Option Addr) (l cap : Nat) (w : World) (hr : r ≤ 64) (hc : c ≤ 64) (hl : l = r * c) :
    Calls Tryz.prog 97 #[.agg #[.int .i64 r, .int .i64 c, .slice a l cap]] w fun e w' => e = .returned .nilIface ∧ Below w.heap.size w w' := by
  obtain ⟨m0, m1⟩ := mul_small hr hc
  have hb : ((l : Int) != (r : Int) * (c : Int)) = false := by rw [hl]; simp
  clear hl
  go_enter Tryz.func97, Tryz.ntmps97
  go_wp2_with (go_at_call 121; refine (fits_yes _ _ (by omega) (by omega)).mono ?_; rintro e w' ⟨rfl, rfl⟩)
  go_ret
  exact ⟨rfl, (Below.refl _ _).alloc (Nat.le_refl _) _⟩
set_option maxHeartbeats 400000 in
theorem check_bad (r c : Int) (a : Option Addr) (l cap : Nat) (w : World) (sh : Value) (hs : w.cell? ⟨4, 0, none⟩ = some sh) (h : ¬ (0 ≤ r ∧ r ≤ 64 ∧ 0 ≤ c ∧ c ≤ 64 ∧ (l : Int) = r * c)) :
    Calls Tryz.prog 97 #[.agg #[.int .i64 r, .int .i64 c, .slice a l cap]] w fun e w' => e = .returned sh ∧ Below w.heap.size w w' := by
  have hg : 4 < w.heap.size := by
    have := World.block_lt_of_cell? w _ hs; simp at this; omega
  by_cases h1 : 0 ≤ r ∧ r ≤ 64
  · by_cases h2 : 0 ≤ c ∧ c ≤ 64
    · obtain ⟨r, rfl⟩ := Int.eq_ofNat_of_zero_le h1.1
      obtain ⟨c, rfl⟩ := Int.eq_ofNat_of_zero_le h2.1
      obtain ⟨m0, m1⟩ := mul_small (r := r) (c := c) (by omega) (by omega)
      have hb : ((l : Int) != (r : Int) * (c : Int)) = true := by rw [bne_iff_ne]; omega
      have k1 := h1.2
      have k2 := h2.2
      clear h h1 h2
      go_enter Tryz.func97, Tryz.ntmps97
      go_wp2_with (go_at_call 121; refine (fits_yes _ _ (by omega) (by omega)).mono ?_; rintro e w' ⟨rfl, rfl⟩)
      go_ret
      exact ⟨rfl, (Below.refl _ _).alloc (Nat.le_refl _) _⟩
    · have H2 : Hid _ := h2
      obtain ⟨k0, k1⟩ := h1
      clear h h2
      go_enter Tryz.func97, Tryz.ntmps97
      go_wp2_with fail
      refine (fits_yes _ _ k0 k1).mono ?_
      rintro e w' ⟨rfl, rfl⟩
      go_wp2_with fail
      refine (fits_no _ _ H2.out).mono ?_
      rintro e w' ⟨rfl, rfl⟩
      go_wp2_with fail
      go_ret
      exact ⟨rfl, (Below.refl _ _).alloc (Nat.le_refl _) _⟩
  · have H2 : Hid _ := h1
    clear h h1
    go_enter Tryz.func97, Tryz.ntmps97
    go_wp2_with fail
    refine (fits_no _ _ H2.out).mono ?_
    rintro e w' ⟨rfl, rfl⟩
    go_wp2_with fail
    go_ret
    exact ⟨rfl, (Below.refl _ _).alloc (Nat.le_refl _) _⟩
end Go.Proofs.YtkoakingmnjdoaaGreatDoor
