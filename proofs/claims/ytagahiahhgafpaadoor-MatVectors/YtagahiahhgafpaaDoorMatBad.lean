/- What Times and Left of package mat answer where they refuse; nothing that was there turns. -/
import Derived.Test.YtagahiahhgafpaaDoorMatV
import Derived.Test.YtagahiahhgafpaaDoorHolds
namespace Go.Proofs.YtagahiahhgafpaaDoor
open Go.RowKit Gf
set_option linter.unusedVariables false
set_option maxHeartbeats 400000 in
theorem times_bad (r c : Int) (a b : Option Addr) (l cap lv cv : Nat) (w : World) (s : Addr) (hs : w.cell? ⟨0, 0, none⟩ = some (errAt s)) (h : ¬ (0 ≤ r ∧ r ≤ 64 ∧ 0 ≤ c ∧ c ≤ 64 ∧ (l : Int) = r * c) ∨ (lv : Int) ≠ c) :
    Calls Tryd.prog 36 #[.agg #[.int .i64 r, .int .i64 c, .slice a l cap], .slice b lv cv] w fun e w' => e = .returned (.tuple #[.slice none 0 0, errAt s]) ∧ Below w.heap.size w w' := by
  have hs1 := cell?_alloc_old (.cells #[.int .i64 r, .int .i64 c, .slice a l cap] 24) hs
  have HS : Hid _ := hs1
  clear hs
  unfold errAt at *
  by_cases hf : 0 ≤ r ∧ r ≤ 64 ∧ 0 ≤ c ∧ c ≤ 64 ∧ (l : Int) = r * c
  · have hne : ((lv : Int) != c) = true := by rw [bne_iff_ne]; exact h.resolve_left (fun q => q hf)
    obtain ⟨r, rfl⟩ := Int.eq_ofNat_of_zero_le hf.1
    obtain ⟨c, rfl⟩ := Int.eq_ofNat_of_zero_le hf.2.2.1
    have hr : r ≤ 64 := by omega
    have hc : c ≤ 64 := by omega
    have HL : Hid (l = r * c) := by have := hf.2.2.2.2; rw [← Int.natCast_mul] at this; show l = r * c; omega
    clear h hf hs1
    go_enter Tryd.func36, Tryd.ntmps36
    go_wp2_with fail
    refine Calls.mono (check_ok r c a l cap _ hr hc HL.out) ?_
    rintro e w1 ⟨rfl, hb1⟩
    have k1 := heap_later (heap_alloc_last w (.cells #[.int .i64 r, .int .i64 c, .slice a l cap] 24)) hb1
    have c1 := cellAt k1 1 _ rfl
    have c9 := cell_later hb1 HS.out
    have HB1 : Hid (Below w.heap.size w w1) := ((Below.refl w.heap.size w).alloc (Nat.le_refl _) _).trans (hb1.mono (by simp))
    clear hb1 k1
    go_wp2
    go_region
    go_wp2
    go_ret2
    exact ⟨rfl, HB1.out.drew⟩
  · have HF : Hid _ := hf
    clear h hf hs1
    go_enter Tryd.func36, Tryd.ntmps36
    go_wp2_with fail
    refine Calls.mono (check_bad r c a l cap _ _ HS.out HF.out) ?_
    rintro e w1 ⟨rfl, hb1⟩
    have c9 := cell_later hb1 HS.out
    have HB1 : Hid (Below w.heap.size w w1) := ((Below.refl w.heap.size w).alloc (Nat.le_refl _) _).trans (hb1.mono (by simp))
    clear hb1
    go_wp2
    go_region
    go_wp2
    go_ret2
    exact ⟨rfl, HB1.out.drew⟩
set_option maxHeartbeats 400000 in
theorem left_bad (r c : Int) (a b : Option Addr) (l cap lv cv : Nat) (w : World) (s : Addr) (hs : w.cell? ⟨0, 0, none⟩ = some (errAt s)) (h : ¬ (0 ≤ r ∧ r ≤ 64 ∧ 0 ≤ c ∧ c ≤ 64 ∧ (l : Int) = r * c) ∨ (lv : Int) ≠ r) :
    Calls Tryd.prog 37 #[.slice b lv cv, .agg #[.int .i64 r, .int .i64 c, .slice a l cap]] w fun e w' => e = .returned (.tuple #[.slice none 0 0, errAt s]) ∧ Below w.heap.size w w' := by
  have hs1 := cell?_alloc_old (.cells #[.int .i64 r, .int .i64 c, .slice a l cap] 24) hs
  have HS : Hid _ := hs1
  clear hs
  unfold errAt at *
  by_cases hf : 0 ≤ r ∧ r ≤ 64 ∧ 0 ≤ c ∧ c ≤ 64 ∧ (l : Int) = r * c
  · have hne : ((lv : Int) != r) = true := by rw [bne_iff_ne]; exact h.resolve_left (fun q => q hf)
    obtain ⟨r, rfl⟩ := Int.eq_ofNat_of_zero_le hf.1
    obtain ⟨c, rfl⟩ := Int.eq_ofNat_of_zero_le hf.2.2.1
    have hr : r ≤ 64 := by omega
    have hc : c ≤ 64 := by omega
    have HL : Hid (l = r * c) := by have := hf.2.2.2.2; rw [← Int.natCast_mul] at this; show l = r * c; omega
    clear h hf hs1
    go_enter Tryd.func37, Tryd.ntmps37
    go_wp2_with fail
    refine Calls.mono (check_ok r c a l cap _ hr hc HL.out) ?_
    rintro e w1 ⟨rfl, hb1⟩
    have k1 := heap_later (heap_alloc_last w (.cells #[.int .i64 r, .int .i64 c, .slice a l cap] 24)) hb1
    have c1 := cellAt k1 0 _ rfl
    have c9 := cell_later hb1 HS.out
    have HB1 : Hid (Below w.heap.size w w1) := ((Below.refl w.heap.size w).alloc (Nat.le_refl _) _).trans (hb1.mono (by simp))
    clear hb1 k1
    go_wp2
    go_region
    go_wp2
    go_ret2
    exact ⟨rfl, HB1.out.drew⟩
  · have HF : Hid _ := hf
    clear h hf hs1
    go_enter Tryd.func37, Tryd.ntmps37
    go_wp2_with fail
    refine Calls.mono (check_bad r c a l cap _ _ HS.out HF.out) ?_
    rintro e w1 ⟨rfl, hb1⟩
    have c9 := cell_later hb1 HS.out
    have HB1 : Hid (Below w.heap.size w w1) := ((Below.refl w.heap.size w).alloc (Nat.le_refl _) _).trans (hb1.mono (by simp))
    clear hb1
    go_wp2
    go_region
    go_wp2
    go_ret2
    exact ⟨rfl, HB1.out.drew⟩
end Go.Proofs.YtagahiahhgafpaaDoor
