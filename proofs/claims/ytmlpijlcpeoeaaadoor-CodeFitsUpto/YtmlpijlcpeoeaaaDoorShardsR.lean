/- What the document's own Half and Stripes answer, of all numbers; nothing that was there turns. -/
import Derived.Test.YtmlpijlcpeoeaaaDoorShardsW
namespace Go.Proofs.YtmlpijlcpeoeaaaDoor
open Go.RowKit Gf
set_option linter.unusedVariables false
set_option maxRecDepth 20000
theorem rhalf_F (k size : Int) (w : World) :
    Calls Tryd.prog 24 #[.int .i64 k, .int .i64 size] w fun e w' => e = .returned (.tuple #[.int .i64 (halfV k size), .int .i64 (halfE k size)]) ∧ w = w' := by
  by_cases hk : OkK k
  · obtain ⟨b1, b2⟩ := hk
    obtain ⟨a, rfl⟩ := Int.eq_ofNat_of_zero_le (show 0 ≤ k by omega)
    have c1 : 1 ≤ a := by omega
    have c2 : a ≤ 14 := by omega
    have g1 : (1 : Int) ≤ a := by omega
    have g2 : (a : Int) ≤ 14 := by omega
    by_cases h1 : size < 1
    · have e1 : halfE a size = 12 := by unfold halfE; rw [if_pos (show OkK a from ⟨by omega, by omega⟩), if_pos h1]
      rw [halfV_no (by rw [e1]; decide), e1]
      clear e1
      go_enter Tryd.func24, Tryd.ntmps24
      go_wp2
      go_ret2
      exact ⟨rfl, rfl⟩
    · obtain ⟨n, rfl⟩ := Int.eq_ofNat_of_zero_le (show 0 ≤ size by omega)
      have d1 : 1 ≤ n := by omega
      have HY : Hid (∀ h : Nat, (h - 1) * (2 * a) < n → n ≤ h * (2 * a) → h ≤ 64 → halfV a n = h ∧ halfE a n = 0) := fun h x1 x2 x3 => by
        have d2 : n ≤ 128 * a := by
          have := Nat.mul_le_mul_right (2 * a) x3
          omega
        exact ⟨by rw [halfV_ok c1 c2 d1 d2]; exact (cnt_eq (by omega) (.inr x1) x2).symm, halfE_ok c1 c2 d1 d2⟩
      have HN : Hid (64 * (2 * a) < n → halfV a n = 0 ∧ halfE a n = 20) := fun x => by
        have e1 : halfE a n = 20 := by unfold halfE; rw [if_pos (show OkK a from ⟨by omega, by omega⟩), if_neg h1, if_pos (by omega)]
        exact ⟨halfV_no (by rw [e1]; decide), e1⟩
      generalize halfV a n = hv at *
      generalize halfE a n = he at *
      clear b1 b2
      go_enter Tryd.func24, Tryd.ntmps24
      go_wp2
      go_loopw [6] (fun t wr => ∃ h : Nat, 1 ≤ h ∧ h ≤ 65 ∧ t = .int .i64 h ∧ Hid ((h - 1) * (2 * a) < n) ∧ wr = w) (fun t _ => 65 - (intOf t).toNat)
      case atStart => exact ⟨1, by omega, by omega, rfl, by show _ < _; omega, rfl⟩
      case round =>
        obtain ⟨h, l1, l2, rfl, HL, rfl⟩ := hrel
        by_cases hlt : h ≤ 64
        · obtain ⟨q, hq⟩ : ∃ q : Nat, q = h * (2 * a) := ⟨_, rfl⟩
          have hq2 : q ≤ 1792 := by
            rw [hq]
            exact Nat.le_trans (Nat.mul_le_mul hlt (show 2 * a ≤ 28 by omega)) (by decide)
          have HQ : Hid ((2 : Int) * a * h = (q : Int)) := by
            show _ = _
            rw [hq, Nat.mul_comm h]; simp
          have HQ2 : Hid _ := hq
          by_cases hx : n ≤ q
          · obtain ⟨r1, r2⟩ := HY.out h HL.out (by rw [← hq]; exact hx) hlt
            subst r1 r2
            have hx' : (n : Int) ≤ q := by omega
            clear hq
            have hqq := HQ.out
            go_wp2
            go_ret2
            exact ⟨rfl, rfl⟩
          · have hx' : ¬ (n : Int) ≤ q := by omega
            clear hq
            have hqq := HQ.out
            go_wp2
            exact ⟨⟨h + 1, by omega, by omega, by go_num, by show _ < _; rw [Nat.add_sub_cancel, ← HQ2.out]; omega, trivial⟩, by simp [intOf]; omega⟩
        · obtain rfl : h = 65 := by omega
          obtain ⟨r1, r2⟩ := HN.out HL.out
          subst r1 r2
          go_wp2
          go_ret2
          exact ⟨rfl, rfl⟩
  · have e1 : halfE k size = 1 := by unfold halfE; rw [if_neg hk]
    rw [halfV_no (by rw [e1]; decide), e1]
    clear e1
    by_cases h1 : k < 1
    · go_enter Tryd.func24, Tryd.ntmps24
      go_wp2
      go_ret2
      exact ⟨rfl, rfl⟩
    · have h2 : 14 < k := by simp only [OkK] at hk; omega
      clear hk
      go_enter Tryd.func24, Tryd.ntmps24
      go_wp2
      go_ret2
      exact ⟨rfl, rfl⟩
end Go.Proofs.YtmlpijlcpeoeaaaDoor
