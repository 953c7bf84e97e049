/- The walk of BaseGroups: at all numbers. -/
import Derived.Test.YtokepcikpkffpaaDoorBaseA
import Derived.Test.YtokepcikpkffpaaDoorErrs
namespace Go.Proofs.YtokepcikpkffpaaDoor
open Go.RowKit Gf
set_option linter.unusedVariables false
set_option maxRecDepth 20000
def gsBase : List Nat := [0, 1]
set_option maxHeartbeats 4000000 in
theorem groups_walk (k r : Int) (w : World) (hk0 : -9223372036854775808 ≤ k) (hk1 : k ≤ 9223372036854775807) (hr0 : -9223372036854775808 ≤ r) (hr1 : r ≤ 9223372036854775807) (es : List Addr) (hes : ErrsAt w gsBase es) :
    Calls Tryd.prog 6 #[.int .i64 k, .int .i64 r] w fun e w' => e = .returned (.bool true) ∧ Below w.heap.size w w' := by
  obtain ⟨s0, _, hs, _⟩ := errs_at hes 0 _ rfl
  have HS : Hid _ := hs
  clear hs hes
  by_cases hL : LegalP k r
  · obtain ⟨a, b, rfl, rfl, h1, h2, h3⟩ := legal_nat hL
    obtain ⟨g1, g2, g3, g4⟩ := groupN_least h1 h2 h3
    have hx : a < 2 ∨ b < 3 ∨ 2 ≤ a ∧ 3 ≤ b ∧ a + groupN a b < 2 * a := by
      by_cases q1 : a < 2
      · exact .inl q1
      · by_cases q2 : b < 3
        · exact .inr (.inl q2)
        · refine .inr (.inr ⟨by omega, by omega, ?_⟩)
          have q3 : (groupN a b - 1) * 2 ≤ (groupN a b - 1) * (b - 1) := Nat.mul_le_mul_left _ (by omega)
          omega
    have HF : Hid _ := bgroup_ok a b
    have HF' := fun w => HF.out w h1 h2 h3
    clear HF
    generalize groupN a b = g at *
    obtain ⟨q, rfl⟩ : ∃ q, g = q + 1 := ⟨g - 1, by omega⟩
    obtain ⟨m, rfl⟩ : ∃ m, b = m + 1 := ⟨b - 1, by omega⟩
    rw [Nat.add_sub_cancel] at g2 g3
    rw [Nat.add_sub_cancel] at g3
    have hm0 : (1 : Int) ≤ m := by omega
    have e1 : (((q + 1) * m : Nat) : Int) = ((q : Int) + 1) * m := by simp
    have e2 : ((q * m : Nat) : Int) = (q : Int) * m := by simp
    have hq : q * m ≤ 256 := Nat.le_trans (Nat.mul_le_mul (show q ≤ 16 by omega) (show m ≤ 16 by omega)) (by decide)
    have hq' : (q + 1) * m ≤ 256 := Nat.le_trans (Nat.mul_le_mul (show q + 1 ≤ 16 by omega) (show m ≤ 16 by omega)) (by decide)
    have p1 : (1 : Int) ≤ (q : Int) + 1 := by omega
    have p2 : (a : Int) ≤ ((q : Int) + 1) * m := by omega
    have p3 : (q : Int) * m < a := by omega
    have p4 : 0 ≤ (q : Int) * m := by omega
    have p5 : (q : Int) * m ≤ 256 := by omega
    have p6 : 0 ≤ ((q : Int) + 1) * m := by omega
    have p7 : ((q : Int) + 1) * m ≤ 256 := by omega
    have HF : Hid _ := HF'
    clear HF' hL g1 g2 g3 e1 e2 hq hq'
    have hq16 : q + 1 ≤ 16 := g4
    have ha16 : a ≤ 14 := by omega
    have hm16 : m ≤ 15 := by omega
    have HX : Hid _ := hx
    clear hx
    by_cases p9 : (m : Int) + 1 < 3
    · clear HX
      go_enter Tryd.func6, Tryd.ntmps6
      go_wp2_with fail
      refine Calls.mono (alive4_ok _) ?_
      rintro e w1 ⟨rfl, hb1⟩
      have HB : Hid _ := hb1
      clear hb1
      go_wp2_with fail
      refine Calls.mono (HF.out _) ?_
      rintro e w2 ⟨rfl, rfl⟩
      go_wp2
      go_ret
      exact ⟨by first | rfl | (simp; omega), HB.out⟩
    · by_cases p8 : (a : Int) < 2
      · clear HX
        go_enter Tryd.func6, Tryd.ntmps6
        go_wp2_with fail
        refine Calls.mono (alive4_ok _) ?_
        rintro e w1 ⟨rfl, hb1⟩
        have HB : Hid _ := hb1
        clear hb1
        go_wp2_with fail
        refine Calls.mono (HF.out _) ?_
        rintro e w2 ⟨rfl, rfl⟩
        go_wp2
        go_ret
        exact ⟨by first | rfl | (simp; omega), HB.out⟩
      · have p10 : (a : Int) + ((q : Int) + 1) < 2 * a := by rcases HX.out with h | h | ⟨_, _, h⟩ <;> omega
        clear HX
        go_enter Tryd.func6, Tryd.ntmps6
        go_wp2_with fail
        refine Calls.mono (alive4_ok _) ?_
        rintro e w1 ⟨rfl, hb1⟩
        have HB : Hid _ := hb1
        clear hb1
        go_wp2_with fail
        refine Calls.mono (HF.out _) ?_
        rintro e w2 ⟨rfl, rfl⟩
        go_wp2
        go_ret
        exact ⟨by first | rfl | (simp; omega), HB.out⟩
  · have H : Hid _ := hL
    clear hL
    go_enter Tryd.func6, Tryd.ntmps6
    go_wp2_with fail
    refine Calls.mono (alive4_ok _) ?_
    rintro e w1 ⟨rfl, hb1⟩
    have HB : Hid _ := hb1
    have HS1 : Hid _ := cell_later hb1 HS.out
    clear hb1
    go_wp2_with fail
    refine Calls.mono (bgroup_bad k r _ s0 HS1.out hk0 hk1 hr0 hr1 H.out) ?_
    unfold errAt
    rintro e w2 ⟨rfl, rfl⟩
    go_wp2_with fail
    refine Calls.mono (legal_no k r _ hk0 hk1 hr0 hr1 H.out) ?_
    rintro e w2 ⟨rfl, rfl⟩
    go_wp2
    go_ret
    exact ⟨rfl, HB.out⟩
end Go.Proofs.YtokepcikpkffpaaDoor
