/- What write of package plan answers: the program that sums sources up, in memory. -/
import Derived.Test.YtkoakingmnjdoaaGreatDoorMatA
import Derived.Test.YtkoakingmnjdoaaGreatDoorHolds
import Derived.Test.YtkoakingmnjdoaaGreatDoorHalfL
import Derived.Test.YtkoakingmnjdoaaGreatDoorMatV
import Derived.BigRegion
import Derived.Deep.DeepCutAuto
import Derived.Deep.RegionHeld3
import Derived.Test.YtkoakingmnjdoaaGreatDoorMatO
import Derived.Test.YtkoakingmnjdoaaGreatDoorMatTake
import Derived.Test.YtkoakingmnjdoaaGreatDoorOwn
import Derived.Test.YtkoakingmnjdoaaGreatDoorMatS
import Derived.Test.YtkoakingmnjdoaaGreatDoorSolveM
import Derived.WalkMore
import Derived.Test.YtkoakingmnjdoaaGreatDoorNumBytes
import Derived.Lib.AppendZeros
import Derived.Test.YtkoakingmnjdoaaGreatDoorMatRow
import Derived.Test.YtkoakingmnjdoaaGreatDoorMatT
import Derived.Test.YtkoakingmnjdoaaGreatDoorStepF
import Derived.Test.YtkoakingmnjdoaaGreatDoorJPlanCheap3
import Derived.Test.YtkoakingmnjdoaaGreatDoorDamL
import Derived.Test.YtkoakingmnjdoaaGreatDoorStepC
import Derived.Test.YtkoakingmnjdoaaGreatDoorGfApp
/- What Check and Group of package base answer, and the document's own Legal and Group, of all numbers. -/
namespace Go.Proofs.YtkoakingmnjdoaaGreatDoor
open Go.RowKit Gf
set_option linter.unusedVariables false
set_option maxRecDepth 20000
/-- legal numbers of shards -/
def LegalP (k r : Int) : Prop := 1 ≤ k ∧ 2 ≤ r ∧ k + r ≤ 16
instance (k r : Int) : Decidable (LegalP k r) := inferInstanceAs (Decidable (_ ∧ _))
theorem legal_nat {k r : Int} (h : LegalP k r) : ∃ a b : Nat, k = a ∧ r = b ∧ 1 ≤ a ∧ 2 ≤ b ∧ a + b ≤ 16 := by
  obtain ⟨h1, h2, h3⟩ := h
  exact ⟨k.toNat, r.toNat, by omega, by omega, by omega, by omega, by omega⟩
theorem bcheck_ok (k r : Nat) (w : World) (h1 : 1 ≤ k) (h2 : 2 ≤ r) (h3 : k + r ≤ 16) :
    Calls Tryz.prog 85 #[.int .i64 k, .int .i64 r] w fun e w' => e = .returned .nilIface ∧ w = w' := by
  have a1 : (1 : Int) ≤ k := by omega
  have a2 : (2 : Int) ≤ r := by omega
  have a3 : (k : Int) ≤ 16 - r := by omega
  clear h1 h2 h3
  go_enter Tryz.func85, Tryz.ntmps85
  go_wp2
  go_ret
  exact ⟨rfl, rfl⟩
theorem bcheck_bad (k r : Int) (w : World) (s : Addr) (hs : w.cell? ⟨0, 0, none⟩ = some (errAt s)) (hk0 : -9223372036854775808 ≤ k) (hk1 : k ≤ 9223372036854775807) (hr0 : -9223372036854775808 ≤ r) (hr1 : r ≤ 9223372036854775807) (h : ¬ LegalP k r) :
    Calls Tryz.prog 85 #[.int .i64 k, .int .i64 r] w fun e w' => e = .returned (errAt s) ∧ w = w' := by
  have hg : 0 < w.heap.size := by
    have := World.block_lt_of_cell? w _ hs; simpa using this
  unfold errAt at *
  have H : k < 1 ∨ 1 ≤ k ∧ r < 2 ∨ 1 ≤ k ∧ 2 ≤ r ∧ 16 - r < k := by
    simp only [LegalP] at h; omega
  clear h
  rcases H with h | ⟨h1, h2⟩ | ⟨h1, h2, h3⟩
  · go_enter Tryz.func85, Tryz.ntmps85
    go_wp2
    go_ret
    exact ⟨rfl, rfl⟩
  · go_enter Tryz.func85, Tryz.ntmps85
    go_wp2
    go_ret
    exact ⟨rfl, rfl⟩
  · go_enter Tryz.func85, Tryz.ntmps85
    go_wp2
    go_ret
    exact ⟨rfl, rfl⟩
/-- how many data shards a group has at most -/
def groupN (k r : Nat) : Nat := (k + (r - 1) - 1) / (r - 1)
theorem groupN_a : ∀ k < 15, ∀ r < 17, 1 ≤ k → 2 ≤ r → 1 ≤ groupN k r ∧ k ≤ groupN k r * (r - 1) := by decide +kernel
theorem groupN_b : ∀ k < 15, ∀ r < 17, 1 ≤ k → 2 ≤ r → (groupN k r - 1) * (r - 1) < k ∧ groupN k r ≤ 16 := by decide +kernel
theorem groupN_least {k r : Nat} (h1 : 1 ≤ k) (h2 : 2 ≤ r) (h3 : k + r ≤ 16) : 1 ≤ groupN k r ∧ k ≤ groupN k r * (r - 1) ∧ (groupN k r - 1) * (r - 1) < k ∧ groupN k r ≤ 16 :=
  let a := groupN_a k (by omega) r (by omega) h1 h2; let b := groupN_b k (by omega) r (by omega) h1 h2; ⟨a.1, a.2, b.1, b.2⟩
theorem bgroup_ok (k r : Nat) (w : World) (h1 : 1 ≤ k) (h2 : 2 ≤ r) (h3 : k + r ≤ 16) :
    Calls Tryz.prog 66 #[.int .i64 k, .int .i64 r] w fun e w' => e = .returned (.tuple #[.int .i64 (groupN k r), .nilIface]) ∧ w = w' := by
  obtain ⟨m, rfl⟩ : ∃ m, r = m + 1 := ⟨r - 1, by omega⟩
  have hm : 1 ≤ m := by omega
  have E2 : Hid (((k : Int) + m - 1) / m = (groupN k (m + 1) : Nat)) := by
    have : (k : Int) + m - 1 = ((k + m - 1 : Nat) : Int) := by omega
    show _ = _
    rw [this, groupN]
    simp
  go_enter Tryz.func66, Tryz.ntmps66
  go_wp2_with (go_at_call 85; refine (bcheck_ok _ _ _ h1 h2 h3).mono ?_; rintro e w' ⟨rfl, rfl⟩)
  rw [E2.out]
  go_ret2
  exact ⟨rfl, rfl⟩
theorem bgroup_bad (k r : Int) (w : World) (s : Addr) (hs : w.cell? ⟨0, 0, none⟩ = some (errAt s)) (hk0 : -9223372036854775808 ≤ k) (hk1 : k ≤ 9223372036854775807) (hr0 : -9223372036854775808 ≤ r) (hr1 : r ≤ 9223372036854775807) (h : ¬ LegalP k r) :
    Calls Tryz.prog 66 #[.int .i64 k, .int .i64 r] w fun e w' => e = .returned (.tuple #[.int .i64 0, errAt s]) ∧ w = w' := by
  have HS : Hid _ := hs
  have H : Hid _ := h
  clear h hs
  unfold errAt
  go_enter Tryz.func66, Tryz.ntmps66
  go_wp2_with fail
  refine (bcheck_bad k r w s HS.out hk0 hk1 hr0 hr1 H.out).mono ?_
  unfold errAt
  rintro e w' ⟨rfl, rfl⟩
  go_wp2_with fail
  go_ret2
  exact ⟨rfl, rfl⟩
theorem legal_yes (k r : Nat) (w : World) (h1 : 1 ≤ k) (h2 : 2 ≤ r) (h3 : k + r ≤ 16) :
    Calls Tryz.prog 14 #[.int .i64 k, .int .i64 r] w fun e w' => e = .returned (.bool true) ∧ w = w' := by
  have a1 : (1 : Int) ≤ k := by omega
  have a2 : (2 : Int) ≤ r := by omega
  have a3 : (k : Int) ≤ 16 := by omega
  have a4 : (r : Int) ≤ 16 := by omega
  have a5 : (k : Int) + r ≤ 16 := by omega
  clear h1 h2 h3
  go_enter Tryz.func14, Tryz.ntmps14
  go_wp2
  go_ret
  exact ⟨rfl, rfl⟩
theorem legal_no (k r : Int) (w : World) (hk0 : -9223372036854775808 ≤ k) (hk1 : k ≤ 9223372036854775807) (hr0 : -9223372036854775808 ≤ r) (hr1 : r ≤ 9223372036854775807) (h : ¬ LegalP k r) :
    Calls Tryz.prog 14 #[.int .i64 k, .int .i64 r] w fun e w' => e = .returned (.bool false) ∧ w = w' := by
  have H : k < 1 ∨ 1 ≤ k ∧ 16 < k ∨ 1 ≤ k ∧ k ≤ 16 ∧ r < 2 ∨ 1 ≤ k ∧ k ≤ 16 ∧ 2 ≤ r ∧ 16 < r ∨ 1 ≤ k ∧ k ≤ 16 ∧ 2 ≤ r ∧ r ≤ 16 ∧ 16 < k + r := by
    simp only [LegalP] at h; omega
  clear h
  rcases H with h1 | ⟨h1, h2⟩ | ⟨h1, h2, h3⟩ | ⟨h1, h2, h3, h4⟩ | ⟨h1, h2, h3, h4, h5⟩ <;>
  · go_enter Tryz.func14, Tryz.ntmps14
    go_wp2
    go_ret
    refine ⟨?_, rfl⟩
    first | rfl | (simp; omega)
theorem rgroup_F (k r : Nat) (w : World) (h1 : 1 ≤ k) (h2 : 2 ≤ r) (h3 : k + r ≤ 16) :
    Calls Tryz.prog 24 #[.int .i64 k, .int .i64 r] w fun e w' => e = .returned (.int .i64 (groupN k r)) ∧ w = w' := by
  obtain ⟨m, rfl⟩ : ∃ m, r = m + 1 := ⟨r - 1, by omega⟩
  obtain ⟨g1, g2, g3, g4⟩ := groupN_least h1 h2 h3
  rw [Nat.add_sub_cancel] at g2 g3
  generalize groupN k (m + 1) = G at *
  have hm : 1 ≤ m := by omega
  have hm' : m ≤ 15 := by omega
  have G2 : Hid _ := g2
  have G3 : Hid _ := g3
  clear g2 g3
  go_enter Tryz.func24, Tryz.ntmps24
  go_wp2
  go_loop [5] (fun i => ∃ g : Nat, 1 ≤ g ∧ g ≤ G ∧ i = .int .i64 g) (fun i => G - (intOf i).toNat)
  case atStart => exact ⟨1, by omega, by omega, rfl⟩
  case round =>
    obtain ⟨g, hg1, hg2, rfl⟩ := hrel
    have hb0 : 0 ≤ (g : Int) * (m : Int) := Int.mul_nonneg (by omega) (by omega)
    have hb1 : (g : Int) * (m : Int) ≤ 256 := by
      have := Nat.mul_le_mul (show g ≤ 16 by omega) hm'
      have e : ((g * m : Nat) : Int) = (g : Int) * (m : Int) := by simp
      omega
    by_cases hlt : g < G
    · have hk : (g : Int) * (m : Int) < k := by
        have h := G3.out
        have := Nat.mul_le_mul_right m (show g ≤ G - 1 by omega)
        have e : ((g * m : Nat) : Int) = (g : Int) * (m : Int) := by simp
        omega
      go_wp2
      exact ⟨⟨g + 1, by omega, by omega, by go_num⟩, by simp [intOf]; omega⟩
    · have : g = G := by omega
      subst this
      have hk : (k : Int) ≤ (g : Int) * (m : Int) := by
        have h := G2.out
        have e : ((g * m : Nat) : Int) = (g : Int) * (m : Int) := by simp
        omega
      go_wp2
      go_ret
      exact ⟨rfl, rfl⟩
end Go.Proofs.YtkoakingmnjdoaaGreatDoor

/- What the small functions of package half answer: there, placeOf, number, find, carrier, carrying, Of, Split, Carrier; and the document's own Carrier; nothing that was there turns. -/
namespace Go.Proofs.YtkoakingmnjdoaaGreatDoor
open Go.RowKit Gf
set_option linter.unusedVariables false
set_option maxRecDepth 20000
theorem hthere_any (x n : Int) (w : World) : Calls Tryz.prog 67 #[.int .i64 x, .int .i64 n] w fun e w' => e = .returned (.bool (thB x n)) ∧ w = w' := by
  by_cases h0 : 0 ≤ x
  · by_cases h1 : x < n
    · go_enter Tryz.func67, Tryz.ntmps67
      go_wp2
      go_ret
      exact ⟨by rw [thB_true h0 h1]; rfl, rfl⟩
    · go_enter Tryz.func67, Tryz.ntmps67
      go_wp2
      go_ret
      exact ⟨by rw [thB_false (by omega)]; rfl, rfl⟩
  · go_enter Tryz.func67, Tryz.ntmps67
    go_wp2
    go_ret
    exact ⟨by rw [thB_false (by omega)]; rfl, rfl⟩
theorem hthere_yes (x n : Int) (w : World) (h0 : 0 ≤ x) (h1 : x < n) : Calls Tryz.prog 67 #[.int .i64 x, .int .i64 n] w fun e w' => e = .returned (.bool true) ∧ w = w' :=
  (hthere_any x n w).mono fun e w' ⟨a, b⟩ => ⟨by rw [a, thB_true h0 h1], b⟩
theorem hthere_no (x n : Int) (w : World) (h : ¬ (0 ≤ x ∧ x < n)) : Calls Tryz.prog 67 #[.int .i64 x, .int .i64 n] w fun e w' => e = .returned (.bool false) ∧ w = w' :=
  (hthere_any x n w).mono fun e w' ⟨a, b⟩ => ⟨by rw [a, thB_false h], b⟩
theorem placeOf_F (h s p : Nat) (w : World) (hh : h = 2 * s + p) (hp : p < 2) (hs : s ≤ 1000) : Calls Tryz.prog 70 #[.int .i64 h] w fun e w' => e = .returned (.agg #[.int .i64 s, .int .i64 p]) ∧ Below w.heap.size w w' := by
  have e1 : Hid ((h : Int) / 2 = s) := by show _ = _; omega
  have e2 : Hid ((h : Int) % 2 = p) := by show _ = _; omega
  have e3 : h ≤ 4000 := by omega
  clear hh hp hs
  go_enter Tryz.func70, Tryz.ntmps70
  go_wp2
  rw [e1.out, e2.out]
  refine bodyPost_ret (v := .agg #[.int .i64 s, .int .i64 p]) (by simp [results, Tryz.results70, go_sem]) rfl ⟨rfl, ?_⟩
  exact (Below.refl w.heap.size w).alloc (Nat.le_refl _) _
/-- the parity that carries a data shard -/
def carN (g j : Nat) : Nat := j / g + 1
theorem carN_le {g j : Nat} : carN g j ≤ j + 1 := by
  have := Nat.div_le_self j g
  simp only [carN]; omega
theorem carrier_F (g j : Nat) (w : World) (hg : 1 ≤ g) (hg2 : g ≤ 1000) (hj : j ≤ 1000) : Calls Tryz.prog 68 #[.int .i64 g, .int .i64 j] w fun e w' => e = .returned (.int .i64 (carN g j)) ∧ w = w' := by
  have e1 : (j : Int) / g = (j / g : Nat) := by simp
  have e2 : j / g ≤ 1000 := Nat.le_trans (Nat.div_le_self _ _) hj
  generalize hq : j / g = q at e1 e2
  have E : Hid _ := e1
  have b0 : 0 ≤ (j : Int) / g := by omega
  have b1 : (j : Int) / g ≤ 1000 := by omega
  have hc : carN g j = q + 1 := by rw [carN, hq]
  rw [hc]
  clear hc e1 hq
  go_enter Tryz.func68, Tryz.ntmps68
  go_wp2
  rw [E.out]
  go_ret
  exact ⟨by go_num, rfl⟩
theorem rcarrier_F (k r j : Nat) (w : World) (h1 : 1 ≤ k) (h2 : 2 ≤ r) (h3 : k + r ≤ 16) (hj : j ≤ 1000) :
    Calls Tryz.prog 77 #[.int .i64 k, .int .i64 r, .int .i64 j] w fun e w' => e = .returned (.int .i64 (carN (groupN k r) j)) ∧ w = w' := by
  obtain ⟨g1, _, _, g2⟩ := groupN_least h1 h2 h3
  have HF : Hid _ := fun w => rgroup_F k r w h1 h2 h3
  generalize groupN k r = g at *
  have e1 : (j : Int) / g = (j / g : Nat) := by simp
  have e2 : j / g ≤ 1000 := Nat.le_trans (Nat.div_le_self _ _) hj
  generalize hq : j / g = q at e1 e2
  have E : Hid _ := e1
  have b0 : 0 ≤ (j : Int) / g := by omega
  have b1 : (j : Int) / g ≤ 1000 := by omega
  have hc : carN g j = q + 1 := by rw [carN, hq]
  rw [hc]
  clear hc e1 hq
  go_enter Tryz.func77, Tryz.ntmps77
  go_wp2_with fail
  refine Calls.mono (HF.out _) ?_
  rintro e w' ⟨rfl, rfl⟩
  go_wp2
  rw [E.out]
  go_ret
  exact ⟨by go_num, rfl⟩
theorem carrying_F (k g j : Nat) (w : World) (hk : k ≤ 1000) (hg : 1 ≤ g) (hg2 : g ≤ 1000) (hj : j ≤ 1000) : Calls Tryz.prog 101 #[.int .i64 k, .int .i64 g, .int .i64 j] w fun e w' => e = .returned (.agg #[.int .i64 (k + carN g j : Nat), .int .i64 1]) ∧ Below w.heap.size w w' := by
  have hc : carN g j ≤ 2000 := Nat.le_trans carN_le (by omega)
  have HF : Hid _ := fun w => carrier_F g j w hg hg2 hj
  generalize carN g j = c at *
  go_enter Tryz.func101, Tryz.ntmps101
  go_wp2_with fail
  refine Calls.mono (HF.out _) ?_
  rintro e w' ⟨rfl, rfl⟩
  go_wp2
  refine bodyPost_ret (v := .agg #[.int .i64 (k + c : Nat), .int .i64 1]) (by simp [results, Tryz.results101, go_sem]) rfl ⟨rfl, ?_⟩
  exact (Below.refl w.heap.size w).alloc (Nat.le_refl _) _
end Go.Proofs.YtkoakingmnjdoaaGreatDoor

/- What find, Of, Split and Carrier of package half answer, at all numbers; nothing that was there turns. -/
namespace Go.Proofs.YtkoakingmnjdoaaGreatDoor
open Go.RowKit Gf
set_option linter.unusedVariables false
set_option maxRecDepth 20000
theorem hfind_ok (k r h s p : Nat) (w : World) (h1 : 1 ≤ k) (h2 : 2 ≤ r) (h3 : k + r ≤ 16) (hh : h = 2 * s + p) (hp : p < 2) (hs : s < k + r) :
    Calls Tryz.prog 116 #[.int .i64 k, .int .i64 r, .int .i64 h] w fun e w' => e = .returned (.tuple #[.agg #[.int .i64 s, .int .i64 p], .nilIface]) ∧ Below w.heap.size w w' := by
  have HH : Hid _ := hh
  have a1 : (h : Int) < 2 * (k + r) := by omega
  have HA : Hid _ := a1
  clear hh a1
  have hA := holds_new (holds_nil w) #[.int .i64 0, .int .i64 0] 111
  have HA1 : Hid _ := hA
  have HB1 : Hid _ := (Below.refl w.heap.size w).alloc (Nat.le_refl _) (.cells #[.int .i64 0, .int .i64 0] 111)
  clear hA
  go_enter Tryz.func116, Tryz.ntmps116
  go_wp2_with fail
  refine (bcheck_ok _ _ _ h1 h2 h3).mono ?_
  rintro e w' ⟨rfl, rfl⟩
  go_wp2_with fail
  refine (hthere_yes _ _ _ (by omega) HA.out).mono ?_
  rintro e w' ⟨rfl, rfl⟩
  go_wp2_with fail
  refine (placeOf_F h s p _ HH.out hp (by omega)).mono ?_
  rintro e w2 ⟨rfl, hb⟩
  have k1 := heap_later (holds_at HA1.out 0 rfl) hb
  have c1 := cellAt k1 0 _ rfl
  have c2 := cellAt k1 1 _ rfl
  have d1 : w2.frozen? ⟨w.heap.size, 0, none⟩ = false := frozen_of_row _ _ _ _ _ k1
  have d2 : w2.frozen? ⟨w.heap.size, 1, none⟩ = false := frozen_of_row _ _ _ _ _ k1
  have HB2 : Hid (Below w.heap.size w w2) := HB1.out.trans (hb.mono HB1.out.size)
  clear k1 hb
  go_wp2
  refine bodyPost_ret (v := .tuple #[.agg #[.int .i64 s, .int .i64 p], .nilIface]) (by simp [results, Tryz.results116, go_sem, c1, c2]) rfl ⟨rfl, ?_⟩
  exact (HB2.out.setCell (Nat.le_refl _) _).setCell (Nat.le_refl _) _
theorem hfind_bad (k r h : Int) (w : World) (s : Addr) (hs : w.cell? ⟨0, 0, none⟩ = some (errAt s)) (hk0 : -9223372036854775808 ≤ k) (hk1 : k ≤ 9223372036854775807) (hr0 : -9223372036854775808 ≤ r) (hr1 : r ≤ 9223372036854775807) (hL : ¬ LegalP k r) :
    Calls Tryz.prog 116 #[.int .i64 k, .int .i64 r, .int .i64 h] w fun e w' => e = .returned (.tuple #[.agg #[.int .i64 0, .int .i64 0], errAt s]) ∧ Below w.heap.size w w' := by
  have HS : Hid _ := cell?_alloc_old (.cells #[.int .i64 0, .int .i64 0] 111) hs
  have H : Hid _ := hL
  clear hs hL
  have HB1 : Hid _ := (Below.refl w.heap.size w).alloc (Nat.le_refl _) (.cells #[.int .i64 0, .int .i64 0] 111)
  go_enter Tryz.func116, Tryz.ntmps116
  go_wp2_with fail
  refine (bcheck_bad k r _ s HS.out hk0 hk1 hr0 hr1 H.out).mono ?_
  unfold errAt
  rintro e w' ⟨rfl, rfl⟩
  go_wp2
  refine bodyPost_ret (v := .tuple #[.agg #[.int .i64 0, .int .i64 0], .iface 191 (.pointer (some s))]) (by simp [results, Tryz.results116, go_sem]) rfl ⟨rfl, ?_⟩
  exact HB1.out
theorem hfind_no (k r : Nat) (h : Int) (w : World) (s : Addr) (hs : w.cell? ⟨1, 0, none⟩ = some (errAt s)) (h1 : 1 ≤ k) (h2 : 2 ≤ r) (h3 : k + r ≤ 16) (hh : ¬ (0 ≤ h ∧ h < 2 * (k + r))) :
    Calls Tryz.prog 116 #[.int .i64 k, .int .i64 r, .int .i64 h] w fun e w' => e = .returned (.tuple #[.agg #[.int .i64 0, .int .i64 0], errAt s]) ∧ Below w.heap.size w w' := by
  have hlt := World.block_lt_of_cell? w _ hs
  simp at hlt
  have hs1 := cell?_alloc_old (.cells #[.int .i64 0, .int .i64 0] 111) hs
  have H : Hid _ := hh
  clear hs hh
  have HB1 : Hid _ := (Below.refl w.heap.size w).alloc (Nat.le_refl _) (.cells #[.int .i64 0, .int .i64 0] 111)
  unfold errAt at *
  go_enter Tryz.func116, Tryz.ntmps116
  go_wp2_with fail
  refine (bcheck_ok _ _ _ h1 h2 h3).mono ?_
  rintro e w' ⟨rfl, rfl⟩
  go_wp2_with fail
  refine (hthere_no _ _ _ H.out).mono ?_
  rintro e w' ⟨rfl, rfl⟩
  go_wp2
  go_region
  go_wp2
  refine bodyPost_ret (v := .tuple #[.agg #[.int .i64 0, .int .i64 0], .iface 191 (.pointer (some s))]) (by simp [results, Tryz.results116, go_sem]) rfl ⟨rfl, ?_⟩
  exact HB1.out.drew
theorem hsplit_ok (k r h s p : Nat) (w : World) (h1 : 1 ≤ k) (h2 : 2 ≤ r) (h3 : k + r ≤ 16) (hh : h = 2 * s + p) (hp : p < 2) (hs : s < k + r) :
    Calls Tryz.prog 86 #[.int .i64 k, .int .i64 r, .int .i64 h] w fun e w' => e = .returned (.tuple #[.int .i64 s, .int .i64 p, .nilIface]) ∧ Below w.heap.size w w' := by
  have HF : Hid _ := fun w => hfind_ok k r h s p w h1 h2 h3 hh hp hs
  clear hh
  go_enter Tryz.func86, Tryz.ntmps86
  go_wp2_with fail
  refine (HF.out _).mono ?_
  rintro e w1 ⟨rfl, hb⟩
  have HB : Hid _ := hb
  clear hb
  go_wp2
  go_region
  go_wp2
  refine bodyPost_ret (v := .tuple #[.int .i64 s, .int .i64 p, .nilIface]) (by simp [results, Tryz.results86, go_sem]) rfl ?_
  exact ⟨rfl, (HB.out.alloc HB.out.size _).drew⟩
theorem hsplit_err (k r h : Int) (v : Value) (w : World) (hF : ∀ w0 : World, w0 = w → Calls Tryz.prog 116 #[.int .i64 k, .int .i64 r, .int .i64 h] w0 fun e w' => e = .returned (.tuple #[.agg #[.int .i64 0, .int .i64 0], v]) ∧ Below w0.heap.size w0 w') :
    Calls Tryz.prog 86 #[.int .i64 k, .int .i64 r, .int .i64 h] w fun e w' => e = .returned (.tuple #[.int .i64 0, .int .i64 0, v]) ∧ Below w.heap.size w w' := by
  have HF : Hid _ := hF
  clear hF
  go_enter Tryz.func86, Tryz.ntmps86
  go_wp2_with fail
  refine (HF.out _ rfl).mono ?_
  rintro e w1 ⟨rfl, hb⟩
  have HB : Hid _ := hb
  clear hb
  go_wp2
  go_region
  go_wp2
  refine bodyPost_ret (v := .tuple #[.int .i64 0, .int .i64 0, v]) (by simp [results, Tryz.results86, go_sem]) rfl ?_
  exact ⟨rfl, (HB.out.alloc HB.out.size _).drew⟩
theorem hsplit_bad (k r h : Int) (w : World) (s : Addr) (hs : w.cell? ⟨0, 0, none⟩ = some (errAt s)) (hk0 : -9223372036854775808 ≤ k) (hk1 : k ≤ 9223372036854775807) (hr0 : -9223372036854775808 ≤ r) (hr1 : r ≤ 9223372036854775807) (hL : ¬ LegalP k r) :
    Calls Tryz.prog 86 #[.int .i64 k, .int .i64 r, .int .i64 h] w fun e w' => e = .returned (.tuple #[.int .i64 0, .int .i64 0, errAt s]) ∧ Below w.heap.size w w' :=
  hsplit_err k r h _ w fun w0 e => hfind_bad k r h w0 s (e ▸ hs) hk0 hk1 hr0 hr1 hL
theorem hsplit_no (k r : Nat) (h : Int) (w : World) (s : Addr) (hs : w.cell? ⟨1, 0, none⟩ = some (errAt s)) (h1 : 1 ≤ k) (h2 : 2 ≤ r) (h3 : k + r ≤ 16) (hh : ¬ (0 ≤ h ∧ h < 2 * (k + r))) :
    Calls Tryz.prog 86 #[.int .i64 k, .int .i64 r, .int .i64 h] w fun e w' => e = .returned (.tuple #[.int .i64 0, .int .i64 0, errAt s]) ∧ Below w.heap.size w w' :=
  hsplit_err k r h _ w fun w0 e => hfind_no k r h w0 s (e ▸ hs) h1 h2 h3 hh
theorem hcarrier_ok (k r j : Nat) (w : World) (h1 : 1 ≤ k) (h2 : 2 ≤ r) (h3 : k + r ≤ 16) (hj : j < k) :
    Calls Tryz.prog 43 #[.int .i64 k, .int .i64 r, .int .i64 j] w fun e w' => e = .returned (.tuple #[.int .i64 (carN (groupN k r) j), .nilIface]) ∧ w = w' := by
  obtain ⟨g1, _, _, g2⟩ := groupN_least h1 h2 h3
  have HF : Hid _ := fun w => bgroup_ok k r w h1 h2 h3
  generalize groupN k r = g at *
  have HC : Hid _ := fun w => carrier_F g j w g1 (by omega) (by omega)
  generalize carN g j = c at *
  have j1 : (j : Int) < k := by omega
  have HJ : Hid _ := j1
  clear j1 hj
  go_enter Tryz.func43, Tryz.ntmps43
  go_wp2_with fail
  refine (HF.out _).mono ?_
  rintro e w1 ⟨rfl, rfl⟩
  go_wp2_with (first
    | (go_at_call 67; refine (hthere_yes _ _ _ (by omega) HJ.out).mono ?_; rintro e w' ⟨rfl, rfl⟩)
    | (go_at_call 68; refine (HC.out _).mono ?_; rintro e w' ⟨rfl, rfl⟩))
  go_ret2
  exact ⟨rfl, rfl⟩
theorem hcarrier_bad (k r x : Int) (w : World) (s : Addr) (hs : w.cell? ⟨0, 0, none⟩ = some (errAt s)) (hk0 : -9223372036854775808 ≤ k) (hk1 : k ≤ 9223372036854775807) (hr0 : -9223372036854775808 ≤ r) (hr1 : r ≤ 9223372036854775807) (hL : ¬ LegalP k r) :
    Calls Tryz.prog 43 #[.int .i64 k, .int .i64 r, .int .i64 x] w fun e w' => e = .returned (.tuple #[.int .i64 0, errAt s]) ∧ w = w' := by
  have HS : Hid _ := hs
  have H : Hid _ := hL
  clear hs hL
  go_enter Tryz.func43, Tryz.ntmps43
  go_wp2_with fail
  refine (bgroup_bad k r _ s HS.out hk0 hk1 hr0 hr1 H.out).mono ?_
  unfold errAt
  rintro e w' ⟨rfl, rfl⟩
  go_wp2
  go_ret2
  exact ⟨rfl, rfl⟩
theorem hcarrier_no (k r : Nat) (x : Int) (w : World) (s : Addr) (hs : w.cell? ⟨3, 0, none⟩ = some (errAt s)) (h1 : 1 ≤ k) (h2 : 2 ≤ r) (h3 : k + r ≤ 16) (hx : ¬ (0 ≤ x ∧ x < k)) :
    Calls Tryz.prog 43 #[.int .i64 k, .int .i64 r, .int .i64 x] w fun e w' => e = .returned (.tuple #[.int .i64 0, errAt s]) ∧ Below w.heap.size w w' := by
  have hlt := World.block_lt_of_cell? w _ hs
  simp at hlt
  have HX : Hid _ := hx
  unfold errAt at *
  clear hx
  go_enter Tryz.func43, Tryz.ntmps43
  go_wp2_with fail
  refine (bgroup_ok _ _ _ h1 h2 h3).mono ?_
  rintro e w' ⟨rfl, rfl⟩
  go_wp2_with fail
  refine (hthere_no _ _ _ HX.out).mono ?_
  rintro e w' ⟨rfl, rfl⟩
  go_wp2
  go_region
  go_wp2
  go_ret2
  exact ⟨rfl, (Below.refl _ _).drew⟩
end Go.Proofs.YtkoakingmnjdoaaGreatDoor

/- What rowAt of package half answers; nothing that was there turns. -/
namespace Go.Proofs.YtkoakingmnjdoaaGreatDoor
open Go.RowKit Gf
set_option linter.unusedVariables false
set_option maxRecDepth 20000
/-- what stands at a variable of the half that stands at (s, p) -/
def placeF (k g s p : Nat) (xs : List F) : Nat → F := fun v => if v % 2 = p then at8 xs (v / 2) else if p = 1 ∧ s = k + carN g (v / 2) then 1 else 0
theorem placeF_same {k g s p q b : Nat} {xs : List F} (h : b = p) (hb : b < 2) : placeF k g s p xs (2 * q + b) = at8 xs q := by
  rw [placeF, if_pos (by omega), show (2 * q + b) / 2 = q by omega]
theorem placeF_yes {k g s q : Nat} {xs : List F} (h : s = k + carN g q) : placeF k g s 1 xs (2 * q) = 1 := by
  rw [placeF, if_neg (by omega), show 2 * q / 2 = q by omega, if_pos ⟨rfl, h⟩]
theorem placeF_no {k g s p q b : Nat} {xs : List F} (h : b ≠ p) (hb : b < 2) (h2 : p = 1 → s ≠ k + carN g q) : placeF k g s p xs (2 * q + b) = 0 := by
  rw [placeF, if_neg (by omega), show (2 * q + b) / 2 = q by omega, if_neg (fun h => h2 h.1 h.2)]
theorem colP_skip {r j : Nat} {f : Nat → F} (h : f j = 0) : colP r f j = colP r f (j + 1) := rowF_congr fun i hi => by
  by_cases e : i = j
  · subst e; rw [if_neg (by omega), if_pos (by omega), h]
  · by_cases e2 : i < j
    · rw [if_pos e2, if_pos (by omega)]
    · rw [if_neg e2, if_neg (by omega)]
set_option maxHeartbeats 4000000 in
theorem hrowAt_0 (k g s cap : Nat) (a : Option Addr) (xs : List F) (w : World) (h1 : 1 ≤ k) (h2 : k ≤ 16) (hg : 1 ≤ g) (hg2 : g ≤ 16) (hs : s ≤ 16) (hx : xs.length = k) (hX : Row8 w a xs) :
    Calls Tryz.prog 72 #[.agg #[.int .i64 s, .int .i64 0], .slice a k cap, .int .i64 g] w fun e w' => ∃ gb n, e = .returned (.slice (some ⟨gb, 0, none⟩) n n) ∧ n = 2 * k ∧ w.heap.size ≤ gb ∧
      w'.heap[gb]? = some (.cells (vfs (rowF (2 * k) (placeF k g s 0 xs))) 5 (0, 0)) ∧ Below w.heap.size w w' := by
  obtain ⟨m, hm⟩ : ∃ m, m = 2 * k := ⟨_, rfl⟩
  have em : (2 : Int) * k = m := by omega
  have hm32 : m ≤ 32 := by omega
  rw [← hm]
  have HM : Hid _ := hm
  clear hm
  have hmk := run_make8 m (by omega)
  rcases hX with e0 | ⟨b, off, rfl, hc⟩
  · rw [e0] at hx; simp at hx; omega
  have HX : Hid _ := hx
  have HC : Hid _ := hc
  clear hx hc
  obtain ⟨f, hf⟩ : ∃ f, f = placeF k g s 0 xs := ⟨_, rfl⟩
  rw [← hf]
  have HFE : Hid _ := hf
  clear hf
  go_enter Tryz.func72, Tryz.ntmps72
  go_wp2
  have B0 := heap_alloc2_old w (.cells #[.int .i64 s, .int .i64 0] 111) (.cells (vfs (zeros m)) 5)
  have B1 := heap_alloc2_new w (.cells #[.int .i64 s, .int .i64 0] 111) (.cells (vfs (zeros m)) 5)
  have B3 := ((Below.refl w.heap.size w).alloc (Nat.le_refl _) (.cells #[.int .i64 s, .int .i64 0] 111)).alloc (by simp) (.cells (vfs (zeros m)) 5)
  generalize hW : ((w.alloc (.cells #[.int .i64 s, .int .i64 0] 111)).alloc (.cells (vfs (zeros m)) 5)) = W3 at *
  have HS0 : Hid _ := B0
  have HS1 : Hid _ := B1
  have HS3 : Hid _ := B3
  clear hW hmk B0 B1 B3
  go_loopw [18] (fun i wr => ∃ j : Nat, j ≤ m ∧ i = .int .i64 j ∧ Below w.heap.size w wr ∧ wr.heap[w.heap.size]? = some (.cells #[.int .i64 s, .int .i64 0] 111 (0, 0)) ∧ wr.heap[w.heap.size + 1]? = some (.cells (vfs (colP m f j)) 5 (0, 0))) (fun i _ => m - (intOf i).toNat)
  case atStart => exact ⟨0, by omega, rfl, HS3.out, HS0.out, by rw [← colP_zero]; exact HS1.out⟩
  case round =>
    obtain ⟨j, hj, rfl, hb, hp0, hr0⟩ := hrel
    have HB : Hid _ := hb
    have HP : Hid _ := hp0
    have HR : Hid _ := hr0
    clear hb hp0 hr0
    by_cases hlt : j < m
    rotate_left
    · have e : j = m := by omega
      subst e
      have hr := HR.out
      rw [colP_done] at hr
      have HR' : Hid _ := hr
      clear hr
      go_wp2
      go_ret
      exact ⟨w.heap.size + 1, j, rfl, rfl, by omega, HR'.out, HB.out⟩
    obtain ⟨q, b, rfl, hb2⟩ : ∃ q b : Nat, j = 2 * q + b ∧ b < 2 := ⟨j / 2, j % 2, by omega, by omega⟩
    have hqk : q < k := by have := HM.out; omega
    rcases (show b = 0 ∨ b = 1 by omega) with rfl | rfl
    ·
      go_wp2_with fail
      refine (placeOf_F (2 * q) q 0 _ rfl (by decide) (by omega)).mono ?_
      rintro e w2 ⟨rfl, hb2⟩
      have zz := hb2.size
      have HP2 : Hid (w2.heap[w.heap.size]? = some (.cells #[.int .i64 s, .int .i64 0] 111 (0, 0))) := heap_later HP.out hb2
      have HR2 : Hid (w2.heap[w.heap.size + 1]? = some (.cells (vfs (colP m f (2 * q))) 5 (0, 0))) := heap_later HR.out hb2
      have HB2 : Hid (Below w.heap.size w w2) := HB.out.trans (hb2.mono HB.out.size)
      clear hb2
      have hA := holds_new (holds_cons (holds_cons (holds_nil w2) HP2.out) HR2.out) #[.int .i64 q, .int .i64 0] 111
      have HA : Hid _ := hA
      have HB3 : Hid _ := HB2.out.alloc HB2.out.size (.cells #[.int .i64 q, .int .i64 0] 111)
      clear hA
      have c1 := cellAt (holds_at HA.out 0 rfl) 0 _ rfl
      have c2 := cellAt (holds_at HA.out 0 rfl) 1 _ rfl
      have c3 := cellAt (holds_at HA.out 2 rfl) 0 _ rfl
      have c4 := cellAt (holds_at HA.out 2 rfl) 1 _ rfl
      have z4 := ltHeap (holds_at HA.out 2 rfl)
      have c5 := cell_later HB3.out (HC.out q (by rw [HX.out]; omega))
      have c6 := cellAt (holds_at HA.out 1 rfl) (2 * q) _ (vfs_get _ _ (by rw [colP_len]; omega))
      have c7 := frozen_of_row _ (w.heap.size + 1) (2 * q) _ _ (holds_at HA.out 1 rfl)
      have z5 : w.heap.size + 1 < w2.heap.size := ltHeap HR2.out
      go_upto_region 9 with fail
      have hfq : f (2 * q) = at8 xs q := by rw [HFE.out]; exact placeF_same (q := q) (b := 0) rfl (by decide)
      have hR5 : (w2.setCell ⟨w.heap.size + 1, (2 * q), none⟩ (.int .u8 ((at8 xs q).toNat : Int))).heap[w.heap.size + 1]? = some (.cells (vfs (colP m f ((2 * q) + 1))) 5 (0, 0)) := by
        rw [heap_setCell_same _ _ _ _ _ _ HR2.out, vfs_set, ← colP_step m f (2 * q), hfq]
      have hP5 : (w2.setCell ⟨w.heap.size + 1, (2 * q), none⟩ (.int .u8 ((at8 xs q).toNat : Int))).heap[w.heap.size]? = some (.cells #[.int .i64 s, .int .i64 0] 111 (0, 0)) := (heap_setCell_other _ _ _ _ (by show w.heap.size ≠ w.heap.size + 1; omega)).trans HP2.out
      have hB5 : Below w.heap.size w (w2.setCell ⟨w.heap.size + 1, (2 * q), none⟩ (.int .u8 ((at8 xs q).toNat : Int))) := HB2.out.setCell (by show w.heap.size ≤ w.heap.size + 1; omega) _
      have hZ5 : (w2.setCell ⟨w.heap.size + 1, (2 * q), none⟩ (.int .u8 ((at8 xs q).toNat : Int))).heap.size = w2.heap.size := by simp
      have k0 : Hid (((w2.setCell ⟨w.heap.size + 1, (2 * q), none⟩ (.int .u8 ((at8 xs q).toNat : Int))).alloc (.cells #[.int .i64 q, .int .i64 0] 111)).heap[w.heap.size]? = some (.cells #[.int .i64 s, .int .i64 0] 111 (0, 0))) := (Below.heap_alloc _ _ _ (ltHeap hP5)).trans hP5
      have k1 : Hid (((w2.setCell ⟨w.heap.size + 1, (2 * q), none⟩ (.int .u8 ((at8 xs q).toNat : Int))).alloc (.cells #[.int .i64 q, .int .i64 0] 111)).heap[w.heap.size + 1]? = some (.cells (vfs (colP m f ((2 * q) + 1))) 5 (0, 0))) := (Below.heap_alloc _ _ _ (ltHeap hR5)).trans hR5
      have k2 : Hid (((w2.setCell ⟨w.heap.size + 1, (2 * q), none⟩ (.int .u8 ((at8 xs q).toNat : Int))).alloc (.cells #[.int .i64 q, .int .i64 0] 111)).heap[w2.heap.size]? = some (.cells #[.int .i64 q, .int .i64 0] 111 (0, 0))) := by
        have := heap_alloc_last (w2.setCell ⟨w.heap.size + 1, (2 * q), none⟩ (.int .u8 ((at8 xs q).toNat : Int))) (.cells #[.int .i64 q, .int .i64 0] 111)
        rw [hZ5] at this
        exact this
      have kb : Hid (Below w.heap.size w ((w2.setCell ⟨w.heap.size + 1, (2 * q), none⟩ (.int .u8 ((at8 xs q).toNat : Int))).alloc (.cells #[.int .i64 q, .int .i64 0] 111))) := hB5.alloc hB5.size _
      clear hR5 hP5 hB5 hZ5
      generalize hWA : ((w2.setCell ⟨w.heap.size + 1, (2 * q), none⟩ (.int .u8 ((at8 xs q).toNat : Int))).alloc (.cells #[.int .i64 q, .int .i64 0] 111)) = wa at *
      clear hWA c1 c2 c3 c4 c5 c6 c7
      clear HA HB2 HB3 HP2 HR2
      have c1 := boxB (B := wa.heap.size) k0.out (ltHeap k0.out) 0 _ rfl
      have c2 := boxB (B := wa.heap.size) k0.out (ltHeap k0.out) 1 _ rfl
      have c3 := boxB (B := wa.heap.size) k2.out (ltHeap k2.out) 0 _ rfl
      have c4 := boxB (B := wa.heap.size) k2.out (ltHeap k2.out) 1 _ rfl
      obtain ⟨c, hcc⟩ : ∃ c, c = carN g q := ⟨_, rfl⟩
      have HCC : Hid _ := hcc
      have hcr := fun w => carrying_F k g q w (by omega) hg (by omega) (by omega)
      rw [← hcc] at hcr
      have HCR : Hid _ := hcr
      clear hcr hcc
      have hR2 : Below wa.heap.size wa wa.drew := (Below.refl _ _).drew
      go_region_held3 (fun w' => Below wa.heap.size wa w') (first | assumption | (refine Below.drew ?_; assumption)) (first | (go_at_call 101; refine Calls.mono (HCR.out _) ?_; rintro e wj ⟨rfl, hbj⟩; have hTa : Below wa.heap.size wa wj := Below.trans ‹Below wa.heap.size wa _› (Below.mono hbj (below_size ‹Below wa.heap.size wa _›)); clear hbj))
      have hB9 : Below w.heap.size w wj := kb.out.trans (hTa.mono kb.out.size)
      have hP9 := heap_later k0.out hTa
      have hR9 := heap_later k1.out hTa
      have hB : Hid _ := hB9
      have hP : Hid _ := hP9
      have hR : Hid _ := hR9
      clear hB9 hP9 hR9
      go_wp2
      exact ⟨⟨(2 * q) + 1, by omega, by go_num, hB.out, hP.out, hR.out⟩, by simp [intOf]; omega⟩
    ·
      go_wp2_with fail
      refine (placeOf_F (2 * q + 1) q 1 _ rfl (by decide) (by omega)).mono ?_
      rintro e w2 ⟨rfl, hb2⟩
      have zz := hb2.size
      have HP2 : Hid (w2.heap[w.heap.size]? = some (.cells #[.int .i64 s, .int .i64 0] 111 (0, 0))) := heap_later HP.out hb2
      have HR2 : Hid (w2.heap[w.heap.size + 1]? = some (.cells (vfs (colP m f (2 * q + 1))) 5 (0, 0))) := heap_later HR.out hb2
      have HB2 : Hid (Below w.heap.size w w2) := HB.out.trans (hb2.mono HB.out.size)
      clear hb2
      have hA := holds_new (holds_cons (holds_cons (holds_nil w2) HP2.out) HR2.out) #[.int .i64 q, .int .i64 1] 111
      have HA : Hid _ := hA
      have HB3 : Hid _ := HB2.out.alloc HB2.out.size (.cells #[.int .i64 q, .int .i64 1] 111)
      clear hA
      have c1 := cellAt (holds_at HA.out 0 rfl) 0 _ rfl
      have c2 := cellAt (holds_at HA.out 0 rfl) 1 _ rfl
      have c3 := cellAt (holds_at HA.out 2 rfl) 0 _ rfl
      have c4 := cellAt (holds_at HA.out 2 rfl) 1 _ rfl
      have z4 := ltHeap (holds_at HA.out 2 rfl)
      have z5 : w.heap.size + 1 < w2.heap.size := ltHeap HR2.out
      go_upto_region 9 with fail
      have k0 : Hid ((w2.alloc (.cells #[.int .i64 q, .int .i64 1] 111)).heap[w.heap.size]? = some (.cells #[.int .i64 s, .int .i64 0] 111 (0, 0))) := holds_at HA.out 2 rfl
      have k1 : Hid ((w2.alloc (.cells #[.int .i64 q, .int .i64 1] 111)).heap[w.heap.size + 1]? = some (.cells (vfs (colP m f (2 * q + 1))) 5 (0, 0))) := holds_at HA.out 1 rfl
      have k2 : Hid ((w2.alloc (.cells #[.int .i64 q, .int .i64 1] 111)).heap[w2.heap.size]? = some (.cells #[.int .i64 q, .int .i64 1] 111 (0, 0))) := holds_at HA.out 0 rfl
      have kb : Hid (Below w.heap.size w (w2.alloc (.cells #[.int .i64 q, .int .i64 1] 111))) := HB3.out
      generalize hWA : (w2.alloc (.cells #[.int .i64 q, .int .i64 1] 111)) = wa at *
      clear hWA c1 c2 c3 c4 
      clear HA HB2 HB3 HP2 HR2
      have c1 := cellAt k0.out 0 _ rfl
      have c2 := cellAt k0.out 1 _ rfl
      have c3 := cellAt k2.out 0 _ rfl
      have c4 := cellAt k2.out 1 _ rfl
      go_region
      have hB9 := kb.out.drew
      have hP9 := k0.out
      have hR9 := k1.out
      have hfq : f (2 * q + 1) = 0 := by rw [HFE.out]; exact placeF_no (q := q) (b := 1) (by decide) (by decide) (fun h => absurd h (by decide))
      rw [colP_skip hfq] at hR9
      have hB : Hid _ := hB9
      have hP : Hid _ := hP9
      have hR : Hid _ := hR9
      clear hB9 hP9 hR9 hfq
      go_wp2
      exact ⟨⟨(2 * q + 1) + 1, by omega, by go_num, hB.out, hP.out, hR.out⟩, by simp [intOf]; omega⟩
set_option maxHeartbeats 4000000 in
theorem hrowAt_1 (k g s cap : Nat) (a : Option Addr) (xs : List F) (w : World) (h1 : 1 ≤ k) (h2 : k ≤ 16) (hg : 1 ≤ g) (hg2 : g ≤ 16) (hs : s ≤ 16) (hx : xs.length = k) (hX : Row8 w a xs) :
    Calls Tryz.prog 72 #[.agg #[.int .i64 s, .int .i64 1], .slice a k cap, .int .i64 g] w fun e w' => ∃ gb n, e = .returned (.slice (some ⟨gb, 0, none⟩) n n) ∧ n = 2 * k ∧ w.heap.size ≤ gb ∧
      w'.heap[gb]? = some (.cells (vfs (rowF (2 * k) (placeF k g s 1 xs))) 5 (0, 0)) ∧ Below w.heap.size w w' := by
  obtain ⟨m, hm⟩ : ∃ m, m = 2 * k := ⟨_, rfl⟩
  have em : (2 : Int) * k = m := by omega
  have hm32 : m ≤ 32 := by omega
  rw [← hm]
  have HM : Hid _ := hm
  clear hm
  have hmk := run_make8 m (by omega)
  rcases hX with e0 | ⟨b, off, rfl, hc⟩
  · rw [e0] at hx; simp at hx; omega
  have HX : Hid _ := hx
  have HC : Hid _ := hc
  clear hx hc
  obtain ⟨f, hf⟩ : ∃ f, f = placeF k g s 1 xs := ⟨_, rfl⟩
  rw [← hf]
  have HFE : Hid _ := hf
  clear hf
  go_enter Tryz.func72, Tryz.ntmps72
  go_wp2
  have B0 := heap_alloc2_old w (.cells #[.int .i64 s, .int .i64 1] 111) (.cells (vfs (zeros m)) 5)
  have B1 := heap_alloc2_new w (.cells #[.int .i64 s, .int .i64 1] 111) (.cells (vfs (zeros m)) 5)
  have B3 := ((Below.refl w.heap.size w).alloc (Nat.le_refl _) (.cells #[.int .i64 s, .int .i64 1] 111)).alloc (by simp) (.cells (vfs (zeros m)) 5)
  generalize hW : ((w.alloc (.cells #[.int .i64 s, .int .i64 1] 111)).alloc (.cells (vfs (zeros m)) 5)) = W3 at *
  have HS0 : Hid _ := B0
  have HS1 : Hid _ := B1
  have HS3 : Hid _ := B3
  clear hW hmk B0 B1 B3
  go_loopw [18] (fun i wr => ∃ j : Nat, j ≤ m ∧ i = .int .i64 j ∧ Below w.heap.size w wr ∧ wr.heap[w.heap.size]? = some (.cells #[.int .i64 s, .int .i64 1] 111 (0, 0)) ∧ wr.heap[w.heap.size + 1]? = some (.cells (vfs (colP m f j)) 5 (0, 0))) (fun i _ => m - (intOf i).toNat)
  case atStart => exact ⟨0, by omega, rfl, HS3.out, HS0.out, by rw [← colP_zero]; exact HS1.out⟩
  case round =>
    obtain ⟨j, hj, rfl, hb, hp0, hr0⟩ := hrel
    have HB : Hid _ := hb
    have HP : Hid _ := hp0
    have HR : Hid _ := hr0
    clear hb hp0 hr0
    by_cases hlt : j < m
    rotate_left
    · have e : j = m := by omega
      subst e
      have hr := HR.out
      rw [colP_done] at hr
      have HR' : Hid _ := hr
      clear hr
      go_wp2
      go_ret
      exact ⟨w.heap.size + 1, j, rfl, rfl, by omega, HR'.out, HB.out⟩
    obtain ⟨q, b, rfl, hb2⟩ : ∃ q b : Nat, j = 2 * q + b ∧ b < 2 := ⟨j / 2, j % 2, by omega, by omega⟩
    have hqk : q < k := by have := HM.out; omega
    rcases (show b = 0 ∨ b = 1 by omega) with rfl | rfl
    ·
      go_wp2_with fail
      refine (placeOf_F (2 * q) q 0 _ rfl (by decide) (by omega)).mono ?_
      rintro e w2 ⟨rfl, hb2⟩
      have zz := hb2.size
      have HP2 : Hid (w2.heap[w.heap.size]? = some (.cells #[.int .i64 s, .int .i64 1] 111 (0, 0))) := heap_later HP.out hb2
      have HR2 : Hid (w2.heap[w.heap.size + 1]? = some (.cells (vfs (colP m f (2 * q))) 5 (0, 0))) := heap_later HR.out hb2
      have HB2 : Hid (Below w.heap.size w w2) := HB.out.trans (hb2.mono HB.out.size)
      clear hb2
      have hA := holds_new (holds_cons (holds_cons (holds_nil w2) HP2.out) HR2.out) #[.int .i64 q, .int .i64 0] 111
      have HA : Hid _ := hA
      have HB3 : Hid _ := HB2.out.alloc HB2.out.size (.cells #[.int .i64 q, .int .i64 0] 111)
      clear hA
      have c1 := cellAt (holds_at HA.out 0 rfl) 0 _ rfl
      have c2 := cellAt (holds_at HA.out 0 rfl) 1 _ rfl
      have c3 := cellAt (holds_at HA.out 2 rfl) 0 _ rfl
      have c4 := cellAt (holds_at HA.out 2 rfl) 1 _ rfl
      have z4 := ltHeap (holds_at HA.out 2 rfl)
      have z5 : w.heap.size + 1 < w2.heap.size := ltHeap HR2.out
      go_upto_region 9 with fail
      have k0 : Hid ((w2.alloc (.cells #[.int .i64 q, .int .i64 0] 111)).heap[w.heap.size]? = some (.cells #[.int .i64 s, .int .i64 1] 111 (0, 0))) := holds_at HA.out 2 rfl
      have k1 : Hid ((w2.alloc (.cells #[.int .i64 q, .int .i64 0] 111)).heap[w.heap.size + 1]? = some (.cells (vfs (colP m f (2 * q))) 5 (0, 0))) := holds_at HA.out 1 rfl
      have k2 : Hid ((w2.alloc (.cells #[.int .i64 q, .int .i64 0] 111)).heap[w2.heap.size]? = some (.cells #[.int .i64 q, .int .i64 0] 111 (0, 0))) := holds_at HA.out 0 rfl
      have kb : Hid (Below w.heap.size w (w2.alloc (.cells #[.int .i64 q, .int .i64 0] 111))) := HB3.out
      generalize hWA : (w2.alloc (.cells #[.int .i64 q, .int .i64 0] 111)) = wa at *
      clear hWA c1 c2 c3 c4 
      clear HA HB2 HB3 HP2 HR2
      have c1 := boxB (B := wa.heap.size) k0.out (ltHeap k0.out) 0 _ rfl
      have c2 := boxB (B := wa.heap.size) k0.out (ltHeap k0.out) 1 _ rfl
      have c3 := boxB (B := wa.heap.size) k2.out (ltHeap k2.out) 0 _ rfl
      have c4 := boxB (B := wa.heap.size) k2.out (ltHeap k2.out) 1 _ rfl
      obtain ⟨c, hcc⟩ : ∃ c, c = carN g q := ⟨_, rfl⟩
      have HCC : Hid _ := hcc
      have hcr := fun w => carrying_F k g q w (by omega) hg (by omega) (by omega)
      rw [← hcc] at hcr
      have HCR : Hid _ := hcr
      clear hcr hcc
      by_cases hsc : s = k + c
      · have hcr2 := HCR.out
        rw [← hsc] at hcr2
        have HCS : Hid _ := hsc
        clear HCR hsc
        have HCR : Hid _ := hcr2
        clear hcr2
        have hR2 : Below wa.heap.size wa wa.drew := (Below.refl _ _).drew
        go_region_held3 (fun w' => Below wa.heap.size wa w') (first | assumption | (refine Below.drew ?_; assumption)) (first | (go_at_call 101; refine Calls.mono (HCR.out _) ?_; rintro e wj ⟨rfl, hbj⟩; have hTa : Below wa.heap.size wa wj := Below.trans ‹Below wa.heap.size wa _› (Below.mono hbj (below_size ‹Below wa.heap.size wa _›)); clear hbj))
        have hB9 : Below w.heap.size w wj := kb.out.trans (hTa.mono kb.out.size)
        have hP9 := heap_later k0.out hTa
        have hR9 := heap_later k1.out hTa
        have c5 := cellAt hR9 (2 * q) _ (vfs_get _ _ (by rw [colP_len]; omega))
        have c6 := frozen_of_row _ (w.heap.size + 1) (2 * q) _ _ hR9
        have hfq : f (2 * q) = 1 := by rw [HFE.out]; exact placeF_yes (HCS.out.trans (by rw [HCC.out]))
        have hB : Hid _ := hB9
        have hP : Hid _ := hP9
        have hR : Hid _ := hR9
        have HQ : Hid _ := hfq
        clear hB9 hP9 hR9 hfq
        go_wp2
        refine ⟨⟨(2 * q) + 1, by omega, by go_num, hB.out.setCell (by show w.heap.size ≤ w.heap.size + 1; omega) _, (heap_setCell_other _ _ _ _ (by show w.heap.size ≠ w.heap.size + 1; omega)).trans hP.out, ?_⟩, by simp [intOf]; omega⟩
        rw [heap_setCell_same _ _ _ _ _ _ hR.out, ← colP_step m f (2 * q), HQ.out, ← vfs_set]
        rfl
      · have hs1 : ¬ (s : Int) = (k : Int) + c := by omega
        have hs2 : ((s : Int) == (k : Int) + c) = false := beq_eq_false_iff_ne.2 hs1
        have hR2 : Below wa.heap.size wa wa.drew := (Below.refl _ _).drew
        go_region_held3 (fun w' => Below wa.heap.size wa w') (first | assumption | (refine Below.drew ?_; assumption)) (first | (go_at_call 101; refine Calls.mono (HCR.out _) ?_; rintro e wj ⟨rfl, hbj⟩; have hTa : Below wa.heap.size wa wj := Below.trans ‹Below wa.heap.size wa _› (Below.mono hbj (below_size ‹Below wa.heap.size wa _›)); clear hbj))
        have hB9 : Below w.heap.size w wj := kb.out.trans (hTa.mono kb.out.size)
        have hP9 := heap_later k0.out hTa
        have hR9 := heap_later k1.out hTa
        have hfq : f (2 * q) = 0 := by rw [HFE.out]; exact placeF_no (q := q) (b := 0) (by decide) (by decide) (fun _ h => hsc (h.trans (by rw [HCC.out])))
        rw [colP_skip hfq] at hR9
        have hB : Hid _ := hB9
        have hP : Hid _ := hP9
        have hR : Hid _ := hR9
        clear hB9 hP9 hR9 hfq
        go_wp2
        exact ⟨⟨(2 * q) + 1, by omega, by go_num, hB.out, hP.out, hR.out⟩, by simp [intOf]; omega⟩
    ·
      go_wp2_with fail
      refine (placeOf_F (2 * q + 1) q 1 _ rfl (by decide) (by omega)).mono ?_
      rintro e w2 ⟨rfl, hb2⟩
      have zz := hb2.size
      have HP2 : Hid (w2.heap[w.heap.size]? = some (.cells #[.int .i64 s, .int .i64 1] 111 (0, 0))) := heap_later HP.out hb2
      have HR2 : Hid (w2.heap[w.heap.size + 1]? = some (.cells (vfs (colP m f (2 * q + 1))) 5 (0, 0))) := heap_later HR.out hb2
      have HB2 : Hid (Below w.heap.size w w2) := HB.out.trans (hb2.mono HB.out.size)
      clear hb2
      have hA := holds_new (holds_cons (holds_cons (holds_nil w2) HP2.out) HR2.out) #[.int .i64 q, .int .i64 1] 111
      have HA : Hid _ := hA
      have HB3 : Hid _ := HB2.out.alloc HB2.out.size (.cells #[.int .i64 q, .int .i64 1] 111)
      clear hA
      have c1 := cellAt (holds_at HA.out 0 rfl) 0 _ rfl
      have c2 := cellAt (holds_at HA.out 0 rfl) 1 _ rfl
      have c3 := cellAt (holds_at HA.out 2 rfl) 0 _ rfl
      have c4 := cellAt (holds_at HA.out 2 rfl) 1 _ rfl
      have z4 := ltHeap (holds_at HA.out 2 rfl)
      have c5 := cell_later HB3.out (HC.out q (by rw [HX.out]; omega))
      have c6 := cellAt (holds_at HA.out 1 rfl) (2 * q + 1) _ (vfs_get _ _ (by rw [colP_len]; omega))
      have c7 := frozen_of_row _ (w.heap.size + 1) (2 * q + 1) _ _ (holds_at HA.out 1 rfl)
      have z5 : w.heap.size + 1 < w2.heap.size := ltHeap HR2.out
      go_upto_region 9 with fail
      have hfq : f (2 * q + 1) = at8 xs q := by rw [HFE.out]; exact placeF_same (q := q) (b := 1) rfl (by decide)
      have hR5 : (w2.setCell ⟨w.heap.size + 1, (2 * q + 1), none⟩ (.int .u8 ((at8 xs q).toNat : Int))).heap[w.heap.size + 1]? = some (.cells (vfs (colP m f ((2 * q + 1) + 1))) 5 (0, 0)) := by
        rw [heap_setCell_same _ _ _ _ _ _ HR2.out, vfs_set, ← colP_step m f (2 * q + 1), hfq]
      have hP5 : (w2.setCell ⟨w.heap.size + 1, (2 * q + 1), none⟩ (.int .u8 ((at8 xs q).toNat : Int))).heap[w.heap.size]? = some (.cells #[.int .i64 s, .int .i64 1] 111 (0, 0)) := (heap_setCell_other _ _ _ _ (by show w.heap.size ≠ w.heap.size + 1; omega)).trans HP2.out
      have hB5 : Below w.heap.size w (w2.setCell ⟨w.heap.size + 1, (2 * q + 1), none⟩ (.int .u8 ((at8 xs q).toNat : Int))) := HB2.out.setCell (by show w.heap.size ≤ w.heap.size + 1; omega) _
      have hZ5 : (w2.setCell ⟨w.heap.size + 1, (2 * q + 1), none⟩ (.int .u8 ((at8 xs q).toNat : Int))).heap.size = w2.heap.size := by simp
      have k0 : Hid (((w2.setCell ⟨w.heap.size + 1, (2 * q + 1), none⟩ (.int .u8 ((at8 xs q).toNat : Int))).alloc (.cells #[.int .i64 q, .int .i64 1] 111)).heap[w.heap.size]? = some (.cells #[.int .i64 s, .int .i64 1] 111 (0, 0))) := (Below.heap_alloc _ _ _ (ltHeap hP5)).trans hP5
      have k1 : Hid (((w2.setCell ⟨w.heap.size + 1, (2 * q + 1), none⟩ (.int .u8 ((at8 xs q).toNat : Int))).alloc (.cells #[.int .i64 q, .int .i64 1] 111)).heap[w.heap.size + 1]? = some (.cells (vfs (colP m f ((2 * q + 1) + 1))) 5 (0, 0))) := (Below.heap_alloc _ _ _ (ltHeap hR5)).trans hR5
      have k2 : Hid (((w2.setCell ⟨w.heap.size + 1, (2 * q + 1), none⟩ (.int .u8 ((at8 xs q).toNat : Int))).alloc (.cells #[.int .i64 q, .int .i64 1] 111)).heap[w2.heap.size]? = some (.cells #[.int .i64 q, .int .i64 1] 111 (0, 0))) := by
        have := heap_alloc_last (w2.setCell ⟨w.heap.size + 1, (2 * q + 1), none⟩ (.int .u8 ((at8 xs q).toNat : Int))) (.cells #[.int .i64 q, .int .i64 1] 111)
        rw [hZ5] at this
        exact this
      have kb : Hid (Below w.heap.size w ((w2.setCell ⟨w.heap.size + 1, (2 * q + 1), none⟩ (.int .u8 ((at8 xs q).toNat : Int))).alloc (.cells #[.int .i64 q, .int .i64 1] 111))) := hB5.alloc hB5.size _
      clear hR5 hP5 hB5 hZ5
      generalize hWA : ((w2.setCell ⟨w.heap.size + 1, (2 * q + 1), none⟩ (.int .u8 ((at8 xs q).toNat : Int))).alloc (.cells #[.int .i64 q, .int .i64 1] 111)) = wa at *
      clear hWA c1 c2 c3 c4 c5 c6 c7
      clear HA HB2 HB3 HP2 HR2
      have c1 := cellAt k0.out 0 _ rfl
      have c2 := cellAt k0.out 1 _ rfl
      have c3 := cellAt k2.out 0 _ rfl
      have c4 := cellAt k2.out 1 _ rfl
      go_region
      have hB9 := kb.out.drew
      have hP9 := k0.out
      have hR9 := k1.out
      have hB : Hid _ := hB9
      have hP : Hid _ := hP9
      have hR : Hid _ := hR9
      clear hB9 hP9 hR9
      go_wp2
      exact ⟨⟨(2 * q + 1) + 1, by omega, by go_num, hB.out, hP.out, hR.out⟩, by simp [intOf]; omega⟩
theorem hrowAt_F (k g s p cap : Nat) (a : Option Addr) (xs : List F) (w : World) (h1 : 1 ≤ k) (h2 : k ≤ 16) (hg : 1 ≤ g) (hg2 : g ≤ 16) (hs : s ≤ 16) (hp : p < 2) (hx : xs.length = k) (hX : Row8 w a xs) :
    Calls Tryz.prog 72 #[.agg #[.int .i64 s, .int .i64 p], .slice a k cap, .int .i64 g] w fun e w' => ∃ gb n, e = .returned (.slice (some ⟨gb, 0, none⟩) n n) ∧ n = 2 * k ∧ w.heap.size ≤ gb ∧
      w'.heap[gb]? = some (.cells (vfs (rowF (2 * k) (placeF k g s p xs))) 5 (0, 0)) ∧ Below w.heap.size w w' := by
  rcases (show p = 0 ∨ p = 1 by omega) with rfl | rfl
  · exact hrowAt_0 k g s cap a xs w h1 h2 hg hg2 hs hx hX
  · exact hrowAt_1 k g s cap a xs w h1 h2 hg hg2 hs hx hX
end Go.Proofs.YtkoakingmnjdoaaGreatDoor

/- What Of of package mat answers where its rows are not in form; nothing that was there turns. -/
namespace Go.Proofs.YtkoakingmnjdoaaGreatDoor
open Go.RowKit Gf
set_option linter.unusedVariables false
set_option maxRecDepth 20000
set_option maxHeartbeats 400000 in
theorem of_no (c : Int) (l cap : Nat) (a : Option Addr) (w : World) (s : Addr) (hs : w.cell? ⟨4, 0, none⟩ = some (errAt s)) (h : ¬ (0 ≤ c ∧ c ≤ 64 ∧ l ≤ 64)) :
    Calls Tryz.prog 73 #[.int .i64 c, .slice a l cap] w fun e w' => e = .returned (.tuple #[.agg #[.int .i64 0, .int .i64 0, .slice none 0 0], errAt s]) ∧ Below w.heap.size w w' := by
  have hs1 := cell?_alloc_old (.cells #[.int .i64 0, .int .i64 0, .slice none 0 0] 73) hs
  have H : Hid _ := h
  have HS : Hid _ := hs1
  clear hs h hs1
  unfold errAt at *
  go_enter Tryz.func73, Tryz.ntmps73
  go_wp2_with fail
  refine Calls.mono (zero_bad l c _ _ HS.out (fun h => H.out ⟨h.2.2.1, h.2.2.2, by have := h.2.1; omega⟩)) ?_
  rintro e w1 ⟨rfl, hb1⟩
  have k1 := heap_later (heap_alloc_last w (.cells #[.int .i64 0, .int .i64 0, .slice none 0 0] 73)) hb1
  have c4 := cellAt k1 0 _ rfl
  have c5 := cellAt k1 1 _ rfl
  have c6 := cellAt k1 2 _ rfl
  have d4 : w1.frozen? ⟨w.heap.size, 0, none⟩ = false := frozen_of_row _ _ _ _ _ k1
  have d5 : w1.frozen? ⟨w.heap.size, 1, none⟩ = false := frozen_of_row _ _ _ _ _ k1
  have d6 : w1.frozen? ⟨w.heap.size, 2, none⟩ = false := frozen_of_row _ _ _ _ _ k1
  have z1 := ltHeap k1
  have HB1 : Hid (Below w.heap.size w w1) := ((Below.refl w.heap.size w).alloc (Nat.le_refl _) _).trans (hb1.mono (by simp))
  clear hb1 k1
  go_wp2
  refine bodyPost_ret (v := .tuple #[.agg #[.int .i64 0, .int .i64 0, .slice none 0 0], .iface 191 (.pointer (some s))]) (by simp [results, Tryz.results73, go_sem, c4, c5, c6, z1]) rfl ⟨rfl, ?_⟩
  exact (((HB1.out.setCell (by simp) _).setCell (by simp) _).setCell (by simp) _).alloc (by simp; omega) _
set_option maxHeartbeats 400000 in
theorem one_bad (n : Int) (w : World) (s : Addr) (hs : w.cell? ⟨4, 0, none⟩ = some (errAt s)) (h : ¬ (0 ≤ n ∧ n ≤ 64)) :
    Calls Tryz.prog 95 #[.int .i64 n] w fun e w' => e = .returned (.tuple #[.agg #[.int .i64 0, .int .i64 0, .slice none 0 0], errAt s]) ∧ Below w.heap.size w w' := by
  have hs1 := cell?_alloc_old (.cells #[.int .i64 0, .int .i64 0, .slice none 0 0] 73) hs
  have H : Hid _ := h
  have HS : Hid _ := hs1
  clear hs h hs1
  unfold errAt at *
  go_enter Tryz.func95, Tryz.ntmps95
  go_wp2_with fail
  refine Calls.mono (zero_bad n n _ _ HS.out (fun h => H.out ⟨h.1, h.2.1⟩)) ?_
  rintro e w1 ⟨rfl, hb1⟩
  have k1 := heap_later (heap_alloc_last w (.cells #[.int .i64 0, .int .i64 0, .slice none 0 0] 73)) hb1
  have c4 := cellAt k1 0 _ rfl
  have c5 := cellAt k1 1 _ rfl
  have c6 := cellAt k1 2 _ rfl
  have d4 : w1.frozen? ⟨w.heap.size, 0, none⟩ = false := frozen_of_row _ _ _ _ _ k1
  have d5 : w1.frozen? ⟨w.heap.size, 1, none⟩ = false := frozen_of_row _ _ _ _ _ k1
  have d6 : w1.frozen? ⟨w.heap.size, 2, none⟩ = false := frozen_of_row _ _ _ _ _ k1
  have z1 := ltHeap k1
  have HB1 : Hid (Below w.heap.size w w1) := ((Below.refl w.heap.size w).alloc (Nat.le_refl _) _).trans (hb1.mono (by simp))
  clear hb1 k1
  go_wp2
  refine bodyPost_ret (v := .tuple #[.agg #[.int .i64 0, .int .i64 0, .slice none 0 0], .iface 191 (.pointer (some s))]) (by simp [results, Tryz.results95, go_sem, c4, c5, c6, z1]) rfl ⟨rfl, ?_⟩
  exact (((HB1.out.setCell (by simp) _).setCell (by simp) _).setCell (by simp) _).alloc (by simp; omega) _
/-- where the first row that is too long, or too short, stands -/
theorem odd_split {c : Nat} : ∀ {L : List (List F)}, ¬ (∀ xs ∈ L, xs.length = c) → ∃ (k : Nat) (xs : List F), L[k]? = some xs ∧ xs.length ≠ c ∧ ∀ (j : Nat) (ys : List F), j < k → L[j]? = some ys → ys.length = c
  | [], h => absurd (fun _ h => by cases h) h
  | zs :: L, h => by
    by_cases hz : zs.length = c
    · obtain ⟨k, xs, h1, h2, h3⟩ := odd_split (L := L) (c := c) (fun h' => h (fun xs hx => by
        rcases List.mem_cons.1 hx with rfl | hx
        · exact hz
        · exact h' xs hx))
      refine ⟨k + 1, xs, h1, h2, fun j ys hj hy => ?_⟩
      cases j with
      | zero => obtain rfl := Option.some.inj hy; exact hz
      | succ j => exact h3 j ys (by omega) hy
    · exact ⟨0, zs, rfl, hz, fun j ys hj => absurd hj (Nat.not_lt_zero _)⟩
set_option maxHeartbeats 1000000 in
theorem of_odd (c l cap : Nat) (a : Option Addr) (L : List (List F)) (w : World) (hc : c ≤ 64) (hl : l = L.length) (hl6 : l ≤ 64) (hX : Rows8 w a L) (s : Addr) (hs : w.cell? ⟨4, 0, none⟩ = some (errAt s)) (h : ¬ (∀ xs ∈ L, xs.length = c)) :
    Calls Tryz.prog 73 #[.int .i64 c, .slice a l cap] w fun e w' => e = .returned (.tuple #[.agg #[.int .i64 0, .int .i64 0, .slice none 0 0], errAt s]) ∧ Below w.heap.size w w' := by
  have hlt0 := World.block_lt_of_cell? w _ hs
  simp at hlt0
  obtain ⟨k0, bad, hbad, hodd, hgood⟩ := odd_split h
  have hk0 : k0 < l := by rw [hl]; exact (List.getElem?_eq_some_iff.1 hbad).1
  have HL : Hid _ := hl
  have HR : Hid (Rows8 w a L) := hX
  have HS : Hid _ := hs
  have HBad : Hid _ := hbad
  have HOdd : Hid _ := hodd
  have HGood : Hid _ := hgood
  clear hl hX hs h hbad hodd hgood
  unfold errAt at *
  go_enter Tryz.func73, Tryz.ntmps73
  go_wp2_with fail
  refine Calls.mono (zero_F l c _ hl6 hc) ?_
  rintro e w2 ⟨g, n, rfl, hn, hg, hh, hb2⟩
  have z2 := hb2.size
  simp only [World.size_alloc] at z2 hg
  have z4 : w.heap.size < w2.heap.size := by omega
  have zg : g < w2.heap.size := ltHeap hh
  have HN : Hid _ := hn
  have HG : Hid _ := hh
  have HB' : Hid (Below w.heap.size w w2) := ((Below.refl w.heap.size w).alloc (Nat.le_refl _) _).trans (hb2.mono (by simp))
  have B1' : Hid _ := heap_later (heap_alloc_last w (.cells #[.int .i64 0, .int .i64 0, .slice none 0 0] 73)) hb2
  clear hn hh hb2
  go_wp2
  have B2 : Hid _ := heap_alloc_last w2 (.cells #[.int .i64 l, .int .i64 c, .slice (some ⟨g, 0, none⟩) n n] 73)
  have B1 : Hid ((w2.alloc (.cells #[.int .i64 l, .int .i64 c, .slice (some ⟨g, 0, none⟩) n n] 73)).heap[w.heap.size]? = some (.cells #[.int .i64 0, .int .i64 0, .slice none 0 0] 73 (0, 0))) :=
    (Below.heap_alloc _ _ _ z4).trans B1'.out
  have B3 : Hid ((w2.alloc (.cells #[.int .i64 l, .int .i64 c, .slice (some ⟨g, 0, none⟩) n n] 73)).heap[g]? = some (.cells (vfs (zeros (l * c))) 5 (0, 0))) := (Below.heap_alloc _ _ _ zg).trans HG.out
  have B4 : Hid (Below w.heap.size w (w2.alloc (.cells #[.int .i64 l, .int .i64 c, .slice (some ⟨g, 0, none⟩) n n] 73))) := HB'.out.alloc (by omega) _
  clear HG HB' B1'
  generalize hM : w2.heap.size = M at *
  generalize (w2.alloc (.cells #[.int .i64 l, .int .i64 c, .slice (some ⟨g, 0, none⟩) n n] 73)) = W3 at *
  clear hM
  go_loopw [23] (fun i wr => ∃ k : Nat, ∃ zs : List F, k ≤ k0 ∧ i = .int .i64 k ∧ W3.grownBy wr (some g) ∧ zs.length = l * c ∧ wr.heap[g]? = some (.cells (vfs zs) 5 (0, 0))) (fun i _ => l - (intOf i).toNat)
  case atStart => exact ⟨0, _, by omega, rfl, World.grownBy.refl _ _, zeros_len _, B3.out⟩
  case round =>
    obtain ⟨k, zs, hk, rfl, hgb, hzl, hs⟩ := hrel
    have hlt : k < l := by omega
    have hkL : k < L.length := by rw [← HL.out]; exact hlt
    have hget : L[k]? = some L[k] := List.getElem?_eq_getElem hkL
    generalize L[k] = xs at hget
    have HGet : Hid _ := hget
    rcases HR.out with e0 | ⟨b, off, rfl, hrows⟩
    · rw [e0] at hkL; simp at hkL
    obtain ⟨a', cap', hc1, hr1⟩ := hrows k xs hget
    have hbw := below_grown B4.out hgb (by omega)
    have c0 := cell_later hbw hc1
    have HGB : Hid _ := hgb
    have HZ : Hid _ := hzl
    have HG : Hid _ := hs
    have HBW : Hid _ := hbw
    have HR1 : Hid (Row8 w a' xs) := hr1
    have k0' := grown_block hgb B2.out (by omega)
    by_cases hbe : k < k0
    · have hxl := HGood.out k xs hbe hget
      rw [hxl] at c0
      have c1 := cellAt k0' 0 _ rfl
      have c2 := cellAt k0' 1 _ rfl
      have c3 := cellAt k0' 2 _ rfl
      have HXL : Hid _ := hxl
      clear k0' hgb hs hc1 hr1 hrows hget hxl hbw hzl
      go_wp2_with fail
      refine Calls.mono (rowOf_some l c k g 0 n n _ hl6 hc hlt HN.out (Nat.le_refl _)) ?_
      rintro e w5 ⟨rfl, hb5⟩
      rw [rof_row hlt HN.out]
      have hr5 := row8_below HR1.out (HBW.out.trans (hb5.mono HBW.out.size))
      have hs5 := heap_later HG.out hb5
      have hle : k * c + xs.length ≤ zs.length := by
        have h1 := Nat.mul_le_mul_right c (show k + 1 ≤ l from hlt)
        rw [Nat.succ_mul] at h1
        rw [HZ.out, HXL.out]; exact h1
      have hcp := fun ty => run_copyAt g (k * c) c (n - k * c) a' c cap' zs xs w5 ty HXL.out.symm HXL.out.symm hle hs5 hr5
      have hz5 : (zs.take (k * c) ++ xs ++ zs.drop (k * c + xs.length)).length = l * c := by
        rw [List.length_append, List.length_append, List.length_take, List.length_drop, ← HZ.out]; omega
      have hs6 := setRow_heap _ _ _ (vfs (zs.take (k * c) ++ xs ++ zs.drop (k * c + xs.length))) _ _ hs5
      have hg6 := grownBy_setRow (grown_below HGB.out hb5) (vfs (zs.take (k * c) ++ xs ++ zs.drop (k * c + xs.length)))
      generalize zs.take (k * c) ++ xs ++ zs.drop (k * c + xs.length) = us at hcp hz5 hs6 hg6
      have HZ5 : Hid _ := hz5
      have HS5 : Hid _ := hs6
      have HGB5 : Hid _ := hg6
      clear hs5 hb5 c0 c1 c2 c3 hr5 hle hz5 hs6 hg6
      go_wp2
      exact ⟨⟨k + 1, _, by omega, by go_num, HGB5.out, HZ5.out, HS5.out⟩, by simp [intOf]; omega⟩
    · obtain rfl : k = k0 := by omega
      obtain rfl : bad = xs := Option.some.inj (HBad.out.symm.trans hget)
      have hne : ((bad.length : Int) != (c : Int)) = true := by rw [bne_iff_ne]; have := HOdd.out; exact fun e => this (by omega)
      have k1 := grown_block hgb B1.out (by omega)
      have c4 := cellAt k1 0 _ rfl
      have c5 := cellAt k1 1 _ rfl
      have c6 := cellAt k1 2 _ rfl
      have d4 : wr.frozen? ⟨w.heap.size, 0, none⟩ = false := frozen_of_row _ _ _ _ _ k1
      have d5 : wr.frozen? ⟨w.heap.size, 1, none⟩ = false := frozen_of_row _ _ _ _ _ k1
      have d6 : wr.frozen? ⟨w.heap.size, 2, none⟩ = false := frozen_of_row _ _ _ _ _ k1
      have c9 := cell_later hbw HS.out
      clear k0' k1 hgb hs hc1 hr1 hrows hget hbw hzl
      go_wp2
      go_region
      go_wp2
      refine bodyPost_ret (v := .tuple #[.agg #[.int .i64 0, .int .i64 0, .slice none 0 0], .iface 191 (.pointer (some s))]) (by simp [results, Tryz.results73, go_sem, c4, c5, c6]) rfl ⟨rfl, ?_⟩
      exact (((HBW.out.drew).setCell (by simp) _).setCell (by simp) _).setCell (by simp) _
end Go.Proofs.YtkoakingmnjdoaaGreatDoor

/- What Stack of package mat answers, of all lists of matrices; nothing that was there turns. -/
namespace Go.Proofs.YtkoakingmnjdoaaGreatDoor
open Go.RowKit Gf
set_option linter.unusedVariables false
set_option maxRecDepth 20000
/-- a matrix as it comes: its numbers, its list, the elements -/
structure Mx where
  r : Int
  c : Int
  a : Option Addr
  l : Nat
  cap : Nat
  xs : List F
/-- a matrix in form, of these columns -/
def Mx.Good (m : Mx) (c : Nat) : Prop := ∃ r : Nat, m.r = r ∧ m.c = c ∧ r ≤ 64 ∧ c ≤ 64 ∧ m.l = r * c
/-- what is known of it -/
def Mx.Lies (m : Mx) (w : World) : Prop := m.l = m.xs.length ∧ m.l ≤ m.cap ∧ Row8 w m.a m.xs ∧ (m.a = none → m.cap = 0)
/-- a list of matrices in memory -/
def MxsAt (w : World) (b : Nat) (ms : List Mx) : Prop := ∀ j m, ms[j]? = some m → w.cell? ⟨b, j * 3, none⟩ = some (.int .i64 m.r) ∧ w.cell? ⟨b, j * 3 + 1, none⟩ = some (.int .i64 m.c) ∧ w.cell? ⟨b, j * 3 + 2, none⟩ = some (.slice m.a m.l m.cap)
def rowsOf (ms : List Mx) : Nat := (ms.map fun m => m.r.toNat).sum
def rowsM (c : Nat) (ms : List Mx) : List (List F) := (ms.map fun m => (List.range m.r.toNat).map (rowAt c m.xs)).flatten
theorem rowsM_snoc (c : Nat) (ms : List Mx) (m : Mx) : rowsM c (ms ++ [m]) = rowsM c ms ++ (List.range m.r.toNat).map (rowAt c m.xs) := by simp [rowsM]
theorem rowsOf_snoc (ms : List Mx) (m : Mx) : rowsOf (ms ++ [m]) = rowsOf ms + m.r.toNat := by simp [rowsOf]
theorem rowsM_len (c : Nat) (ms : List Mx) : (rowsM c ms).length = rowsOf ms := by
  simp only [rowsM, rowsOf, List.length_flatten, List.map_map]
  congr 1
  apply List.map_congr_left
  intro m _
  simp
/-- the whole is as the call wants it -/
def StackOk (c : Int) (ms : List Mx) : Prop := 0 ≤ c ∧ c ≤ 64 ∧ (∀ m ∈ ms, m.Good c.toNat) ∧ rowsOf ms ≤ 64
theorem rowsOf_take_le (ms : List Mx) (k : Nat) : rowsOf (ms.take k) ≤ rowsOf ms := by
  have h := List.take_append_drop k ms
  have : rowsOf (ms.take k ++ ms.drop k) = rowsOf (ms.take k) + rowsOf (ms.drop k) := by simp only [rowsOf, List.map_append, List.sum_append]
  rw [h] at this; omega
set_option maxHeartbeats 2000000 in
theorem stack_F (c : Int) (b n cn : Nat) (ms : List Mx) (w : World) (hb : b < w.heap.size) (hn : n = ms.length) (hn6 : n ≤ 100) (hA : MxsAt w b ms) (hM : ∀ m ∈ ms, m.Lies w) (s : Addr) (hs : w.cell? ⟨4, 0, none⟩ = some (errAt s)) :
    Calls Tryz.prog 96 #[.int .i64 c, .slice (some ⟨b, 0, none⟩) n cn] w fun e w' =>
      (StackOk c ms ∧ ∃ g m, e = .returned (.tuple #[.agg #[.int .i64 (rowsOf ms), .int .i64 c, .slice (some ⟨g, 0, none⟩) m m], .nilIface]) ∧ m = rowsOf ms * c.toNat ∧ w.heap.size ≤ g ∧
        w'.heap[g]? = some (.cells (vfs (rowsM c.toNat ms).flatten) 5 (0, 0)) ∧ Below w.heap.size w w') ∨
      ¬ StackOk c ms ∧ e = .returned (.tuple #[.agg #[.int .i64 0, .int .i64 0, .slice none 0 0], errAt s]) ∧ Below w.heap.size w w' := by
  have hlt0 := World.block_lt_of_cell? w _ hs
  simp at hlt0
  have HN : Hid _ := hn
  have HA : Hid _ := hA
  have HM : Hid _ := hM
  have HS : Hid _ := hs
  clear hn hA hM hs
  unfold errAt at *
  have B1 : Hid _ := heap_alloc_last w (.cells #[.int .i64 0, .int .i64 0, .slice none 0 0] 73)
  have B4 : Hid (Below w.heap.size w (w.alloc (.cells #[.int .i64 0, .int .i64 0, .slice none 0 0] 73))) := (Below.refl _ _).alloc (Nat.le_refl _) _
  go_enter Tryz.func96, Tryz.ntmps96
  go_wp2
  have z0 : w.heap.size < (w.alloc (.cells #[.int .i64 0, .int .i64 0, .slice none 0 0] 73)).heap.size := by simp
  generalize (w.alloc (.cells #[.int .i64 0, .int .i64 0, .slice none 0 0] 73)) = W at *
  go_loopw [6, 12] (fun v i wr => ∃ k : Nat, ∃ vs : List Value, k ≤ n ∧ i = .int .i64 k ∧ Below (w.heap.size + 1) W wr ∧ wr.ownsRow (w.heap.size + 1) 23 1 v (rowsOf (ms.take k)) vs ∧ Lists8 w c.toNat vs (rowsM c.toNat (ms.take k)) ∧ rowsOf (ms.take k) ≤ 64 ∧ ∀ m ∈ ms.take k, m.Good c.toNat ∧ 0 ≤ c) (fun _ i _ => n - (intOf i).toNat)
  case atStart => exact ⟨0, [], by omega, rfl, Below.refl _ _, by simpa [rowsOf] using World.ownsRow_nil _ _ _ _, by simpa [rowsM] using lists8_nil w _, by simp [rowsOf], by simp⟩
  case round =>
    obtain ⟨k, vs, hk, rfl, hbw, hown, hls, hro, hall⟩ := hrel
    by_cases hlt : k < n
    · have hkm : k < ms.length := by rw [← HN.out]; exact hlt
      have hget : ms[k]? = some ms[k] := List.getElem?_eq_getElem hkm
      generalize ms[k] = x at hget
      have hc012 := HA.out k x hget
      have hBw : Below w.heap.size w wr := B4.out.trans (hbw.mono (by omega))
      have c0 := cell_later hBw hc012.1
      have c1 := cell_later hBw hc012.2.1
      have c2 := cell_later hBw hc012.2.2
      have c9 := cell_later hBw HS.out
      have HGet : Hid _ := hget
      have HOwn : Hid _ := hown
      have HLS : Hid _ := hls
      have HBW : Hid _ := hbw
      have HAll : Hid _ := hall
      have HLies : Hid _ := HM.out x (List.mem_of_getElem? hget)
      have z1 : w.heap.size + 1 ≤ wr.heap.size := by have := hbw.size; omega
      have k1 : Hid _ := (hbw.block w.heap.size (by omega)).trans B1.out
      clear hget hown hls hbw hall hBw hc012
      obtain ⟨xr, xc, xa, xl, xcap, xxs⟩ := x
      have HB0 : Hid (Below w.heap.size w wr) := B4.out.trans (HBW.out.mono (by omega))
      have hlen : ∃ gv capv, u6 = .slice gv (rowsOf (ms.take k)) capv := by
        rcases HOwn.out.2 with ⟨rfl, e⟩ | ⟨g, cap, cur, rfl, _⟩
        · exact ⟨none, 0, by rw [e]⟩
        · exact ⟨_, _, rfl⟩
      obtain ⟨gv, capv, rfl⟩ := hlen
      by_cases hf : 0 ≤ xr ∧ xr ≤ 64 ∧ 0 ≤ xc ∧ xc ≤ 64 ∧ (xl : Int) = xr * xc
      · obtain ⟨r, rfl⟩ := Int.eq_ofNat_of_zero_le hf.1
        obtain ⟨d, rfl⟩ := Int.eq_ofNat_of_zero_le hf.2.2.1
        have hr : r ≤ 64 := by omega
        have hd : d ≤ 64 := by omega
        have hl : xl = r * d := by have := hf.2.2.2.2; rw [← Int.natCast_mul] at this; omega
        have HL : Hid _ := hl
        clear hf hl
        go_wp2_with fail
        refine Calls.mono (check_ok r d xa xl xcap _ hr hd HL.out) ?_
        rintro e w1 ⟨rfl, hb1⟩
        have hB1 : Below wr.heap.size wr w1 := ((Below.refl _ _).alloc (Nat.le_refl _) _).trans (hb1.mono (by simp))
        have kx := heap_later (heap_alloc_last wr (.cells #[.int .i64 r, .int .i64 d, .slice xa xl xcap] 73)) hb1
        have e1 := cellAt kx 0 _ rfl
        have e2 := cellAt kx 1 _ rfl
        have e3 := cellAt kx 2 _ rfl
        have k1' := heap_later k1.out hB1
        have c4 := cellAt k1' 0 _ rfl
        have c5 := cellAt k1' 1 _ rfl
        have c6 := cellAt k1' 2 _ rfl
        have d4 : w1.frozen? ⟨w.heap.size, 0, none⟩ = false := frozen_of_row _ _ _ _ _ k1'
        have d5 : w1.frozen? ⟨w.heap.size, 1, none⟩ = false := frozen_of_row _ _ _ _ _ k1'
        have d6 : w1.frozen? ⟨w.heap.size, 2, none⟩ = false := frozen_of_row _ _ _ _ _ k1'
        have c9 := cell_later hB1 c9
        have HB1 : Hid (Below w.heap.size w w1) := HB0.out.trans (hB1.mono HB0.out.size)
        have HR1 : Hid _ := own_below HOwn.out hB1
        have HKX : Hid _ := kx
        have HK1 : Hid _ := k1'
        have HBW1 : Hid (Below (w.heap.size + 1) W w1) := HBW.out.trans (hB1.mono z1)
        clear hb1 kx k1' c0 c1 c2
        by_cases hdc : (d : Int) = c
        · subst hdc
          by_cases hsum : rowsOf (ms.take k) + r ≤ 64
          · clear c4 c5 c6 d4 d5 d6 c9
            go_wp2
            have z2 := hB1.size
            clear hB1
            generalize hM : wr.heap.size = M at *
            go_loopw [6, 37] (fun v i wq => ∃ q : Nat, ∃ us : List Value, q ≤ r ∧ i = .int .i64 q ∧ Below (w.heap.size + 1) W wq ∧ wq.heap[M]? = some (.cells #[.int .i64 r, .int .i64 d, .slice xa xl xcap] 73 (0, 0)) ∧ wq.ownsRow (w.heap.size + 1) 23 1 v (rowsOf (ms.take k) + q) us ∧
              Lists8 w d us (rowsM d (ms.take k) ++ (List.range q).map (rowAt d xxs))) (fun _ i _ => r - (intOf i).toNat)
            case atStart => exact ⟨0, vs, by omega, rfl, HBW1.out, HKX.out, HR1.out, by rw [List.range_zero, List.map_nil, List.append_nil]; exact HLS.out⟩
            case round =>
              obtain ⟨q, us, hq, rfl, hbq, hxq, hoq, hlq⟩ := hrel
              have HBQ : Hid _ := hbq
              have HXQ : Hid _ := hxq
              have HOQ : Hid _ := hoq
              have HLQ : Hid _ := hlq
              by_cases hltq : q < r
              · have f1 := cellAt hxq 0 _ rfl
                have f2 := cellAt hxq 1 _ rfl
                have f3 := cellAt hxq 2 _ rfl
                clear hbq hxq hoq hlq
                go_wp2_with fail
                refine Calls.mono (rowOf_G r d q xl xcap xa xxs w _ hr hd hltq HL.out (by rw [← HLies.out.1]; exact HL.out) HLies.out.2.1 HLies.out.2.2.1 HLies.out.2.2.2) ?_
                rintro e w4 ⟨a', cap', rfl, hr4, hc4, hn4, hs4, hb4⟩
                have ho4 := (own_below HOQ.out hb4).alloc (.cells #[.slice a' d cap'] 23)
                have hx4 := (Below.heap_alloc w4 (.cells #[.slice a' d cap'] 23) _ (ltHeap (heap_later HXQ.out hb4))).trans (heap_later HXQ.out hb4)
                have hB4 : Below (w.heap.size + 1) W (w4.alloc (.cells #[.slice a' d cap'] 23)) := (HBQ.out.trans (hb4.mono (by have := HBQ.out.size; omega))).alloc (by have := HBQ.out.size; have := hb4.size; omega) _
                obtain ⟨g2, cap2, w2, hrun, ho2, hgr, hor, hlt2⟩ := appendS (b := w4.heap.size) (c := 1) (x := .slice a' d cap') 49 ho4 (cellAt (heap_alloc_last w4 (.cells #[.slice a' d cap'] 23)) 0 _ rfl) rfl (by omega) (by have := hB4.size; omega)
                have HRun : Hid _ := hrun
                have HO2 : Hid _ := ho2
                have HX2 : Hid _ := own_other ho4 hgr hx4 (by decide)
                have HB2 : Hid _ := below_own hB4 ho4 hgr (by have := hB4.size; omega)
                have HR4 : Hid _ := hr4
                clear hrun ho2 hgr hor hlt2 hB4 hx4 ho4 hb4 hr4 f1 f2 f3
                go_wp2_with (at_builtin; refine wpList_append_run rfl _ _ 49 rfl _ _ _ _ rfl rfl HRun.out ?_)
                refine ⟨⟨q + 1, _, by omega, by go_num, HB2.out, HX2.out, HO2.out, ?_⟩, by simp [intOf]; omega⟩
                rw [List.range_succ, List.map_append, ← List.append_assoc]
                exact lists8_snoc HLQ.out (rowAt_len (by rw [← HLies.out.1]; exact HL.out) hltq) HR4.out
              · obtain rfl : q = r := by omega
                clear hbq hxq hoq hlq
                go_wp2
                have hk1 : k < ms.length := by rw [← HN.out]; exact hlt
                have e9 : ms[k] = ⟨(q : Int), (d : Int), xa, xl, xcap, xxs⟩ := by have := HGet.out; rw [List.getElem?_eq_getElem hk1] at this; exact Option.some.inj this
                have hro' : rowsOf (ms.take (k + 1)) = rowsOf (ms.take k) + q := by rw [List.take_succ_eq_append_getElem hk1, e9, rowsOf_snoc]; rfl
                have hrm' : rowsM d (ms.take (k + 1)) = rowsM d (ms.take k) ++ (List.range q).map (rowAt d xxs) := by rw [List.take_succ_eq_append_getElem hk1, e9, rowsM_snoc]; rfl
                refine ⟨⟨k + 1, us, by omega, by go_num, HBQ.out, by rw [hro']; exact HOQ.out, ?_, by rw [hro']; exact hsum, ?_⟩, by simp [intOf]; omega⟩
                · show Lists8 w d us (rowsM d (ms.take (k + 1)))
                  rw [hrm']; exact HLQ.out
                · intro m hm
                  rw [List.take_succ_eq_append_getElem hk1, e9, List.mem_append, List.mem_singleton] at hm
                  rcases hm with hm | rfl
                  · exact HAll.out m hm
                  · exact ⟨⟨q, rfl, rfl, hr, hd, HL.out⟩, by omega⟩
          · have HS9 : Hid _ := hsum
            go_wp2
            go_region
            go_wp2
            refine bodyPost_ret (v := .tuple #[.agg #[.int .i64 0, .int .i64 0, .slice none 0 0], .iface 191 (.pointer (some s))]) (by simp [results, Tryz.results96, go_sem, c4, c5, c6]) rfl (.inr ⟨fun h => ?_, rfl, ?_⟩)
            · have hk1 : k < ms.length := by rw [← HN.out]; exact hlt
              have e9 : ms[k] = ⟨(r : Int), (d : Int), xa, xl, xcap, xxs⟩ := by have := HGet.out; rw [List.getElem?_eq_getElem hk1] at this; exact Option.some.inj this
              have hro' : rowsOf (ms.take (k + 1)) = rowsOf (ms.take k) + r := by rw [List.take_succ_eq_append_getElem hk1, e9, rowsOf_snoc]; rfl
              have h2 := rowsOf_take_le ms (k + 1)
              have h3 := h.2.2.2
              exact HS9.out (by omega)
            · exact (((HB1.out.drew).setCell (by simp) _).setCell (by simp) _).setCell (by simp) _
        · have HS9 : Hid _ := hdc
          go_wp2
          go_region
          go_wp2
          refine bodyPost_ret (v := .tuple #[.agg #[.int .i64 0, .int .i64 0, .slice none 0 0], .iface 191 (.pointer (some s))]) (by simp [results, Tryz.results96, go_sem, c4, c5, c6]) rfl (.inr ⟨fun h => ?_, rfl, ?_⟩)
          · obtain ⟨r2, _, h2, _⟩ := h.2.2.1 _ (List.mem_of_getElem? HGet.out)
            have h3 := h.1
            have h4 : (d : Int) = (c.toNat : Int) := h2
            exact HS9.out (by omega)
          · exact (((HB1.out.drew).setCell (by simp) _).setCell (by simp) _).setCell (by simp) _
      · have HF : Hid _ := hf
        have c9' := cell?_alloc_old (.cells #[.int .i64 xr, .int .i64 xc, .slice xa xl xcap] 73) c9
        have HC9 : Hid _ := c9'
        clear hf c9'
        go_wp2_with fail
        refine Calls.mono (check_bad xr xc xa xl xcap _ _ HC9.out HF.out) ?_
        rintro e w1 ⟨rfl, hb1⟩
        have hB1 : Below wr.heap.size wr w1 := ((Below.refl _ _).alloc (Nat.le_refl _) _).trans (hb1.mono (by simp))
        have k1' := heap_later k1.out hB1
        have c4 := cellAt k1' 0 _ rfl
        have c5 := cellAt k1' 1 _ rfl
        have c6 := cellAt k1' 2 _ rfl
        have d4 : w1.frozen? ⟨w.heap.size, 0, none⟩ = false := frozen_of_row _ _ _ _ _ k1'
        have d5 : w1.frozen? ⟨w.heap.size, 1, none⟩ = false := frozen_of_row _ _ _ _ _ k1'
        have d6 : w1.frozen? ⟨w.heap.size, 2, none⟩ = false := frozen_of_row _ _ _ _ _ k1'
        have c9 := cell_later hB1 c9
        have HB1 : Hid (Below w.heap.size w w1) := HB0.out.trans (hB1.mono HB0.out.size)
        clear hb1 k1' c0 c1 c2 hB1
        go_wp2
        go_region
        go_wp2
        refine bodyPost_ret (v := .tuple #[.agg #[.int .i64 0, .int .i64 0, .slice none 0 0], .iface 191 (.pointer (some s))]) (by simp [results, Tryz.results96, go_sem, c4, c5, c6]) rfl (.inr ⟨fun h => ?_, rfl, ?_⟩)
        · obtain ⟨r2, h1, h2, h3, h4, h5⟩ := h.2.2.1 _ (List.mem_of_getElem? HGet.out)
          have h1 : xr = (r2 : Int) := h1
          have h2 : xc = (c.toNat : Int) := h2
          have h5 : xl = r2 * c.toNat := h5
          refine HF.out ⟨by omega, by omega, by omega, by omega, ?_⟩
          rw [h1, h2, h5, Int.natCast_mul]
        · exact (((HB1.out.drew).setCell (by simp) _).setCell (by simp) _).setCell (by simp) _
    · obtain rfl : k = n := by omega
      have hd : ms.take k = ms := List.take_of_length_le (by rw [HN.out]; exact Nat.le_refl _)
      rw [hd] at hown hls hro hall
      have HB0 : Hid (Below w.heap.size w wr) := B4.out.trans (hbw.mono (by omega))
      have z1 : w.heap.size + 1 ≤ wr.heap.size := by have := hbw.size; omega
      have k1 : Hid _ := (hbw.block w.heap.size (by omega)).trans B1.out
      have hlen : ∃ gv capv, u6 = .slice gv (rowsOf ms) capv ∧ Rows8 wr gv (rowsM c.toNat ms) := by
        rcases hown.2 with ⟨rfl, e⟩ | ⟨g, cap, cur, rfl, h2⟩
        · exact ⟨none, 0, by rw [e], .inl (List.eq_nil_of_length_eq_zero (by rw [rowsM_len, e]))⟩
        · exact ⟨_, _, rfl, lists8_rows hls HB0.out (fun j v hj => by
            have hjl := (List.getElem?_eq_some_iff.1 hj).1
            have := hown.1
            rw [hown.cellAt j (by omega), hj])⟩
      obtain ⟨gv, capv, rfl, hr8⟩ := hlen
      have HR8 : Hid _ := hr8
      have HLL : Hid _ := lists8_len hls
      have HAll : Hid _ := hall
      clear hr8 hls hall hown hbw hd
      by_cases hc : 0 ≤ c ∧ c ≤ 64
      · obtain ⟨d, rfl⟩ := Int.eq_ofNat_of_zero_le hc.1
        have hd : d ≤ 64 := by omega
        clear hc
        go_wp2_with fail
        refine Calls.mono (of_F d (rowsOf ms) capv gv (rowsM d ms) _ hd (rowsM_len _ _).symm hro HLL.out HR8.out) ?_
        rintro e w5 ⟨g, m, rfl, hm, hg, hh, hb5⟩
        have k5 := heap_later k1.out hb5
        have c4 := cellAt k5 0 _ rfl
        have c5 := cellAt k5 1 _ rfl
        have c6 := cellAt k5 2 _ rfl
        have d4 : w5.frozen? ⟨w.heap.size, 0, none⟩ = false := frozen_of_row _ _ _ _ _ k5
        have d5 : w5.frozen? ⟨w.heap.size, 1, none⟩ = false := frozen_of_row _ _ _ _ _ k5
        have d6 : w5.frozen? ⟨w.heap.size, 2, none⟩ = false := frozen_of_row _ _ _ _ _ k5
        have HB5 : Hid (Below w.heap.size w w5) := HB0.out.trans (hb5.mono HB0.out.size)
        have HH : Hid _ := hh
        have HM' : Hid _ := hm
        clear k5 hb5 hh hm
        go_wp2
        refine bodyPost_ret (v := .tuple #[.agg #[.int .i64 (rowsOf ms), .int .i64 d, .slice (some ⟨g, 0, none⟩) m m], .nilIface]) (by simp [results, Tryz.results96, go_sem, c4, c5, c6]) rfl (.inl ⟨⟨by omega, by omega, fun m hm => (HAll.out m hm).1, hro⟩, g, m, rfl, HM'.out, by omega, ?_, ?_⟩)
        · rw [heap_setCell_other _ _ _ _ (by show g ≠ w.heap.size; omega), heap_setCell_other _ _ _ _ (by show g ≠ w.heap.size; omega), heap_setCell_other _ _ _ _ (by show g ≠ w.heap.size; omega)]
          exact HH.out
        · exact ((HB5.out.setCell (by simp) _).setCell (by simp) _).setCell (by simp) _
      · have HC : Hid _ := hc
        have c9 := cell_later HB0.out HS.out
        have HC9 : Hid _ := c9
        clear hc c9
        go_wp2_with fail
        refine Calls.mono (of_no c (rowsOf ms) capv gv _ _ HC9.out (fun h => HC.out ⟨h.1, h.2.1⟩)) ?_
        rintro e w5 ⟨rfl, hb5⟩
        unfold errAt
        have k5 := heap_later k1.out hb5
        have c4 := cellAt k5 0 _ rfl
        have c5 := cellAt k5 1 _ rfl
        have c6 := cellAt k5 2 _ rfl
        have d4 : w5.frozen? ⟨w.heap.size, 0, none⟩ = false := frozen_of_row _ _ _ _ _ k5
        have d5 : w5.frozen? ⟨w.heap.size, 1, none⟩ = false := frozen_of_row _ _ _ _ _ k5
        have d6 : w5.frozen? ⟨w.heap.size, 2, none⟩ = false := frozen_of_row _ _ _ _ _ k5
        have HB5 : Hid (Below w.heap.size w w5) := HB0.out.trans (hb5.mono HB0.out.size)
        clear k5 hb5
        go_wp2
        refine bodyPost_ret (v := .tuple #[.agg #[.int .i64 0, .int .i64 0, .slice none 0 0], .iface 191 (.pointer (some s))]) (by simp [results, Tryz.results96, go_sem, c4, c5, c6]) rfl (.inr ⟨fun h => HC.out ⟨h.1, h.2.1⟩, rfl, ?_⟩)
        exact ((HB5.out.setCell (by simp) _).setCell (by simp) _).setCell (by simp) _
end Go.Proofs.YtkoakingmnjdoaaGreatDoor

/- What the statements' own choice of numbers answers: so many numbers, rising, all below the bound; nothing that was there turns. -/
namespace Go.Proofs.YtkoakingmnjdoaaGreatDoor
open Go.RowKit Gf
set_option linter.unusedVariables false
set_option maxRecDepth 20000
/-- marks in memory -/
def bvs (n : Nat) (f : Nat → Bool) : Array Value := ((List.range n).map fun i => Value.bool (f i)).toArray
theorem bvs_size (n : Nat) (f : Nat → Bool) : (bvs n f).size = n := by simp [bvs]
theorem bvs_get {n i : Nat} {f : Nat → Bool} (h : i < n) : (bvs n f)[i]? = some (.bool (f i)) := by simp [bvs, h]
def upB (f : Nat → Bool) (i : Nat) : Nat → Bool := fun j => f j || decide (j = i)
theorem bvs_set {n i : Nat} {f : Nat → Bool} : (bvs n f).setIfInBounds i (.bool true) = bvs n (upB f i) := by
  apply Array.ext_getElem?
  intro j
  simp only [bvs, Array.getElem?_setIfInBounds, List.size_toArray, List.length_map, List.length_range, List.getElem?_toArray, List.getElem?_map, upB]
  by_cases h : i = j
  · subst h; by_cases h2 : i < n <;> simp [h2]
  · rw [if_neg h]
    by_cases h2 : j < n <;> simp [h2, Ne.symm h]
theorem madeB (n : Nat) : madeCells (Value.bool false).cells n = bvs n (fun _ => false) := by
  apply Array.ext_getElem?
  intro i
  by_cases h : i < n <;> simp [madeCells, bvs, Value.cells, h, Nat.mod_one]
theorem run_makeB (n : Nat) (hn : n ≤ 65536) (w : World) :
    (Instr.makeSlice 160 (.int .i64 (n : Int)) (.int .i64 (n : Int))).run Tryz.prog w = .ok (.slice (some ⟨w.heap.size, 0, none⟩) n n) (w.alloc (.cells (bvs n (fun _ => false)) 4)) := by
  have hi : (Tryz.prog.info? 4).map (fun i => (i.size, i.bytes, i.zero)) = some (1, 1, some (.bool false)) := by kernel_rfl
  cases hq : Tryz.prog.info? 4 with
  | none => simp [hq] at hi
  | some i =>
    simp only [hq, Option.map_some, Option.some.injEq, Prod.mk.injEq] at hi
    have := run_make (P := Tryz.prog) w 160 4 i _ Tryz.underlying160 hq hi.2.2 .i64 .i64 n n (by omega) (by omega) (by rw [hi.2.1]; omega) (by omega)
    rw [this, hi.1]
    simp only [Int.toNat_natCast, Nat.mul_one, madeB]
/-- how many are marked -/
def cntB (f : Nat → Bool) (n : Nat) : Nat := ((List.range n).filter f).length
theorem cntB_le (f : Nat → Bool) (n : Nat) : cntB f n ≤ n := by have := List.length_filter_le f (List.range n); simpa [cntB] using this
theorem cntB_succ (f : Nat → Bool) (n : Nat) : cntB f (n + 1) = cntB f n + if f n then 1 else 0 := by
  simp only [cntB, List.range_succ, List.filter_append, List.length_append, List.filter_cons, List.filter_nil]
  split <;> rfl
theorem cntB_same {f g : Nat → Bool} : ∀ {n : Nat}, (∀ i, i < n → f i = g i) → cntB f n = cntB g n
  | 0, _ => rfl
  | n + 1, h => by rw [cntB_succ, cntB_succ, cntB_same (n := n) (fun i hi => h i (by omega)), h n (by omega)]
theorem cntB_up {f : Nat → Bool} {i : Nat} (hf : f i = false) : ∀ {n : Nat}, i < n → cntB (upB f i) n = cntB f n + 1
  | 0, h => absurd h (Nat.not_lt_zero _)
  | n + 1, h => by
    rw [cntB_succ, cntB_succ]
    by_cases e : i = n
    · subst e
      rw [cntB_same (f := upB f i) (g := f) (fun j hj => by simp [upB, Nat.ne_of_lt hj]), hf]
      simp [upB]
    · rw [cntB_up hf (n := n) (by omega)]
      have : upB f i n = f n := by simp [upB, Ne.symm e]
      rw [this]; omega
theorem cntB_all {f : Nat → Bool} : ∀ {n : Nat}, (∀ i, i < n → f i = true) → cntB f n = n
  | 0, _ => rfl
  | n + 1, h => by rw [cntB_succ, cntB_all (n := n) (fun i hi => h i (by omega)), h n (by omega)]; rfl
theorem cntB_none (n : Nat) : cntB (fun _ => false) n = 0 := by simp [cntB]
/-- the marked numbers -/
def pickB (f : Nat → Bool) (n : Nat) : List Nat := (List.range n).filter f
theorem pickB_same {f g : Nat → Bool} {n : Nat} (h : ∀ i, i < n → f i = g i) : pickB f n = pickB g n := List.filter_congr fun i hi => h i (by simpa using hi)
theorem pickB_yes {f : Nat → Bool} {n : Nat} (h : f n = true) : pickB f (n + 1) = pickB f n ++ [n] := by simp [pickB, List.range_succ, h]
theorem pickB_no {f : Nat → Bool} {n : Nat} (h : f n = false) : pickB f (n + 1) = pickB f n := by simp [pickB, List.range_succ, h]
theorem pickB_up {f : Nat → Bool} {n : Nat} : pickB (upB f n) n = pickB f n := pickB_same fun i hi => by simp [upB, Nat.ne_of_lt hi]
theorem pickB_sorted (f : Nat → Bool) (n : Nat) : (pickB f n).Pairwise (· < ·) := List.pairwise_lt_range.filter _
theorem pickB_lt {f : Nat → Bool} {n : Nat} : ∀ x ∈ pickB f n, x < n := fun x hx => by simpa using (List.mem_filter.1 hx).1
/-- numbers as values -/
def nvs (L : List Nat) : List Value := L.map fun i => Value.int .i64 ((i : Nat) : Int)
theorem nvs_snoc (L : List Nat) (i : Nat) : nvs L ++ [.int .i64 (i : Int)] = nvs (L ++ [i]) := by simp [nvs]
theorem own_setCell {w : World} {B n g i : Nat} {v x : Value} {e : TypeId} {s : Nat} {xs : List Value} (h : w.ownsRow B e s v n xs) (hg : g < B) : (w.setCell ⟨g, i, none⟩ x).ownsRow B e s v n xs := by
  refine ⟨h.1, h.2.imp id fun ⟨b, cap, cur, h1, h2, h3, h4⟩ => ⟨b, cap, cur, h1, h2, (heap_setCell_other _ _ _ _ (by show b ≠ g; omega)).trans h3, h4⟩⟩
theorem mod_place (x : Int) {n : Nat} (hn : 1 ≤ n) : (-(n : Int) < x.tmod n ∧ x.tmod n < n) ∧ ∃ j : Nat, j < n ∧ x.tmod n % (n : Int) = j := by
  have h1 : -(n : Int) < x.tmod n := by
    rcases Int.le_total 0 x with h | h
    · have := Int.tmod_nonneg n h; omega
    · have h2 := Int.neg_tmod (a := -x) (b := (n : Int))
      have h3 := Int.tmod_lt_of_pos (-x) (show (0 : Int) < n by omega)
      rw [Int.neg_neg] at h2; omega
  have h2 := Int.tmod_lt_of_pos x (show (0 : Int) < n by omega)
  have h3 : 0 ≤ x.tmod n % (n : Int) := Int.emod_nonneg _ (by omega)
  have h4 := Int.emod_lt_of_pos (x.tmod n) (show (0 : Int) < n by omega)
  exact ⟨⟨h1, h2⟩, (x.tmod n % (n : Int)).toNat, by omega, by omega⟩
end Go.Proofs.YtkoakingmnjdoaaGreatDoor

/- What Carried of package half answers, at all numbers; nothing that was there turns. -/
namespace Go.Proofs.YtkoakingmnjdoaaGreatDoor
open Go.RowKit Gf
set_option linter.unusedVariables false
set_option maxRecDepth 20000
/-- what a parity carries -/
def carL (k g i : Nat) : List Nat := pickB (fun x => decide (carN g x = i)) k
def castL (L : List Nat) : List Int := L.map fun x => ((x : Nat) : Int)
theorem castL_len (L : List Nat) : (castL L).length = L.length := by simp [castL]
theorem nvs_cast (L : List Nat) : nvs L = (castL L).map (Value.int .i64) := by simp [nvs, castL]
theorem ownI_slice {w : World} {B n : Nat} {v : Value} {L : List Nat} (ho : w.ownsRow B 3 1 v n (nvs L)) : ∃ a cap, v = .slice a n cap ∧ RowI w a (castL L) ∧ n = L.length ∧ (a = none → cap = 0) := by
  have hl := ho.1
  rw [nvs, List.length_map] at hl
  rcases ho.2 with ⟨rfl, e⟩ | ⟨g, cap, cur, rfl, h2⟩
  · exact ⟨none, 0, by rw [e], .inl (by rw [List.eq_nil_of_length_eq_zero (l := L) (by omega)]; rfl), by omega, fun _ => rfl⟩
  · rw [nvs_cast] at ho
    exact ⟨_, _, rfl, rowI_own ho, by omega, fun h => by cases h⟩
set_option maxHeartbeats 4000000 in
theorem hcarried_F (k r i : Nat) (w : World) (h1 : 1 ≤ k) (h2 : 2 ≤ r) (h3 : k + r ≤ 16) (hi : i < r) :
    Calls Tryz.prog 170 #[.int .i64 k, .int .i64 r, .int .i64 i] w fun e w' => ∃ a n cap, e = .returned (.tuple #[.slice a n cap, .nilIface]) ∧ n = (carL k (groupN k r) i).length ∧ RowI w' a (castL (carL k (groupN k r) i)) ∧ (a = none → cap = 0) ∧ Below w.heap.size w w' := by
  obtain ⟨g1, _, _, g2⟩ := groupN_least h1 h2 h3
  have HG : Hid _ := fun w => bgroup_ok k r w h1 h2 h3
  generalize groupN k r = g at *
  have HCF : Hid _ := fun j w (hj : j ≤ 1000) => carrier_F g j w g1 (by omega) hj
  obtain ⟨f, hf⟩ : ∃ f : Nat → Bool, f = fun x => decide (carN g x = i) := ⟨_, rfl⟩
  have hcl : carL k g i = pickB f k := by rw [hf]; rfl
  have hft : Hid (∀ x, carN g x = i → f x = true) := fun x h => by rw [hf]; exact decide_eq_true h
  have hff : Hid (∀ x, ¬ carN g x = i → f x = false) := fun x h => by rw [hf]; exact decide_eq_false h
  rw [hcl]
  generalize carN g = car at *
  have i1 : (i : Int) < r := by omega
  have HI : Hid _ := i1
  clear hf hcl i1
  go_enter Tryz.func170, Tryz.ntmps170
  go_wp2_with fail
  refine (HG.out _).mono ?_
  rintro e w1 ⟨rfl, rfl⟩
  go_wp2_with fail
  refine (hthere_yes _ _ _ (by omega) HI.out).mono ?_
  rintro e w1 ⟨rfl, rfl⟩
  go_wp2
  go_loopw [10, 27] (fun v t wr => ∃ j : Nat, j ≤ k ∧ t = .int .i64 j ∧ Below w.heap.size w wr ∧ wr.ownsRow w.heap.size 3 1 v (pickB f j).length (nvs (pickB f j))) (fun _ t _ => k - (intOf t).toNat)
  case atStart => exact ⟨0, by omega, rfl, Below.refl _ _, World.ownsRow_nil _ _ _ _⟩
  case round =>
    obtain ⟨j, hj, rfl, hb, ho⟩ := hrel
    have HB : Hid _ := hb
    have HO : Hid _ := ho
    obtain ⟨av, cv, rfl, hv, hn, hnil⟩ := ownI_slice ho
    have HV : Hid _ := hv
    have HNN : Hid _ := hnil
    have hl : (pickB f j).length ≤ 16 := by have := cntB_le f j; show cntB f j ≤ 16; omega
    clear hb ho hv hn hnil
    by_cases hlt : j < k
    · go_wp2_with fail
      refine (HCF.out j _ (by omega)).mono ?_
      rintro e w2 ⟨rfl, rfl⟩
      by_cases hc : car j = i
      · have hci : (car j : Int) = i := by omega
        have ho := World.ownsRow.alloc HO.out (.cells #[.int .i64 j] 3)
        obtain ⟨g2, cap2, w6, hrun, ho2, hgr, hor, hlt2⟩ := appendI (b := wr.heap.size) (c := 1) (x := (j : Int)) 22 ho (cellAt (heap_alloc_last wr (.cells #[.int .i64 j] 3)) 0 _ rfl) (by omega) (by have := HB.out.size; simp; omega)
        rw [nvs_snoc, ← pickB_yes (hft.out j hc)] at ho2
        have hb6 := below_own (B := w.heap.size) (HB.out.alloc HB.out.size (.cells #[.int .i64 j] 3)) ho hgr (by have := HB.out.size; simp; omega)
        have hlen : (pickB f j).length + 1 = (pickB f (j + 1)).length := by rw [pickB_yes (hft.out j hc)]; simp
        have HRun : Hid _ := hrun
        have HO2 : Hid _ := ho2
        have HB6 : Hid _ := hb6
        have HL : Hid _ := hlen
        clear ho hrun ho2 hb6 hgr hor hlt2 hlen hc
        go_wp2_with (at_builtin; refine wpList_append_run rfl _ _ 22 rfl _ _ _ _ rfl rfl HRun.out ?_)
        have ho9 := HO2.out
        rw [HL.out] at ho9
        rw [HL.out]
        exact ⟨⟨j + 1, by omega, by go_num, HB6.out, ho9⟩, by simp [intOf]; omega⟩
      · have hci : ¬ (car j : Int) = i := by omega
        have hpk := pickB_no (hff.out j hc)
        have HPK : Hid _ := hpk
        clear hc hpk
        go_wp2
        have ho9 := HO.out
        exact ⟨⟨j + 1, by omega, by go_num, HB.out, by rw [HPK.out]; exact ho9⟩, by simp [intOf]; omega⟩
    · obtain rfl : j = k := by omega
      go_wp2
      go_ret2
      exact ⟨av, _, cv, rfl, rfl, HV.out, HNN.out, HB.out⟩
theorem hcarried_bad (k r x : Int) (w : World) (s : Addr) (hs : w.cell? ⟨0, 0, none⟩ = some (errAt s)) (hk0 : -9223372036854775808 ≤ k) (hk1 : k ≤ 9223372036854775807) (hr0 : -9223372036854775808 ≤ r) (hr1 : r ≤ 9223372036854775807) (hL : ¬ LegalP k r) :
    Calls Tryz.prog 170 #[.int .i64 k, .int .i64 r, .int .i64 x] w fun e w' => e = .returned (.tuple #[.slice none 0 0, errAt s]) ∧ w = w' := by
  have HS : Hid _ := hs
  have H : Hid _ := hL
  clear hs hL
  go_enter Tryz.func170, Tryz.ntmps170
  go_wp2_with fail
  refine (bgroup_bad k r _ s HS.out hk0 hk1 hr0 hr1 H.out).mono ?_
  unfold errAt
  rintro e w' ⟨rfl, rfl⟩
  go_wp2
  go_ret2
  exact ⟨rfl, rfl⟩
theorem hcarried_no (k r : Nat) (x : Int) (w : World) (s : Addr) (hs : w.cell? ⟨3, 0, none⟩ = some (errAt s)) (h1 : 1 ≤ k) (h2 : 2 ≤ r) (h3 : k + r ≤ 16) (hx : ¬ (0 ≤ x ∧ x < r)) :
    Calls Tryz.prog 170 #[.int .i64 k, .int .i64 r, .int .i64 x] w fun e w' => e = .returned (.tuple #[.slice none 0 0, errAt s]) ∧ Below w.heap.size w w' := by
  have hlt := World.block_lt_of_cell? w _ hs
  simp at hlt
  have HX : Hid _ := hx
  unfold errAt at *
  clear hx
  go_enter Tryz.func170, Tryz.ntmps170
  go_wp2_with fail
  refine (bgroup_ok _ _ _ h1 h2 h3).mono ?_
  rintro e w' ⟨rfl, rfl⟩
  go_wp2_with fail
  refine (hthere_no _ _ _ HX.out).mono ?_
  rintro e w' ⟨rfl, rfl⟩
  go_wp2
  go_region
  go_wp2
  go_ret2
  exact ⟨rfl, (Below.refl _ _).drew⟩
end Go.Proofs.YtkoakingmnjdoaaGreatDoor

/- Elimination's one step in the program, makePivot: what it changes is the rows' own block alone. -/
namespace Go.Proofs.YtkoakingmnjdoaaGreatDoor
open Go.RowKit Gf
set_option linter.unusedVariables false
set_option maxRecDepth 20000
/-- the rows on the way through makePivot's loop -/
def pivT (R : Mt) (row above col : Nat) : Mt := fun x => if x = above then (fun j => gm (inv (R row col)) (R row j)) else swapF R row above x
def pivP (R : Mt) (row above col k : Nat) : Mt := fun x => if x < k then pivF R row above col x else pivT R row above col x
theorem pivP_zero (R : Mt) (row above col : Nat) : pivP R row above col 0 = pivT R row above col := by funext x; simp [pivP]
theorem pivP_above (R : Mt) (row above col k : Nat) : pivP R row above col k above = fun j => gm (inv (R row col)) (R row j) := by
  funext j; simp only [pivP, pivT, if_true]
  split
  · rw [pivF_above]
  · rfl
theorem pivP_here (R : Mt) {row above col k : Nat} (h : k ≠ above) : pivP R row above col k k = swapF R row above k := by simp [pivP, pivT, h]
theorem pivP_skip (R : Mt) {row above col k : Nat} (h : k = above ∨ swapF R row above k col = 0) : pivP R row above col (k + 1) = pivP R row above col k := by
  funext x j
  simp only [pivP]
  by_cases e : x = k
  · subst e
    rw [if_pos (by omega), if_neg (by omega)]
    simp only [pivF, pivT]
    rcases h with h | h
    · simp [h]
    · by_cases e2 : x = above
      · simp [e2]
      · simp [e2, h]
  · by_cases e2 : x < k
    · rw [if_pos (by omega), if_pos e2]
    · rw [if_neg (by omega), if_neg e2]
theorem pivP_step (R : Mt) {row above col k : Nat} (h : k ≠ above) : (fun x => if x = k then (fun j => ga (swapF R row above k j) (gm (swapF R row above k col) (gm (inv (R row col)) (R row j)))) else pivP R row above col k x) = pivP R row above col (k + 1) := by
  funext x j
  simp only [pivP]
  by_cases e : x = k
  · subst e
    rw [if_pos rfl, if_pos (by omega)]
    simp only [pivF, h, if_false]
  · rw [if_neg e]
    by_cases e2 : x < k
    · simp only [if_pos e2, if_pos (show x < k + 1 by omega)]
    · simp only [if_neg e2, if_neg (show ¬ x < k + 1 by omega)]
theorem pivP_all (R : Mt) (row above col n : Nat) : ∀ k, k < n → ∀ j, j < n + n + 128 → pivP R row above col n k j = pivF R row above col k j := fun k hk j _ => by simp [pivP, hk]
theorem swap_two (R : Mt) (row above : Nat) : (fun x => if x = row then R above else (fun x => if x = above then R row else R x) x) = swapF R row above := by
  funext x j
  simp only [swapF]
  by_cases e : x = above
  · by_cases e2 : x = row
    · simp [e, ← e2]
    · subst e; simp only [e2, if_true, if_false]
  · by_cases e2 : x = row
    · simp [e2]; intro h; exact absurd (e2.trans h) e
    · simp [e, e2]
theorem pivT_of (R : Mt) (row above col : Nat) : (fun x => if x = above then (fun j => gm (inv (R row col)) (R row j)) else swapF R row above x) = pivT R row above col := rfl
theorem swapF_above (R : Mt) (row above : Nat) : swapF R row above above = R row := by funext j; simp [swapF]
set_option maxHeartbeats 4000000 in
theorem makePivot_F (M n c cn row above col : Nat) (f : Nat → Option Addr × Nat) (R : Mt) (w : World) (hn : n ≤ 64) (hc : c ≤ 128) (hrow : row < n) (hab : above < n) (hcol : col < c) (hp : R row col ≠ 0) (hR : RowsW w M n c f R) :
    Calls Tryz.prog 150 #[.slice (some ⟨M, 0, none⟩) n cn, .int .i64 row, .int .i64 above, .int .i64 col] w fun e w' => e = .returned (.tuple #[]) ∧ (∃ f', RowsW w' M n c f' (pivF R row above col)) ∧ w.grownBy w' (some M) := by
  obtain ⟨b1, o1, m1, hf1, hm1, hbM1, hb1, c1, c2⟩ := hR.get hrow hcol
  obtain ⟨b2, o2, m2, hf2, hm2, hbM2, hb2, c3, c4⟩ := hR.get hab hcol
  have d1 : ∀ j, w.frozen? ⟨M, j, none⟩ = false := fun j => frozen_of_row _ _ _ _ _ hR.blk
  have e1 := d1 row
  have e2 := d1 above
  have HR : Hid _ := hR
  have HF1 : Hid _ := hf1
  have HF2 : Hid _ := hf2
  have hz0 := hR.put hab (a := some ⟨b1, o1, none⟩) (m := m1) (v := R row) (by have := hR.row row hrow; rwa [hf1] at this) hm1 (by simp)
  have c5 := cellAt hz0.blk row _ (slF_at hrow)
  have e5 : (w.setCell ⟨M, above, none⟩ (.slice (some ⟨b1, o1, none⟩) c m1)).frozen? ⟨M, row, none⟩ = false := frozen_of_row _ _ _ _ _ hz0.blk
  have hz1 := hz0.put hrow (a := some ⟨b2, o2, none⟩) (m := m2) (v := R above) (row8_other hR.blk (grownBy_setCell (World.grownBy.refl _ _) _) (by have := hR.row above hab; rwa [hf2] at this)) hm2 (by simp)
  rw [swap_two] at hz1
  have HZ1 : Hid _ := hz1
  clear hR hf1 hf2 d1 c2 c4 hz0 hz1
  go_enter Tryz.func150, Tryz.ntmps150
  go_wp2
  go_region
  have hg1 : w.grownBy (((w.setCell ⟨M, above, none⟩ (.slice (some ⟨b1, o1, none⟩) c m1)).setCell ⟨M, row, none⟩ (.slice (some ⟨b2, o2, none⟩) c m2)).drew) (some M) := grownBy_drew (grownBy_setCell (grownBy_setCell (World.grownBy.refl _ _) _) _)
  obtain ⟨f1, hz1⟩ : ∃ f1, RowsW (((w.setCell ⟨M, above, none⟩ (.slice (some ⟨b1, o1, none⟩) c m1)).setCell ⟨M, row, none⟩ (.slice (some ⟨b2, o2, none⟩) c m2)).drew) M n c f1 (swapF R row above) := ⟨_, HZ1.out.drew⟩
  clear HZ1 c1 c3 c5 e1 e2 e5 HF1 HF2 hm1 hm2 hbM1 hbM2 hb1 hb2
  generalize (((w.setCell ⟨M, above, none⟩ (.slice (some ⟨b1, o1, none⟩) c m1)).setCell ⟨M, row, none⟩ (.slice (some ⟨b2, o2, none⟩) c m2)).drew) = W1 at *
  obtain ⟨b3, o3, m3, hf3, hm3, hbM3, hb3, c1, c2⟩ := hz1.get hab hcol
  rw [swapF_above] at c2
  have HZ1 : Hid _ := hz1
  have HG1 : Hid _ := hg1
  have HF3 : Hid _ := hf3
  clear hz1 hg1 hf3
  go_wp2_with fail
  refine Calls.mono (inv_yes hp _) ?_
  rintro e w2 ⟨rfl, hw2⟩
  subst hw2
  have hsr : Row8T W1 (some ⟨b3, o3, none⟩) (rowF c (R row)) := by have := HZ1.out.row above hab; rw [HF3.out, swapF_above] at this; exact this
  go_wp2_with fail
  refine Calls.mono (scale_R _ _ c _ _ _ hc hsr.row8) ?_
  rintro e w2 ⟨q2, rfl, hb2, hr2, hq2⟩
  have hz2 := HZ1.out.below hb2
  have c3 := cellAt hz2.blk above _ (slF_at hab)
  have d3 : w2.frozen? ⟨M, above, none⟩ = false := frozen_of_row _ _ _ _ _ hz2.blk
  have hz3 := hz2.put hab hr2 (Nat.le_refl _) (by simp)
  rw [pivT_of] at hz3
  have hg3 : w.grownBy (w2.setCell ⟨M, above, none⟩ (.slice (some ⟨q2, 0, none⟩) c c)) (some M) := grownBy_setCell (grown_below HG1.out hb2) _
  have HZ3 : Hid _ := hz3
  have HG3 : Hid _ := hg3
  clear hz2 hz3 hg3 hr2 hb2 hsr
  go_wp2
  generalize (w2.setCell ⟨M, above, none⟩ (.slice (some ⟨q2, 0, none⟩) c c)) = W3 at *
  clear c1 c2 c3 d3 hb3
  go_loopw [48] (fun i wr => ∃ k : Nat, ∃ f', k ≤ n ∧ i = .int .i64 k ∧ w.grownBy wr (some M) ∧ RowsW wr M n c f' (pivP R row above col k)) (fun i _ => n - (intOf i).toNat)
  case atStart => exact ⟨0, _, by omega, rfl, HG3.out, by rw [pivP_zero]; exact HZ3.out⟩
  case round =>
    obtain ⟨k, f5, hk, rfl, hgb, hrw⟩ := hrel
    have HGB : Hid _ := hgb
    have hRW : Hid _ := hrw
    clear hgb
    by_cases hlt : k < n
    · obtain ⟨bo, oo, mo, hfo, hmo, hboM, hbo, c1, c2⟩ := hrw.get hlt hcol
      have hfk : Hid _ := hfo
      clear hfo hrw
      by_cases hka : k = above
      · subst hka
        go_wp2
        exact ⟨⟨k + 1, f5, by omega, by go_num, HGB.out, by rw [pivP_skip R (.inl rfl)]; exact hRW.out⟩, by simp [intOf]; omega⟩
      · rw [pivP_here R hka] at c2
        have hne : ((k : Int) != (above : Int)) = true := by simp; omega
        by_cases hzero : swapF R row above k col = 0
        · rw [hzero] at c2
          go_wp2
          exact ⟨⟨k + 1, f5, by omega, by go_num, HGB.out, by rw [pivP_skip R (.inr hzero)]; exact hRW.out⟩, by simp [intOf]; omega⟩
        · have hnz : ((swapF R row above k col).toNat : Int) ≠ 0 := by
            intro e; exact hzero (F.val_eq_zero.1 (by omega))
          have hro1 : Hid (Row8T wr.drew (some ⟨bo, oo, none⟩) (rowF c (swapF R row above k))) := by
            have := hRW.out.row k hlt; rw [hfk.out, pivP_here R hka] at this; exact this
          obtain ⟨ba, oa, ma, hfa, hma, hbaM, hba, c5, c6⟩ := hRW.out.get hab hcol
          have hro2 : Hid (Row8T wr.drew (some ⟨ba, oa, none⟩) (rowF c (fun j => gm (inv (R row col)) (R row j)))) := by
            have := hRW.out.row above hab; rw [hfa, pivP_above] at this; exact this
          have hc9 : Hid (∀ u, wr.grownBy u (some M) → u.cell? ⟨bo, oo + col, none⟩ = some (.int .u8 ((swapF R row above k col).toNat : Int))) := fun u hu => by
            rw [← c2]; simp only [World.cell?, hu.block bo hbo (by simpa using hboM)]
          clear hfa c6
          go_wp2
          refine wp_region_noPanic ?_
          refine wp_region_held_drew (S := fun u => wr.grownBy u (some M)) (by kernel_rfl) ?_ (fun hHeld => ?_)
          · exact grownBy_drew (World.grownBy.refl _ _)
          refine wpAnyH_take (i := 0) (oi := { dst := some 63, op := Op.move (Operand.tmp 0), type := 49, pos := "solve.go:137", after := #[], guard := none }) (v := ?_) rfl (by kernel_rfl) (by kernel_rfl) (by kernel_rfl) (fun _ _ _ h => h) (Or.inl ⟨by rfl, ?_⟩) hHeld ?_
          rotate_left
          · intro u hSw
            go_simp
            try with_reducible rfl
          try simp only [Act.put, List.setIfInBounds_toArray, List.set_cons_zero, List.set_cons_succ]
          refine wpAnyH_take (i := 1) (oi := { dst := some 64, op := Op.move (Operand.tmp 10), type := 3, pos := "solve.go:137", after := #[], guard := none }) (v := ?_) rfl (by kernel_rfl) (by kernel_rfl) (by kernel_rfl) (fun _ _ _ h => h) (Or.inl ⟨by rfl, ?_⟩) hHeld ?_
          rotate_left
          · intro u hSw
            go_simp
            try with_reducible rfl
          try simp only [Act.put, List.setIfInBounds_toArray, List.set_cons_zero, List.set_cons_succ]
          refine wpAnyH_take (i := 2) (oi := { dst := some 65, op := Op.move (Operand.tmp 11), type := 23, pos := "solve.go:137", after := #[], guard := none }) (v := ?_) rfl (by kernel_rfl) (by kernel_rfl) (by kernel_rfl) (fun _ _ _ h => h) (Or.inl ⟨by rfl, ?_⟩) hHeld ?_
          rotate_left
          · intro u hSw
            go_simp
            try with_reducible rfl
          try simp only [Act.put, List.setIfInBounds_toArray, List.set_cons_zero, List.set_cons_succ]
          refine wpAnyH_take (i := 3) (oi := { dst := some 66, op := Op.move (Operand.tmp 11), type := 23, pos := "solve.go:137", after := #[], guard := none }) (v := ?_) rfl (by kernel_rfl) (by kernel_rfl) (by kernel_rfl) (fun _ _ _ h => h) (Or.inl ⟨by rfl, ?_⟩) hHeld ?_
          rotate_left
          · intro u hSw
            go_simp
            try with_reducible rfl
          try simp only [Act.put, List.setIfInBounds_toArray, List.set_cons_zero, List.set_cons_succ]
          refine wpAnyH_take (i := 4) (oi := { dst := some 67, op := Op.move (Operand.tmp 3), type := 3, pos := "solve.go:137", after := #[], guard := none }) (v := ?_) rfl (by kernel_rfl) (by kernel_rfl) (by kernel_rfl) (fun _ _ _ h => h) (Or.inl ⟨by rfl, ?_⟩) hHeld ?_
          rotate_left
          · intro u hSw
            go_simp
            try with_reducible rfl
          try simp only [Act.put, List.setIfInBounds_toArray, List.set_cons_zero, List.set_cons_succ]
          refine wpAnyH_take (i := 5) (oi := { dst := some 68, op := Op.indexAddr 23 (Operand.tmp 66) (Operand.tmp 67), type := 0, pos := "solve.go:137", after := #[{ on := 3, ground := Ground.data }, { on := 4, ground := Ground.data }], guard := none }) (v := ?_) rfl (by kernel_rfl) (by kernel_rfl) (by kernel_rfl) (fun _ _ _ h => h) (Or.inl ⟨by rfl, ?_⟩) hHeld ?_
          rotate_left
          · intro u hSw
            go_simp
            try with_reducible rfl
          try simp only [Act.put, List.setIfInBounds_toArray, List.set_cons_zero, List.set_cons_succ]
          refine wpAnyH_take (i := 6) (oi := { dst := some 69, op := Op.load 5 (Operand.tmp 68), type := 5, pos := "solve.go:137", after := #[{ on := 5, ground := Ground.data }], guard := none }) (v := ?_) rfl (by kernel_rfl) (by kernel_rfl) (by kernel_rfl) (fun _ _ _ h => h) (Or.inl ⟨by rfl, ?_⟩) hHeld ?_
          rotate_left
          · intro u hSw
            have c9 := hc9.out u hSw
            go_simp
            try with_reducible rfl
          try simp only [Act.put, List.setIfInBounds_toArray, List.set_cons_zero, List.set_cons_succ]
          refine wpAnyH_take (i := 7) (oi := { dst := some 70, op := Op.move (Operand.tmp 0), type := 49, pos := "solve.go:137", after := #[], guard := none }) (v := ?_) rfl (by kernel_rfl) (by kernel_rfl) (by kernel_rfl) (fun _ _ _ h => h) (Or.inl ⟨by rfl, ?_⟩) hHeld ?_
          rotate_left
          · intro u hSw
            go_simp
            try with_reducible rfl
          try simp only [Act.put, List.setIfInBounds_toArray, List.set_cons_zero, List.set_cons_succ]
          refine wpAnyH_take (i := 8) (oi := { dst := some 71, op := Op.move (Operand.tmp 2), type := 3, pos := "solve.go:137", after := #[], guard := none }) (v := ?_) rfl (by kernel_rfl) (by kernel_rfl) (by kernel_rfl) (fun _ _ _ h => h) (Or.inl ⟨by rfl, ?_⟩) hHeld ?_
          rotate_left
          · intro u hSw
            go_simp
            try with_reducible rfl
          try simp only [Act.put, List.setIfInBounds_toArray, List.set_cons_zero, List.set_cons_succ]
          refine wpAnyH_take (i := 9) (oi := { dst := some 72, op := Op.indexAddr 49 (Operand.tmp 70) (Operand.tmp 71), type := 0, pos := "solve.go:137", after := #[{ on := 7, ground := Ground.data }, { on := 8, ground := Ground.data }], guard := none }) (v := ?_) rfl (by kernel_rfl) (by kernel_rfl) (by kernel_rfl) (fun _ _ _ h => h) (Or.inl ⟨by rfl, ?_⟩) hHeld ?_
          rotate_left
          · intro u hSw
            go_simp
            try with_reducible rfl
          try simp only [Act.put, List.setIfInBounds_toArray, List.set_cons_zero, List.set_cons_succ]
          refine wpAnyH_ready (rs := [10]) (by kernel_rfl) (by simp) ?_
          refine AllReadyH.cons (o := { dst := some 73, op := Op.load 23 (Operand.tmp 72), type := 23, pos := "solve.go:137", after := #[{ on := 9, ground := Ground.data }], guard := none }) rfl (fun K hK => ?_) AllReadyH.nil
          go_simp
          refine hK.out _ _ ?_ (fun hHeld => ?_)
          · exact grownBy_drew (World.grownBy.refl _ _)
          clear hK K
          try simp only [Act.put, List.setIfInBounds_toArray, List.set_cons_zero, List.set_cons_succ]
          refine wpAnyH_ready (rs := [11]) (by kernel_rfl) (by simp) ?_
          refine AllReadyH.cons (o := { dst := some 74, op := Op.call { callee := Callee.value (Operand.func 122), args := #[Operand.tmp 65, Operand.tmp 69, Operand.tmp 73], argTypes := #[23, 5, 23] }, type := 23, pos := "solve.go:137", after := #[{ on := 2, ground := Ground.data }, { on := 6, ground := Ground.data }, { on := 10, ground := Ground.data }], guard := none }) rfl (fun K hK => ?_) AllReadyH.nil
          go_simp
          refine Calls.mono (addScaled_R _ _ _ c _ _ _ _ _ hc hro1.out.row8 hro2.out.row8) ?_
          rintro e w6 ⟨g6, rfl, hb6, hr6, hg6⟩
          have hS6 : wr.grownBy w6 (some M) := grown_below (grownBy_drew (World.grownBy.refl _ _)) hb6
          go_wp2_with fail
          refine hK.out _ _ ?_ (fun hHeld => ?_)
          · exact hS6
          clear hK K
          try simp only [Act.put, List.setIfInBounds_toArray, List.set_cons_zero, List.set_cons_succ]
          refine wpAnyH_take (i := 12) (oi := { dst := some 75, op := Op.indexAddr 49 (Operand.tmp 63) (Operand.tmp 64), type := 0, pos := "solve.go:137", after := #[{ on := 0, ground := Ground.data }, { on := 1, ground := Ground.data }, { on := 0, ground := Ground.phase }, { on := 1, ground := Ground.phase }, { on := 2, ground := Ground.phase }, { on := 3, ground := Ground.phase }, { on := 4, ground := Ground.phase }, { on := 5, ground := Ground.phase }, { on := 6, ground := Ground.phase }, { on := 7, ground := Ground.phase }, { on := 8, ground := Ground.phase }, { on := 9, ground := Ground.phase }, { on := 10, ground := Ground.phase }, { on := 11, ground := Ground.phase }], guard := none }) (v := ?_) rfl (by kernel_rfl) (by kernel_rfl) (by kernel_rfl) (fun _ _ _ h => h) (Or.inl ⟨by rfl, ?_⟩) hHeld ?_
          rotate_left
          · intro u hSw
            go_simp
            try with_reducible rfl
          try simp only [Act.put, List.setIfInBounds_toArray, List.set_cons_zero, List.set_cons_succ]
          have hRW6 : RowsW w6 M n c f5 _ := hRW.out.drew.below hb6
          have d8 : w6.frozen? ⟨M, k, none⟩ = false := frozen_of_row _ _ _ _ _ hRW6.blk
          have d9 : w6.cell? ⟨M, k, none⟩ = some (.slice (some ⟨bo, oo, none⟩) c mo) := by
            have := cellAt hRW6.blk k _ (slF_at hlt); rw [hfk.out] at this; exact this
          refine wpAnyH_ready (rs := [13]) (by kernel_rfl) (by simp) ?_
          refine AllReadyH.cons (o := { dst := none, op := Op.store 23 (Operand.tmp 75) (Operand.tmp 74), type := 0, pos := "solve.go:137", after := #[{ on := 12, ground := Ground.data }, { on := 11, ground := Ground.data }, { on := 11, ground := Ground.chain }, { on := 0, ground := Ground.phase }, { on := 1, ground := Ground.phase }, { on := 2, ground := Ground.phase }, { on := 3, ground := Ground.phase }, { on := 4, ground := Ground.phase }, { on := 5, ground := Ground.phase }, { on := 6, ground := Ground.phase }, { on := 7, ground := Ground.phase }, { on := 8, ground := Ground.phase }, { on := 9, ground := Ground.phase }, { on := 10, ground := Ground.phase }, { on := 11, ground := Ground.phase }], guard := none }) rfl (fun K hK => ?_) AllReadyH.nil
          go_simp
          refine hK.out _ _ ?_ (fun hHeld => ?_)
          · exact grownBy_setCell hS6 _
          clear hK K
          try simp only [Act.put, List.setIfInBounds_toArray, List.set_cons_zero, List.set_cons_succ]
          refine wpAnyH_done (by kernel_rfl) ?_ _
          refine NoPanic.normal ?_
          have hput := hRW6.put hlt hr6 (Nat.le_refl _) (by simp)
          rw [pivP_step R hka] at hput
          have HPUT : Hid _ := hput
          have HGR : Hid (w.grownBy (w6.setCell ⟨M, k, none⟩ (.slice (some ⟨g6, 0, none⟩) c c)) (some M)) := grownBy_setCell (grown_below (grownBy_drew HGB.out) hb6) _
          clear hput hRW6 hr6 hb6 hS6 d8 d9 hc9
          go_wp2
          exact ⟨⟨k + 1, _, by omega, by go_num, HGR.out, HPUT.out⟩, by simp [intOf]; omega⟩
    · obtain rfl : k = n := by omega
      go_wp2
      exact ⟨rfl, .tuple #[], by simp [results, Tryz.results150, go_sem], rfl, ⟨f5, hRW.out.congr fun x hx j hj => by simp [pivP, hx]⟩, HGB.out⟩
end Go.Proofs.YtkoakingmnjdoaaGreatDoor

/- Elimination in the program, eliminate: the labelled loops, of all lists of rows. -/
namespace Go.Proofs.YtkoakingmnjdoaaGreatDoor
open Go.RowKit Gf
set_option linter.unusedVariables false
set_option maxRecDepth 20000
def natV (p : List Nat) : List Value := p.map fun x => Value.int .i64 ((x : Nat) : Int)
theorem natV_snoc (p : List Nat) (k : Nat) : natV p ++ [.int .i64 (k : Int)] = natV (p ++ [k]) := by simp [natV]
set_option maxHeartbeats 8000000 in
theorem eliminate_F (M n c cn cols : Nat) (f : Nat → Option Addr × Nat) (R : Mt) (w : World) (hn : n ≤ 64) (hc : c ≤ 128) (hcols : cols ≤ c) (hR : RowsW w M n c f R) :
    Calls Tryz.prog 133 #[.slice (some ⟨M, 0, none⟩) n cn, .int .i64 cols] w fun e w' => ∃ a cap p f' R', e = .returned (.slice a p.length cap) ∧ w'.ownsRow w.heap.size 3 1 (.slice a p.length cap) p.length (natV p) ∧
      RowsW w' M n c f' R' ∧ Red R' p n cols ∧ RowsIn R' n R n c ∧ RowsIn R n R' n c ∧ w.grownBy w' (some M) := by
  have HR : Hid _ := hR
  clear hR
  go_enter Tryz.func133, Tryz.ntmps133
  go_wp2
  go_step3
  go_wp2
  go_step3
  go_wp2
  go_loopw [5, 9] (fun v i wr => ∃ (k : Nat) (p : List Nat) (f' : Nat → Option Addr × Nat) (R' : Mt), k ≤ cols ∧ i = .int .i64 k ∧ wr.ownsRow w.heap.size 3 1 v p.length (natV p) ∧
    RowsW wr M n c f' R' ∧ Red R' p n k ∧ RowsIn R' n R n c ∧ RowsIn R n R' n c ∧ w.grownBy wr (some M)) (fun _ i _ => cols - (intOf i).toNat)
  case atStart => exact ⟨0, [], f, R, by omega, rfl, ⟨rfl, .inl ⟨rfl, rfl⟩⟩, HR.out, Red.start _ _, RowsIn.refl _ _ _, RowsIn.refl _ _ _, World.grownBy.refl _ _⟩
  case round =>
    obtain ⟨k, p, f5, R5, hk, rfl, hown, hrw, hred, hin, hback, hgb⟩ := hrel
    obtain ⟨av, cv, rfl⟩ := own_shape hown
    have hpl := hred.len
    have HOWN : Hid _ := hown
    have HRW : Hid _ := hrw
    have HRED : Hid _ := hred
    have HIN : Hid _ := hin
    have HBACK : Hid _ := hback
    have HGB : Hid _ := hgb
    clear hown hrw hred hin hback hgb
    generalize wr = W5 at *
    by_cases hlt : k < cols
    · go_wp2
      go_loopw [5, 7] (fun v i wq => ∃ r0 : Nat, p.length ≤ r0 ∧ r0 ≤ n ∧ v = .slice av p.length cv ∧ i = .int .i64 r0 ∧ wq = W5 ∧ ∀ i, p.length ≤ i → i < r0 → R5 i k = 0) (fun _ i _ => n - (intOf i).toNat)
      case atStart => exact ⟨p.length, by omega, hpl, rfl, rfl, rfl, fun i h1 h2 => by omega⟩
      case round =>
        obtain ⟨r0, h1, h2, rfl, rfl, rfl, hz⟩ := hrel
        have HZ : Hid _ := hz
        clear hz
        by_cases hr : r0 < n
        · obtain ⟨b, off, m, hf, hm, hbM, hb, c1, c2⟩ := HRW.out.get hr (show k < c by omega)
          by_cases hzero : R5 r0 k = 0
          · rw [hzero] at c2
            clear hf
            go_wp2
            exact ⟨⟨r0 + 1, by omega, by omega, by first | rfl | trivial, by go_num, by first | rfl | trivial, fun i h3 h4 => by
              by_cases e : i = r0
              · rw [e]; exact hzero
              · exact HZ.out i h3 (by omega)⟩, by simp [intOf]; omega⟩
          · have hnz : ((R5 r0 k).toNat : Int) ≠ 0 := by
              intro e; exact hzero (F.val_eq_zero.1 (by omega))
            clear hf
            go_wp2_with fail
            refine Calls.mono (makePivot_F M n c cn r0 p.length k f5 R5 _ hn hc hr (by omega) (by omega) hzero HRW.out) ?_
            rintro e w2 ⟨rfl, ⟨f6, hrw2⟩, hg2⟩
            have hsz := HGB.out.size
            have hsz2 := hg2.size
            have ho2 := own_rows HOWN.out HRW.out.blk (by decide) hg2
            have ho := ho2.alloc (.cells #[.int .i64 k] 3)
            obtain ⟨g2, cap2, w6, hrun, ho3, hgr, hor, hlt2⟩ := appendI (b := w2.heap.size) (c := 1) (x := (k : Int)) 22 ho (cellAt (heap_alloc_last w2 (.cells #[.int .i64 k] 3)) 0 _ rfl) (by omega) (by simp; omega)
            rw [natV_snoc] at ho3
            have hrw3 := (hrw2.below ((Below.refl _ _).alloc (Nat.le_refl _) (.cells #[.int .i64 k] 3))).own ho (by decide) (by decide) hgr
            have hgA : w.grownBy (w2.alloc (.cells #[.int .i64 k] 3)) (some M) := grown_below (grown_trans HGB.out hg2 (fun j _ h => h)) ((Below.refl _ _).alloc (Nat.le_refl _) _)
            have hgB := grown_own hgA ho hgr
            have hredN := HRED.out.take h1 hr hzero
            have hinN := (pivF_in R5 k c hr (show p.length < n by omega)).trans HIN.out
            have hbackN := RowsIn.trans HBACK.out (pivF_back R5 k c hr (show p.length < n by omega) hzero)
            have hlen : (p ++ [k]).length = p.length + 1 := by simp
            rw [← hlen] at ho3
            have HRun : Hid _ := hrun
            have HO3 : Hid _ := ho3
            have HRW3 : Hid _ := hrw3
            have HGB3 : Hid _ := hgB
            have HRED3 : Hid _ := hredN
            have HIN3 : Hid _ := hinN
            have HBACK3 : Hid _ := hbackN
            have HLEN : Hid _ := hlen
            clear hrun ho3 hrw3 hgB hredN hinN hbackN hgA ho2 ho hrw2 hg2 hgr hor c1 c2 hlen hsz hsz2 hlt2 hb
            by_cases hfull : p.length + 1 = n
            · go_wp2_with (at_builtin; refine wpList_append_run rfl _ _ 22 rfl _ _ _ _ rfl rfl HRun.out ?_)
              rw [Exit.noGoto_ret]
              go_ret
              exact ⟨some ⟨g2, 0, none⟩, cap2, p ++ [k], f6, _, by rw [HLEN.out, hfull]; rfl, HO3.out, HRW3.out, HRED3.out.full (by rw [HLEN.out, hfull]) (by omega), HIN3.out, HBACK3.out, HGB3.out⟩
            · go_wp2_with (at_builtin; refine wpList_append_run rfl _ _ 22 rfl _ _ _ _ rfl rfl HRun.out ?_)
              exact ⟨⟨k + 1, p ++ [k], f6, _, by omega, by go_num, by have h := HO3.out; rw [HLEN.out] at h ⊢; exact h, HRW3.out, HRED3.out, HIN3.out, HBACK3.out, HGB3.out⟩, by simp [intOf]; omega⟩
        · obtain rfl : r0 = n := by omega
          go_wp2
          exact ⟨⟨k + 1, p, f5, R5, by omega, by go_num, HOWN.out, HRW.out, HRED.out.skip HZ.out, HIN.out, HBACK.out, HGB.out⟩, by simp [intOf]; omega⟩
    · obtain rfl : k = cols := by omega
      go_wp2
      rw [Exit.noGoto_ret]
      go_ret
      exact ⟨av, cv, p, f5, R5, rfl, HOWN.out, HRW.out, HRED.out, HIN.out, HBACK.out, HGB.out⟩
end Go.Proofs.YtkoakingmnjdoaaGreatDoor

/- slices.Concat of two lists of elements: a list of one's own, or none where both are empty. -/
namespace Go.Proofs.YtkoakingmnjdoaaGreatDoor
open Go.RowKit Gf
set_option linter.unusedVariables false
set_option maxRecDepth 20000
theorem append_none (a : Option Addr) (c : Nat) (w : World) (ty : TypeId) (hnil : a = none → c = 0) :
    (Builtin.append_ #[23, 23] ty #[.slice none 0 0, .slice a 0 c]).run Tryz.prog w = .ok (.slice none 0 0) w := by
  obtain ⟨i, hi, h1, h2, h3⟩ := info8
  cases a <;> simp [Builtin.append_, run_underlying Tryz.underlying23, sizeOf, typeInfo, hi, Builtin.lenOf, Builtin.firstCells, loadCells, loadCellsFrom]
theorem zeroCells_one (n : Nat) : Builtin.zeroCells (Value.int .u8 0).cells n = vfs (zeros n) := by
  apply Array.ext_getElem?
  intro i
  by_cases h : i < n <;> simp [Builtin.zeroCells, vfs, zeros, vf, Value.cells, h, Nat.mod_one]
theorem zeroCells8 (n m : Nat) : Builtin.zeroCells (Value.int .u8 0).cells n ++ Builtin.zeroCells (Value.int .u8 0).cells m = vfs (zeros (n + m)) := by
  rw [zeroCells_one, zeroCells_one]
  simp only [vfs, zeros, ← List.replicate_append_replicate, List.map_append, List.append_toArray]
theorem wpList_append_run2 {P : Program} {w : World} {ops : Array Oper} {rest : List Oper} {o : Oper} {a : Act} {Q : Exit → Act → World → Prop} (hgd : o.guard = none) (s x : Operand) (t t2 : TypeId)
    (ho : o.op = .call { callee := .builtin .append, args := #[s, x], argTypes := #[t, t2] }) (v u r : Value) (w' : World) (hs : a.eval s = v) (hx : a.eval x = u)
    (hr : (Builtin.append_ #[t, t2] o.type #[v, u]).run P w = .ok r w') (h : wpList P ops Q rest (a.put o.dst r) w') : wpList P ops Q (o :: rest) a w := by
  refine wpList_plain hgd fun K hK => ?_
  unfold Oper.wp execOp
  simp only [ho, resolve, invoke, builtin, Sem.run_bind, Sem.run_pure, Result.andThen_ok, List.map_toArray, List.map_cons, List.map_nil, hs, hx, hr]
  exact hK _ _ h
set_option maxHeartbeats 4000000 in
theorem grow_none (w : World) : Calls Tryz.prog 149 #[.slice none 0 0, .int .i64 0] w fun e w' => e = .returned (.slice none 0 0) ∧ w = w' := by
  go_enter Tryz.func149, Tryz.ntmps149
  go_wp2
  go_ret
  exact ⟨rfl, rfl⟩
set_option maxHeartbeats 4000000 in
theorem grow_some (n : Nat) (w : World) (h0 : 0 < n) (hn : n ≤ 4096) : Calls Tryz.prog 149 #[.slice none 0 0, .int .i64 n] w fun e w' =>
    ∃ G, n ≤ G ∧ e = .returned (.slice (some ⟨w.heap.size, 0, none⟩) 0 G) ∧ w' = w.drew.alloc (.cells (vfs (zeros G)) 5) := by
  obtain ⟨i, hi, h1, h2, h3⟩ := info8
  have hrun := fun ty => Lib.run_append_nil_zeros (P := Tryz.prog) w 23 3 ty 5 i _ .i64 .i64 Tryz.underlying23 Tryz.underlying3 hi h3 n h0 (by omega) (by omega) (by rw [h2]; omega)
  have hG : n ≤ grownCap w n 0 5 := grownCap_ge w _ _ _
  have hG2 := grownCap_le_maxLen w n 0 5 (by unfold maxLen; omega)
  obtain ⟨G, hGe⟩ : ∃ G, G = grownCap w n 0 5 := ⟨_, rfl⟩
  rw [← hGe] at hrun hG hG2
  have hz : n + (G - n) = G := by omega
  simp only [zeroCells8, hz] at hrun
  have HRun : Hid _ := hrun
  unfold maxLen at hG2
  clear hrun hGe hi h1 h2 h3 hz
  go_enter Tryz.func149, Tryz.ntmps149
  go_wp2_with (at_builtin; refine wpList_append_run2 rfl _ _ 23 3 rfl _ _ _ _ rfl rfl (HRun.out _) ?_)
  all_goals (go_ret; exact ⟨G, hG, rfl, rfl⟩)
/-- of two lengths: that of the first k -/
def two (la lb k : Nat) : Nat := if k = 0 then 0 else if k = 1 then la else la + lb
set_option maxHeartbeats 4000000 in
theorem concat_none (B : Nat) (a b : Option Addr) (ca cb : Nat) (w : World) (hB : w.heap[B]? = some (.cells #[.slice a 0 ca, .slice b 0 cb] 23 (0, 0))) (hna : a = none → ca = 0) (hnb : b = none → cb = 0) :
    Calls Tryz.prog 132 #[.slice (some ⟨B, 0, none⟩) 2 2] w fun e w' => e = .returned (.slice none 0 0) ∧ Below w.heap.size w w' := by
  have c1 := cellAt hB 0 _ rfl
  have c2 := cellAt hB 1 _ rfl
  have r1 := append_none a ca w 23 hna
  have r2 := append_none b cb w 23 hnb
  have R1 : Hid _ := r1
  have R2 : Hid _ := r2
  clear r1 r2 hB hna hnb
  go_enter Tryz.func132, Tryz.ntmps132
  go_wp2
  go_loopw [3, 11] (fun s i wr => ∃ k : Nat, k ≤ 2 ∧ i = .int .i64 k ∧ s = .int .i64 0 ∧ wr = w) (fun _ i _ => 2 - (intOf i).toNat)
  case atStart => exact ⟨0, by omega, rfl, rfl, rfl⟩
  case round =>
    obtain ⟨k, hk, rfl, rfl, rfl⟩ := hrel
    rcases (show k = 0 ∨ k = 1 ∨ k = 2 by omega) with rfl | rfl | rfl
    · go_wp2
      exact ⟨⟨1, by omega, by go_num, by first | rfl | trivial, by first | rfl | trivial⟩, by simp [intOf]⟩
    · go_wp2
      exact ⟨⟨2, by omega, by go_num, by first | rfl | trivial, by first | rfl | trivial⟩, by simp [intOf]⟩
    · go_wp2_with fail
      refine Calls.mono (grow_none _) ?_
      rintro e w2 ⟨rfl, hw2⟩
      subst hw2
      go_wp2
      go_loopw [6, 27] (fun s i wq => ∃ k : Nat, k ≤ 2 ∧ i = .int .i64 k ∧ s = .slice none 0 0 ∧ wq = wr) (fun _ i _ => 2 - (intOf i).toNat)
      case atStart => exact ⟨0, by omega, rfl, rfl, rfl⟩
      case round =>
        obtain ⟨k, hk, rfl, rfl, rfl⟩ := hrel
        rcases (show k = 0 ∨ k = 1 ∨ k = 2 by omega) with rfl | rfl | rfl
        · go_wp2_with (at_builtin; refine wpList_append_run rfl _ _ 23 rfl _ _ _ _ rfl rfl R1.out ?_)
          exact ⟨⟨1, by omega, by go_num, by first | rfl | trivial, by first | rfl | trivial⟩, by simp [intOf]⟩
        · go_wp2_with (at_builtin; refine wpList_append_run rfl _ _ 23 rfl _ _ _ _ rfl rfl R2.out ?_)
          exact ⟨⟨2, by omega, by go_num, by first | rfl | trivial, by first | rfl | trivial⟩, by simp [intOf]⟩
        · go_wp2
          go_ret
          exact ⟨rfl, Below.refl _ _⟩
set_option maxHeartbeats 4000000 in
theorem concat_some (B : Nat) (a b : Option Addr) (la ca lb cb : Nat) (xs ys : List F) (w : World) (hB : w.heap[B]? = some (.cells #[.slice a la ca, .slice b lb cb] 23 (0, 0))) (hna : a = none → ca = 0) (hnb : b = none → cb = 0)
    (hla : la = xs.length) (hlb : lb = ys.length) (h6 : la ≤ 64) (h7 : lb ≤ 64) (h0 : 0 < la + lb) (hX : Row8 w a xs) (hY : Row8 w b ys) :
    Calls Tryz.prog 132 #[.slice (some ⟨B, 0, none⟩) 2 2] w fun e w' => ∃ G, la + lb ≤ G ∧ e = .returned (.slice (some ⟨w.heap.size, 0, none⟩) (la + lb) G) ∧ Below w.heap.size w w' ∧ w'.heap[w.heap.size]? = some (.cells (vfs (xs ++ ys ++ zeros (G - (la + lb)))) 5 (0, 0)) := by
  have c1 := cellAt hB 0 _ rfl
  have c2 := cellAt hB 1 _ rfl
  have HB : Hid _ := hB
  have HNA : Hid _ := hna
  have HNB : Hid _ := hnb
  have HLA : Hid _ := hla
  have HLB : Hid _ := hlb
  have HX : Hid _ := hX
  have HY : Hid _ := hY
  clear hB hna hnb hla hlb hX hY
  go_enter Tryz.func132, Tryz.ntmps132
  go_wp2
  go_loopw [3, 11] (fun s i wr => ∃ k : Nat, k ≤ 2 ∧ i = .int .i64 k ∧ s = .int .i64 (two la lb k : Nat) ∧ wr = w) (fun _ i _ => 2 - (intOf i).toNat)
  case atStart => exact ⟨0, by omega, rfl, rfl, rfl⟩
  case round =>
    obtain ⟨k, hk, rfl, rfl, rfl⟩ := hrel
    rcases (show k = 0 ∨ k = 1 ∨ k = 2 by omega) with rfl | rfl | rfl
    · have e0 : ((two la lb 0 : Nat) : Int) = 0 := rfl
      rw [e0]
      clear e0
      go_wp2
      exact ⟨⟨1, by omega, by go_num, by first | (simp [two]; done) | trivial, by first | rfl | trivial⟩, by simp [intOf]⟩
    · have e0 : ((two la lb 1 : Nat) : Int) = (la : Int) := rfl
      rw [e0]
      clear e0
      go_wp2
      exact ⟨⟨2, by omega, by go_num, by first | (simp [two]; done) | trivial, by first | rfl | trivial⟩, by simp [intOf]⟩
    · have e0 : ((two la lb 2 : Nat) : Int) = ((la + lb : Nat) : Int) := rfl
      rw [e0]
      clear e0
      go_wp2_with fail
      refine Calls.mono (grow_some (la + lb) _ h0 (by omega)) ?_
      rintro e w2 ⟨G, hG, rfl, hw2⟩
      have hb2 : Below wr.heap.size wr w2 := by rw [hw2]; exact (Below.refl _ _).drew.alloc (Nat.le_refl _) _
      have hh2 : w2.heap[wr.heap.size]? = some (.cells (vfs (zeros G)) 5 (0, 0)) := by rw [hw2]; exact heap_alloc_last wr.drew _
      have r1 := run_append8_room (w := w2) (g := wr.heap.size) (n := 0) (cap := G) (xs := []) (old := zeros G) (ys := xs) (a := a) (m := la) (c := ca) 23 hh2 rfl (by omega) HLA.out (by rw [zeros_len, ← HLA.out]; omega) (row8_below HX.out hb2) HNA.out
      rw [List.nil_append, Nat.zero_add] at r1
      have hh3 := setRow_heap _ _ _ (vfs (xs ++ (zeros G).drop xs.length)) _ _ hh2
      have hb3 : Below wr.heap.size wr (w2.setRow wr.heap.size (vfs (xs ++ (zeros G).drop xs.length))) := below_row hb2 (Nat.le_refl _) _
      have r2 := run_append8_room (w := w2.setRow wr.heap.size (vfs (xs ++ (zeros G).drop xs.length))) (g := wr.heap.size) (n := la) (cap := G) (xs := xs) (old := (zeros G).drop xs.length) (ys := ys) (a := b) (m := lb) (c := cb) 23 hh3 HLA.out (by omega) HLB.out (by rw [zeros_drop, zeros_len, ← HLA.out, ← HLB.out]; omega) (row8_below HY.out hb3) HNB.out
      have hh4 := setRow_heap _ _ _ (vfs (xs ++ ys ++ ((zeros G).drop xs.length).drop ys.length)) _ _ hh3
      have hb4 : Below wr.heap.size wr ((w2.setRow wr.heap.size (vfs (xs ++ (zeros G).drop xs.length))).setRow wr.heap.size (vfs (xs ++ ys ++ ((zeros G).drop xs.length).drop ys.length))) := below_row hb3 (Nat.le_refl _) _
      have R1 : Hid _ := r1
      have R2 : Hid _ := r2
      have HH4 : Hid _ := hh4
      have HB4 : Hid _ := hb4
      have c3 := cellAt (heap_later HB.out hb2) 0 _ rfl
      have c4 := cellAt (heap_later HB.out hb3) 1 _ rfl
      clear r1 r2 hh2 hh3 hh4 hb2 hb3 hb4 hw2
      go_wp2
      go_loopw [6, 27] (fun s i wq => ∃ k : Nat, k ≤ 2 ∧ i = .int .i64 k ∧ s = .slice (some ⟨wr.heap.size, 0, none⟩) (two la lb k) G ∧ wq = if k = 0 then w2 else if k = 1 then (w2.setRow wr.heap.size (vfs (xs ++ (zeros G).drop xs.length))) else ((w2.setRow wr.heap.size (vfs (xs ++ (zeros G).drop xs.length))).setRow wr.heap.size (vfs (xs ++ ys ++ ((zeros G).drop xs.length).drop ys.length)))) (fun _ i _ => 2 - (intOf i).toNat)
      case atStart => exact ⟨0, by omega, rfl, rfl, rfl⟩
      case round =>
        obtain ⟨k, hk, rfl, rfl, hw⟩ := hrel
        rcases (show k = 0 ∨ k = 1 ∨ k = 2 by omega) with rfl | rfl | rfl
        · rw [if_pos rfl] at hw
          subst hw
          have e0 : two la lb 0 = 0 := rfl
          rw [e0]
          clear e0
          go_wp2_with (at_builtin; refine wpList_append_run rfl _ _ 23 rfl _ _ _ _ rfl rfl R1.out ?_)
          exact ⟨⟨1, by omega, by go_num, by first | rfl | trivial, rfl⟩, by simp [intOf]⟩
        · rw [if_neg (by omega), if_pos rfl] at hw
          have e0 : two la lb 1 = la := rfl
          rw [e0]
          clear e0
          rw [← hw] at c4 R2
          have HW : Hid _ := hw
          clear hw
          go_wp2_with (at_builtin; refine wpList_append_run rfl _ _ 23 rfl _ _ _ _ rfl rfl R2.out ?_)
          exact ⟨⟨2, by omega, by go_num, by first | rfl | trivial, by rw [if_neg (by omega), if_neg (by omega), HW.out, List.append_assoc xs ys, List.drop_drop]⟩, by simp [intOf]⟩
        · rw [if_neg (by omega), if_neg (by omega)] at hw
          have HW : Hid _ := hw
          clear hw
          have e0 : two la lb 2 = la + lb := rfl
          rw [e0]
          clear e0
          go_wp2
          go_ret
          refine ⟨G, hG, rfl, by rw [HW.out]; exact HB4.out, ?_⟩
          rw [HW.out]
          have e : ((zeros G).drop xs.length).drop ys.length = zeros (G - (la + lb)) := by rw [List.drop_drop, zeros_drop, ← HLA.out, ← HLB.out]
          rw [← e]
          exact HH4.out
/-- a row of a matrix and one of another, one behind the other -/
theorem concat_F (B : Nat) (a b : Option Addr) (la ca lb cb : Nat) (f g : Nat → F) (w : World) (hB : w.heap[B]? = some (.cells #[.slice a la ca, .slice b lb cb] 23 (0, 0))) (hna : a = none → ca = 0) (hnb : b = none → cb = 0)
    (h6 : la ≤ 64) (h7 : lb ≤ 64) (hX : Row8 w a (rowF la f)) (hY : Row8 w b (rowF lb g)) :
    Calls Tryz.prog 132 #[.slice (some ⟨B, 0, none⟩) 2 2] w fun e w' => ∃ q G, e = .returned (.slice q (la + lb) G) ∧ la + lb ≤ G ∧ (q = none → G = 0) ∧ Below w.heap.size w w' ∧
      Row8T w' q (rowF (la + lb) fun j => if j < la then f j else g (j - la)) := by
  by_cases h0 : la + lb = 0
  · obtain rfl : la = 0 := by omega
    obtain rfl : lb = 0 := by omega
    exact (concat_none B a b ca cb w hB hna hnb).mono fun e w' ⟨he, hb⟩ => ⟨none, 0, he, by omega, fun _ => rfl, hb, .inl rfl⟩
  · refine (concat_some B a b la ca lb cb _ _ w hB hna hnb (rowF_len _ _).symm (rowF_len _ _).symm h6 h7 (by omega) hX hY).mono fun e w' ⟨G, hG, he, hb, hh⟩ => ⟨_, G, he, hG, (fun h => by cases h), hb, ?_⟩
    have e1 : rowF (la + lb) (fun j => if j < la then f j else g (j - la)) = rowF la f ++ rowF lb g := (rowF_eq (by simp [rowF_len]) fun j hj => by
      by_cases h : j < la
      · rw [if_pos h, at8_left (by rw [rowF_len]; exact h), at8_rowF h]
      · rw [if_neg h, at8_right (by rw [rowF_len]; omega), rowF_len, at8_rowF (by omega)]).symm
    rw [e1]
    refine .inr ⟨w.heap.size, 0, _, _, rfl, hh, fun j hj => ?_⟩
    rw [Nat.zero_add, ← at8_left (ys := zeros (G - (la + lb))) hj]
    exact cellAt hh j _ (vfs_get _ _ (by rw [List.length_append]; omega))
end Go.Proofs.YtkoakingmnjdoaaGreatDoor

/- What eliminated answers, of all matrices in form with as many rows, and of all others. -/
namespace Go.Proofs.YtkoakingmnjdoaaGreatDoor
open Go.RowKit Gf
set_option linter.unusedVariables false
set_option maxRecDepth 20000
/-- two lists of cells, row beside row -/
def augL (c q : Nat) (xs ys : List F) : Mt := fun i j => if j < c then at8 xs (i * c + j) else at8 ys (i * q + (j - c))
/-- n slices, the first k of c elements each, the others none -/
def slP (n c k : Nat) (f : Nat → Option Addr × Nat) : Array Value := ((List.range n).map fun x => if x < k then Value.slice (f x).1 c (f x).2 else Value.slice none 0 0).toArray
theorem slP_size (n c k : Nat) (f : Nat → Option Addr × Nat) : (slP n c k f).size = n := by simp [slP]
theorem slP_at {n c k x : Nat} {f : Nat → Option Addr × Nat} (h : x < n) : (slP n c k f)[x]? = some (if x < k then Value.slice (f x).1 c (f x).2 else Value.slice none 0 0) := by simp [slP, h]
theorem slP_zero (n c : Nat) (f : Nat → Option Addr × Nat) : slV 0 [] n = slP n c 0 f := by
  apply Array.ext_getElem?
  intro i
  by_cases h : i < n <;> simp [slP, slV, h]
theorem slP_all (n c : Nat) (f : Nat → Option Addr × Nat) : slP n c n f = slF n c f := by
  apply Array.ext_getElem?
  intro i
  by_cases h : i < n
  · rw [slP_at h, slF_at h, if_pos h]
  · rw [Array.getElem?_eq_none (by rw [slP_size]; omega), Array.getElem?_eq_none (by rw [slF_size]; omega)]
theorem slP_set {n c k : Nat} {f : Nat → Option Addr × Nat} (a : Option Addr) (m : Nat) (h : k < n) : (slP n c k f).setIfInBounds k (.slice a c m) = slP n c (k + 1) (fun x => if x = k then (a, m) else f x) := by
  apply Array.ext_getElem?
  intro i
  rw [Array.getElem?_setIfInBounds]
  by_cases hi : i < n
  · rw [slP_at hi, slP_at hi, slP_size]
    by_cases e : k = i
    · subst e; simp [hi]
    · by_cases e2 : i < k
      · simp [e, e2, show ¬ i = k from fun h => e h.symm, show i < k + 1 by omega]
      · simp [e, e2, show ¬ i < k + 1 by omega]
  · rw [Array.getElem?_eq_none (by rw [slP_size]; omega), Array.getElem?_eq_none (by rw [slP_size]; omega), slP_size]
    simp; omega
set_option maxHeartbeats 8000000 in
theorem eliminated_F (r c q la ca lb cb : Nat) (a b : Option Addr) (xs ys : List F) (w : World) (hr : r ≤ 64) (hc : c ≤ 64) (hq : q ≤ 64) (hla : la = r * c) (hx : xs.length = r * c) (hca : la ≤ ca) (hX : Row8 w a xs) (hna : a = none → ca = 0)
    (hlb : lb = r * q) (hy : ys.length = r * q) (hcb : lb ≤ cb) (hY : Row8 w b ys) (hnb : b = none → cb = 0) :
    Calls Tryz.prog 126 #[.agg #[.int .i64 r, .int .i64 c, .slice a la ca], .agg #[.int .i64 r, .int .i64 q, .slice b lb cb]] w fun e w' => ∃ M av cv p f' R',
      e = .returned (.tuple #[.slice (some ⟨M, 0, none⟩) r r, .slice av p.length cv, .nilIface]) ∧ w.heap.size ≤ M ∧ w'.ownsRow w.heap.size 3 1 (.slice av p.length cv) p.length (natV p) ∧
      RowsW w' M r (c + q) f' R' ∧ Red R' p r c ∧ RowsIn R' r (augL c q xs ys) r (c + q) ∧ RowsIn (augL c q xs ys) r R' r (c + q) ∧ Below w.heap.size w w' := by
  have HLA : Hid _ := hla
  have HLB : Hid _ := hlb
  have HX : Hid _ := hx
  have HY : Hid _ := hy
  have HRX : Hid (Row8 w a xs) := hX
  have HRY : Hid (Row8 w b ys) := hY
  have HNA : Hid _ := hna
  have HNB : Hid _ := hnb
  clear hla hlb hx hy hX hY hna hnb
  have hmk := run_makeS r hr
  go_enter Tryz.func126, Tryz.ntmps126
  go_wp2_with fail
  refine Calls.mono (check_ok r c a la ca _ hr hc HLA.out) ?_
  rintro e w2 ⟨rfl, hb2⟩
  have hA := holds_later (holds_new (holds_new (holds_nil w) #[.int .i64 r, .int .i64 c, .slice a la ca] 73) #[.int .i64 r, .int .i64 q, .slice b lb cb] 73) hb2
  rw [World.size_alloc] at hA
  have hB2 : Below w.heap.size w w2 := (((Below.refl w.heap.size w).alloc (Nat.le_refl _) _).alloc (by simp) _).trans (hb2.mono (by simp; omega))
  have hz2 : w.heap.size + 2 ≤ w2.heap.size := by have := hb2.size; simpa using this
  have hA3 := holds_alloc hA (.cells (slV 0 [] r) 23)
  have hB3 : Below w.heap.size w (w2.alloc (.cells (slV 0 [] r) 23)) := hB2.alloc hB2.size _
  have hM3 := heap_alloc_last w2 (.cells (slV 0 [] r) 23)
  have c1 := cellAt (holds_at hA 1 rfl) 0 _ rfl
  have c2 := cellAt (holds_at hA 0 rfl) 0 _ rfl
  have HA3 : Hid _ := hA3
  have HB3 : Hid _ := hB3
  have HM3 : Hid _ := hM3
  clear hA hB2 hA3 hB3 hM3 hb2
  go_wp2
  generalize hM : w2.heap.size = M at *
  generalize (w2.alloc (.cells (slV 0 [] r) 23)) = W3 at *
  clear hM c1 c2 hmk
  go_loopw [28] (fun i wr => ∃ (k : Nat) (f : Nat → Option Addr × Nat), k ≤ r ∧ i = .int .i64 k ∧ W3.grownBy wr (some M) ∧ wr.heap[M]? = some (.cells (slP r (c + q) k f) 23 (0, 0)) ∧
    ∀ x, x < k → Row8T wr (f x).1 (rowF (c + q) (augL c q xs ys x)) ∧ c + q ≤ (f x).2 ∧ ((f x).1 = none → (f x).2 = 0)) (fun i _ => r - (intOf i).toNat)
  case atStart => exact ⟨0, fun _ => (none, 0), by omega, rfl, World.grownBy.refl _ _, by rw [← slP_zero]; exact HM3.out, fun x h => by omega⟩
  case round =>
    obtain ⟨k, f, hk, rfl, hgb, hs, hrows⟩ := hrel
    have k0 := grown_block hgb (holds_at HA3.out 1 rfl) (by omega)
    have k1 := grown_block hgb (holds_at HA3.out 0 rfl) (by omega)
    by_cases hlt : k < r
    · have c1 := cellAt k0 0 _ rfl
      have c2 := cellAt k0 1 _ rfl
      have c3 := cellAt k0 2 _ rfl
      have hbw := below_grown HB3.out hgb (by omega)
      have HBW : Hid _ := hbw
      have HS : Hid _ := hs
      have HR : Hid _ := hrows
      have HG : Hid _ := hgb
      have HK1 : Hid _ := k1
      clear hbw hs hrows hgb k0 k1
      go_wp2_with fail
      refine Calls.mono (row_F r c la ca k a xs _ hr hc HLA.out HX.out hca (row8_below HRX.out HBW.out) HNA.out hlt) ?_
      rintro e w4 ⟨a', cap', rfl, hr4, hn4, _, hb4⟩
      have k1 := heap_later HK1.out hb4
      have c4 := cellAt k1 0 _ rfl
      have c5 := cellAt k1 1 _ rfl
      have c6 := cellAt k1 2 _ rfl
      have hB4 : Below w.heap.size w w4 := HBW.out.trans (hb4.mono HBW.out.size)
      have HB4 : Hid _ := hB4
      have Hb4 : Hid _ := hb4
      have HR4 : Hid _ := hr4
      have HN4 : Hid _ := hn4
      clear k1 hB4 hb4 hr4 hn4 c1 c2 c3
      go_wp2_with fail
      refine Calls.mono (row_F r q lb cb k b ys _ hr hq HLB.out HY.out hcb (row8_below HRY.out HB4.out) HNB.out hlt) ?_
      rintro e w5 ⟨b', capb, rfl, hr5, hn5, _, hb5⟩
      have HR5 : Hid _ := hr5
      have HN5 : Hid _ := hn5
      have Hb5 : Hid _ := hb5
      clear hr5 hn5 hb5 c4 c5 c6
      go_wp2_with fail
      have hal : Below w5.heap.size w5 (w5.alloc (.cells #[.slice a' c cap', .slice b' q capb] 23)) := (Below.refl _ _).alloc (Nat.le_refl _) _
      have ex : rowF c (fun j => at8 xs (k * c + j)) = rowAt c xs k := (rowAt_rowF HX.out hlt).symm
      have ey : rowF q (fun j => at8 ys (k * q + j)) = rowAt q ys k := (rowAt_rowF HY.out hlt).symm
      refine Calls.mono (concat_F w5.heap.size a' b' c cap' q capb (fun j => at8 xs (k * c + j)) (fun j => at8 ys (k * q + j)) _ (heap_alloc_last w5 _) HN4.out HN5.out hc hq (by rw [ex]; exact row8_below (row8_below HR4.out Hb5.out) hal) (by rw [ey]; exact row8_below HR5.out hal)) ?_
      rintro e w6 ⟨g6, G6, rfl, hG6, hn6, hb6, hr6⟩
      have hB6 : Below wr.heap.size wr w6 := (Hb4.out.trans (Hb5.out.mono Hb4.out.size)).trans ((hal.trans (hb6.mono hal.size)).mono (Nat.le_trans Hb4.out.size Hb5.out.size))
      have hs6 := heap_later HS.out hB6
      have c7 := cellAt hs6 k _ (slP_at hlt)
      rw [if_neg (Nat.lt_irrefl k)] at c7
      have d7 : w6.frozen? ⟨M, k, none⟩ = false := frozen_of_row _ _ _ _ _ hs6
      have hgS : w6.grownBy (w6.setCell ⟨M, k, none⟩ (.slice g6 (c + q) G6)) (some M) := grownBy_setCell (World.grownBy.refl _ _) _
      have HS6 : Hid ((w6.setCell ⟨M, k, none⟩ (.slice g6 (c + q) G6)).heap[M]? = some (.cells (slP r (c + q) (k + 1) (fun x => if x = k then (g6, G6) else f x)) 23 (0, 0))) := by
        show _ = _
        rw [heap_setCell_same _ _ _ _ _ _ hs6, slP_set _ _ hlt]
      have HG6 : Hid (W3.grownBy (w6.setCell ⟨M, k, none⟩ (.slice g6 (c + q) G6)) (some M)) := grownBy_setCell (grown_below HG.out hB6) _
      have HR6 : Hid (∀ x, x < k + 1 → Row8T (w6.setCell ⟨M, k, none⟩ (.slice g6 (c + q) G6)) (if x = k then (g6, G6) else f x).1 (rowF (c + q) (augL c q xs ys x)) ∧ c + q ≤ (if x = k then (g6, G6) else f x).2 ∧ ((if x = k then (g6, G6) else f x).1 = none → (if x = k then (g6, G6) else f x).2 = 0)) := by
        intro x hx
        have hne : NoElems w6 (some M) := noElems_some hs6 (by decide)
        by_cases e : x = k
        · subst e
          rw [if_pos rfl]
          exact ⟨row8T_grown hr6 hgS hne, hG6, hn6⟩
        · rw [if_neg e]
          obtain ⟨h1, h2, h3⟩ := HR.out x (by omega)
          exact ⟨row8T_grown (row8T_below h1 hB6) hgS hne, h2, h3⟩
      clear hs6 hgS hr6 hb6 hB6 hal ex ey
      go_wp2
      exact ⟨⟨k + 1, _, by omega, by go_num, HG6.out, HS6.out, HR6.out⟩, by simp [intOf]; omega⟩
    · obtain rfl : k = r := by omega
      have hRW : RowsW wr M k (c + q) f (augL c q xs ys) := ⟨by rw [← slP_all]; exact hs, fun x hx => (hrows x hx).1, fun x hx => (hrows x hx).2.1, fun x hx => (hrows x hx).2.2⟩
      have hbw := below_grown HB3.out hgb (by omega)
      have c1 := cellAt k1 1 _ rfl
      have c2 := cellAt k0 1 _ rfl
      have HRW : Hid _ := hRW
      have HBW : Hid _ := hbw
      clear hs hrows hgb k0 k1 hRW hbw
      go_wp2_with fail
      refine Calls.mono (eliminate_F M k (c + q) k c f _ _ hr (by omega) (by omega) HRW.out) ?_
      rintro e w4 ⟨av, cv, p, f', R', rfl, hown, hrw, hred, hin, hback, hg4⟩
      have H1 : Hid _ := hown
      have H2 : Hid _ := hrw
      have H3 : Hid _ := hred
      have H4 : Hid _ := hin
      have H5 : Hid _ := hback
      have H6 : Hid _ := below_grown HBW.out hg4 (by omega)
      have hsz := HBW.out.size
      clear hown hrw hred hin hback hg4
      go_wp2
      refine bodyPost_ret (v := .tuple #[.slice (some ⟨M, 0, none⟩) k k, .slice av p.length cv, .nilIface]) (by simp [results, Tryz.results126, go_sem]) rfl ?_
      exact ⟨M, av, cv, p, f', R', rfl, by omega, own_lower H1.out hsz, H2.out, H3.out, H4.out, H5.out, H6.out⟩
end Go.Proofs.YtkoakingmnjdoaaGreatDoor

/- What Reduce, Rank and Basis of package solve answer, of all matrices. -/
namespace Go.Proofs.YtkoakingmnjdoaaGreatDoor
open Go.RowKit Gf
set_option linter.unusedVariables false
set_option maxRecDepth 20000
/-- the cells of a matrix of c columns -/
def cellF (c : Nat) (xs : List F) : Mt := fun i j => at8 xs (i * c + j)
theorem RowsIn.congr_left {A B B' : Mt} {n m c : Nat} (h : RowsIn B n A m c) (e : ∀ i, i < n → ∀ j, j < c → B' i j = B i j) : RowsIn B' n A m c := fun i hi => by
  obtain ⟨x, hx⟩ := h i hi
  exact ⟨x, fun j hj => (e i hi j hj).trans (hx j hj)⟩
theorem RowsIn.congr_right {A A' B : Mt} {n m c : Nat} (h : RowsIn B n A m c) (e : ∀ i, i < m → ∀ j, j < c → A' i j = A i j) : RowsIn B n A' m c := fun i hi => by
  obtain ⟨x, hx⟩ := h i hi
  exact ⟨x, fun j hj => (hx j hj).trans (sumF_congr fun k hk => by rw [e k hk j hj])⟩
/-- a matrix in form, as it comes -/
def FormOk (r c : Int) (l : Nat) : Prop := 0 ≤ r ∧ r ≤ 64 ∧ 0 ≤ c ∧ c ≤ 64 ∧ (l : Int) = r * c
set_option maxHeartbeats 1000000 in
theorem eliminated_bad (r c r2 q : Int) (l ca lb cb : Nat) (a b : Option Addr) (w : World) (s : Addr) (hs : w.cell? ⟨4, 0, none⟩ = some (errAt s)) (h : ¬ FormOk r c l) :
    Calls Tryz.prog 126 #[.agg #[.int .i64 r, .int .i64 c, .slice a l ca], .agg #[.int .i64 r2, .int .i64 q, .slice b lb cb]] w fun e w' =>
      e = .returned (.tuple #[.slice none 0 0, .slice none 0 0, errAt s]) ∧ Below w.heap.size w w' := by
  have H : Hid _ := h
  clear h
  have HS : Hid _ := cell?_alloc_old (.cells #[.int .i64 r2, .int .i64 q, .slice b lb cb] 73) (cell?_alloc_old (.cells #[.int .i64 r, .int .i64 c, .slice a l ca] 73) hs)
  clear hs
  unfold errAt at *
  go_enter Tryz.func126, Tryz.ntmps126
  go_wp2_with fail
  refine Calls.mono (check_bad r c a l ca _ _ HS.out H.out) ?_
  rintro e w1 ⟨rfl, hb1⟩
  have c9 := cell_later hb1 HS.out
  have HB1 : Hid (Below w.heap.size w w1) := (((Below.refl w.heap.size w).alloc (Nat.le_refl _) _).alloc (by simp) _).trans (hb1.mono (by simp; omega))
  clear hb1
  go_wp2
  go_region
  go_wp2
  refine bodyPost_ret (v := .tuple #[.slice none 0 0, .slice none 0 0, .iface 191 (.pointer (some s))]) (by simp [results, Tryz.results126, go_sem]) rfl ⟨rfl, HB1.out.drew⟩
set_option maxHeartbeats 1000000 in
theorem eliminated_odd (r c : Nat) (r2 q : Int) (l ca lb cb : Nat) (a b : Option Addr) (w : World) (s : Addr) (hs : w.cell? ⟨4, 0, none⟩ = some (errAt s)) (hr : r ≤ 64) (hc : c ≤ 64) (hl : l = r * c) (h : (r : Int) ≠ r2) :
    Calls Tryz.prog 126 #[.agg #[.int .i64 r, .int .i64 c, .slice a l ca], .agg #[.int .i64 r2, .int .i64 q, .slice b lb cb]] w fun e w' =>
      e = .returned (.tuple #[.slice none 0 0, .slice none 0 0, errAt s]) ∧ Below w.heap.size w w' := by
  have H : Hid _ := hl
  clear hl
  have HS : Hid _ := cell?_alloc_old (.cells #[.int .i64 r2, .int .i64 q, .slice b lb cb] 73) (cell?_alloc_old (.cells #[.int .i64 r, .int .i64 c, .slice a l ca] 73) hs)
  clear hs
  unfold errAt at *
  have hne : ((r : Int) != r2) = true := by simpa using h
  go_enter Tryz.func126, Tryz.ntmps126
  go_wp2_with fail
  refine Calls.mono (check_ok r c a l ca _ hr hc H.out) ?_
  rintro e w1 ⟨rfl, hb1⟩
  have hA := holds_later (holds_new (holds_new (holds_nil w) #[.int .i64 r, .int .i64 c, .slice a l ca] 73) #[.int .i64 r2, .int .i64 q, .slice b lb cb] 73) hb1
  rw [World.size_alloc] at hA
  have c1 := cellAt (holds_at hA 1 rfl) 0 _ rfl
  have c2 := cellAt (holds_at hA 0 rfl) 0 _ rfl
  have c9 := cell_later hb1 HS.out
  have HB1 : Hid (Below w.heap.size w w1) := (((Below.refl w.heap.size w).alloc (Nat.le_refl _) _).alloc (by simp) _).trans (hb1.mono (by simp; omega))
  clear hb1 hA
  go_wp2
  go_region
  go_wp2
  refine bodyPost_ret (v := .tuple #[.slice none 0 0, .slice none 0 0, .iface 191 (.pointer (some s))]) (by simp [results, Tryz.results126, go_sem]) rfl ⟨rfl, HB1.out.drew⟩
theorem rowsW_rows8 {w : World} {M n c : Nat} {f : Nat → Option Addr × Nat} {R : Mt} (h : RowsW w M n c f R) : Rows8 w (some ⟨M, 0, none⟩) ((List.range n).map fun k => rowF c (R k)) := by
  refine .inr ⟨M, 0, rfl, fun j x hx => ?_⟩
  simp only [List.getElem?_map, Option.map_eq_some_iff] at hx
  obtain ⟨i, hi, rfl⟩ := hx
  obtain ⟨hjk, hi2⟩ := List.getElem?_eq_some_iff.1 hi
  simp only [List.length_range] at hjk
  simp only [List.getElem_range] at hi2
  subst hi2
  refine ⟨(f j).1, (f j).2, ?_, (h.row j hjk).row8⟩
  rw [Nat.zero_add, rowF_len]
  exact cellAt h.blk j _ (slF_at hjk)
set_option maxHeartbeats 4000000 in
theorem reduce_F (r c l cap : Nat) (a : Option Addr) (xs : List F) (w : World) (hr : r ≤ 64) (hc : c ≤ 64) (hl : l = r * c) (hx : xs.length = r * c) (hcap : l ≤ cap) (hX : Row8 w a xs) (hnil : a = none → cap = 0) :
    Calls Tryz.prog 201 #[.agg #[.int .i64 r, .int .i64 c, .slice a l cap]] w fun e w' => ∃ g m av cv p R', e = .returned (.tuple #[.agg #[.int .i64 r, .int .i64 c, .slice (some ⟨g, 0, none⟩) m m], .slice av p.length cv, .nilIface]) ∧
      m = r * c ∧ w.heap.size ≤ g ∧ w'.heap[g]? = some (.cells (vfs (grid c R' r)) 5 (0, 0)) ∧ w'.ownsRow w.heap.size 3 1 (.slice av p.length cv) p.length (natV p) ∧
      Red R' p r c ∧ RowsIn R' r (cellF c xs) r c ∧ RowsIn (cellF c xs) r R' r c ∧ Below w.heap.size w w' := by
  have HL : Hid _ := hl
  have HX : Hid _ := hx
  have HRX : Hid (Row8 w a xs) := hX
  have HNA : Hid _ := hnil
  clear hl hx hX hnil
  go_enter Tryz.func201, Tryz.ntmps201
  go_wp2_with fail
  have hal := (((Below.refl w.heap.size w).alloc (Nat.le_refl _) (.cells #[.int .i64 r, .int .i64 c, .slice a l cap] 73)).alloc (by simp) (.cells #[.int .i64 0, .int .i64 0, .slice none 0 0] 73))
  refine Calls.mono (eliminated_F r c 0 l cap 0 0 a none xs [] _ hr hc (by omega) HL.out HX.out hcap (row8_below HRX.out hal) HNA.out (by omega) (by simp) (by omega) (.inl rfl) (fun _ => rfl)) ?_
  rintro e w2 ⟨M, av, cv, p, f', R', rfl, hM, hown, hrw, hred, hin, hback, hb2⟩
  have hA := holds_later (holds_new (holds_new (holds_nil w) #[.int .i64 r, .int .i64 c, .slice a l cap] 73) #[.int .i64 0, .int .i64 0, .slice none 0 0] 73) hb2
  rw [World.size_alloc] at hA
  have HW2 : Hid (Below w.heap.size w w2) := hal.trans (hb2.mono (by simp; omega))
  have c1 := cellAt (holds_at hA 1 rfl) 1 _ rfl
  have HA : Hid _ := hA
  have H1 : Hid _ := hown
  have H2 : Hid _ := hrw
  have H3 : Hid _ := hred
  have H4 : Hid _ := hin
  have H5 : Hid _ := hback
  clear hA hown hrw hred hin hback hb2 hM
  go_wp2_with fail
  refine Calls.mono (of_F c r r _ ((List.range r).map fun k => rowF c (R' k)) _ hc (by simp) hr (fun x hx => ?_) (rowsW_rows8 H2.out)) ?_
  · obtain ⟨i, _, rfl⟩ := List.mem_map.1 hx
    exact rowF_len _ _
  rintro e w3 ⟨g, m, rfl, hm, hg, hh, hb3⟩
  rw [← grid_flat] at hh
  have hA3 := holds_alloc (holds_cons (holds_later HA.out hb3) hh) (.cells #[.int .i64 r, .int .i64 c, .slice (some ⟨g, 0, none⟩) m m] 73)
  have hsz2 := HW2.out.size
  have HW3 : Hid (Below w.heap.size w (w3.alloc (.cells #[.int .i64 r, .int .i64 c, .slice (some ⟨g, 0, none⟩) m m] 73))) := (HW2.out.trans (hb3.mono HW2.out.size)).alloc (Nat.le_trans HW2.out.size hb3.size) _
  have z0 := ltHeap (holds_at HA.out 0 rfl)
  have k1 := holds_at hA3 1 rfl
  have c4 := cellAt k1 0 _ rfl
  have c5 := cellAt k1 1 _ rfl
  have c6 := cellAt k1 2 _ rfl
  have d4 : (w3.alloc (.cells #[.int .i64 r, .int .i64 c, .slice (some ⟨g, 0, none⟩) m m] 73)).frozen? ⟨w.heap.size + 1, 0, none⟩ = false := frozen_of_row _ _ _ _ _ k1
  have d5 : (w3.alloc (.cells #[.int .i64 r, .int .i64 c, .slice (some ⟨g, 0, none⟩) m m] 73)).frozen? ⟨w.heap.size + 1, 1, none⟩ = false := frozen_of_row _ _ _ _ _ k1
  have d6 : (w3.alloc (.cells #[.int .i64 r, .int .i64 c, .slice (some ⟨g, 0, none⟩) m m] 73)).frozen? ⟨w.heap.size + 1, 2, none⟩ = false := frozen_of_row _ _ _ _ _ k1
  have HH : Hid ((w3.alloc (.cells #[.int .i64 r, .int .i64 c, .slice (some ⟨g, 0, none⟩) m m] 73)).heap[g]? = some (.cells (vfs (grid c R' r)) 5 (0, 0))) := holds_at hA3 0 rfl
  have HM : Hid _ := hm
  have HO : Hid _ := (own_below H1.out hb3).alloc (.cells #[.int .i64 r, .int .i64 c, .slice (some ⟨g, 0, none⟩) m m] 73)
  clear hm hh hb3 hA3 k1 c1
  go_wp2
  refine bodyPost_ret (v := .tuple #[.agg #[.int .i64 r, .int .i64 c, .slice (some ⟨g, 0, none⟩) m m], .slice av p.length cv, .nilIface]) (by simp [results, Tryz.results201, go_sem, c4, c5, c6]) rfl ⟨g, m, av, cv, p, R', rfl, HM.out, by omega, ?_, ?_, H3.out, ?_, ?_, ?_⟩
  · rw [heap_setCell_other _ _ _ _ (by show g ≠ w.heap.size + 1; omega), heap_setCell_other _ _ _ _ (by show g ≠ w.heap.size + 1; omega), heap_setCell_other _ _ _ _ (by show g ≠ w.heap.size + 1; omega)]
    exact HH.out
  · refine own_lower (ownsRow_setCell_below (ownsRow_setCell_below (ownsRow_setCell_below HO.out ?_ _) ?_ _) ?_ _) ?_ <;> simp; omega
  · exact RowsIn.congr_right H4.out fun i hi j hj => by simp [cellF, augL, hj]
  · exact RowsIn.congr_left H5.out fun i hi j hj => by simp [cellF, augL, hj]
  · exact ((HW3.out.setCell (by simp) _).setCell (by simp) _).setCell (by simp) _
set_option maxHeartbeats 2000000 in
theorem reduce_bad (r c : Int) (l cap : Nat) (a : Option Addr) (w : World) (s : Addr) (hs : w.cell? ⟨4, 0, none⟩ = some (errAt s)) (h : ¬ FormOk r c l) :
    Calls Tryz.prog 201 #[.agg #[.int .i64 r, .int .i64 c, .slice a l cap]] w fun e w' => e = .returned (.tuple #[.agg #[.int .i64 0, .int .i64 0, .slice none 0 0], .slice none 0 0, errAt s]) ∧ Below w.heap.size w w' := by
  have H : Hid _ := h
  clear h
  have HS : Hid _ := cell?_alloc_old (.cells #[.int .i64 0, .int .i64 0, .slice none 0 0] 73) (cell?_alloc_old (.cells #[.int .i64 r, .int .i64 c, .slice a l cap] 73) hs)
  clear hs
  go_enter Tryz.func201, Tryz.ntmps201
  go_wp2_with fail
  refine Calls.mono (eliminated_bad r c r 0 l cap 0 0 a none _ s HS.out H.out) ?_
  rintro e w2 ⟨rfl, hb2⟩
  have hal := (((Below.refl w.heap.size w).alloc (Nat.le_refl _) (.cells #[.int .i64 r, .int .i64 c, .slice a l cap] 73)).alloc (by simp) (.cells #[.int .i64 0, .int .i64 0, .slice none 0 0] 73))
  have hA := holds_later (holds_new (holds_new (holds_nil w) #[.int .i64 r, .int .i64 c, .slice a l cap] 73) #[.int .i64 0, .int .i64 0, .slice none 0 0] 73) hb2
  rw [World.size_alloc] at hA
  have HW2 : Hid (Below w.heap.size w w2) := hal.trans (hb2.mono (by simp; omega))
  have k1 := holds_at hA 0 rfl
  have c4 := cellAt k1 0 _ rfl
  have c5 := cellAt k1 1 _ rfl
  have c6 := cellAt k1 2 _ rfl
  have d4 : w2.frozen? ⟨w.heap.size + 1, 0, none⟩ = false := frozen_of_row _ _ _ _ _ k1
  have d5 : w2.frozen? ⟨w.heap.size + 1, 1, none⟩ = false := frozen_of_row _ _ _ _ _ k1
  have d6 : w2.frozen? ⟨w.heap.size + 1, 2, none⟩ = false := frozen_of_row _ _ _ _ _ k1
  unfold errAt at *
  clear hA k1 hb2 hal
  go_wp2
  refine bodyPost_ret (v := .tuple #[.agg #[.int .i64 0, .int .i64 0, .slice none 0 0], .slice none 0 0, .iface 191 (.pointer (some s))]) (by simp [results, Tryz.results201, go_sem, c4, c5, c6]) rfl ⟨rfl, ?_⟩
  exact ((HW2.out.setCell (by simp) _).setCell (by simp) _).setCell (by simp) _
/-- the rank, as the program tells it -/
theorem rank_F (r c l cap : Nat) (a : Option Addr) (xs : List F) (w : World) (hr : r ≤ 64) (hc : c ≤ 64) (hl : l = r * c) (hx : xs.length = r * c) (hcap : l ≤ cap) (hX : Row8 w a xs) (hnil : a = none → cap = 0) :
    Calls Tryz.prog 198 #[.agg #[.int .i64 r, .int .i64 c, .slice a l cap]] w fun e w' => e = .returned (.tuple #[.int .i64 (pivL (cellF c xs) r c).length, .nilIface]) ∧ Below w.heap.size w w' := by
  have HL : Hid _ := hl
  have HX : Hid _ := hx
  have HRX : Hid (Row8 w a xs) := hX
  have HNA : Hid _ := hnil
  clear hl hx hX hnil
  go_enter Tryz.func198, Tryz.ntmps198
  go_wp2_with fail
  refine Calls.mono (reduce_F r c l cap a xs _ hr hc HL.out HX.out hcap (row8_alloc HRX.out _) HNA.out) ?_
  rintro e w2 ⟨g, m, av, cv, p, R', rfl, _, _, _, _, hred, hin, hback, hb2⟩
  have hp := hred.eq hin hback (Nat.le_refl _)
  have HP : Hid _ := hp
  have HW2 : Hid (Below w.heap.size w w2) := ((Below.refl w.heap.size w).alloc (Nat.le_refl _) _).trans (hb2.mono (by simp))
  clear hp hred hin hback hb2
  go_wp2
  go_ret2
  exact ⟨by rw [HP.out]; rfl, HW2.out.alloc HW2.out.size _⟩
theorem rank_bad (r c : Int) (l cap : Nat) (a : Option Addr) (w : World) (s : Addr) (hs : w.cell? ⟨4, 0, none⟩ = some (errAt s)) (h : ¬ FormOk r c l) :
    Calls Tryz.prog 198 #[.agg #[.int .i64 r, .int .i64 c, .slice a l cap]] w fun e w' => e = .returned (.tuple #[.int .i64 0, errAt s]) ∧ Below w.heap.size w w' := by
  have H : Hid _ := h
  have HS : Hid _ := cell?_alloc_old (.cells #[.int .i64 r, .int .i64 c, .slice a l cap] 73) hs
  clear h hs
  go_enter Tryz.func198, Tryz.ntmps198
  go_wp2_with fail
  refine Calls.mono (reduce_bad r c l cap a _ s HS.out H.out) ?_
  rintro e w2 ⟨rfl, hb2⟩
  have HW2 : Hid (Below w.heap.size w w2) := ((Below.refl w.heap.size w).alloc (Nat.le_refl _) _).trans (hb2.mono (by simp))
  unfold errAt at *
  clear hb2
  go_wp2
  go_ret2
  exact ⟨rfl, HW2.out.alloc HW2.out.size _⟩
theorem cellF_tr {r c : Nat} {xs : List F} : ∀ i, i < c → ∀ j, j < r → cellF r (trM r c xs) i j = tr (cellF c xs) i j := fun i hi j hj => by
  simp only [cellF, tr, trM]; exact at8_grid hi hj
end Go.Proofs.YtkoakingmnjdoaaGreatDoor

/- What Solve and Express of package solve answer, of all matrices and lists. -/
namespace Go.Proofs.YtkoakingmnjdoaaGreatDoor
open Go.RowKit Gf
set_option linter.unusedVariables false
set_option maxRecDepth 20000
/-- the solution of a reduced matrix, as far as the first k pivots go -/
def solX (c : Nat) (p : List Nat) (R : Mt) (k : Nat) : List F := rowF c (onF (p.getD · 0) (fun i => R i c) k)
theorem solX_len (c : Nat) (p : List Nat) (R : Mt) (k : Nat) : (solX c p R k).length = c := rowF_len _ _
theorem solX_zero (c : Nat) (p : List Nat) (R : Mt) : zeros c = solX c p R 0 := rowF_eq (zeros_len _) fun j _ => at8_zeros _ _
theorem solX_step {c k j : Nat} {p : List Nat} (R : Mt) (hp : p.Pairwise (· < ·)) (hk : p[k]? = some j) (hj : j < c) : (solX c p R k).set j (R k c) = solX c p R (k + 1) := by
  have hkl := (List.getElem?_eq_some_iff.1 hk).1
  have hg : p.getD k 0 = j := by simp [List.getD, hk]
  refine rowF_eq (by rw [List.length_set, solX_len]) fun l hl => ?_
  have h1 : at8 (solX c p R k) l = onF (p.getD · 0) (fun i => R i c) k l := at8_rowF hl
  have h2 : at8 ((solX c p R k).set j (R k c)) l = if l = j then R k c else at8 (solX c p R k) l := by
    simp only [at8, List.getD, List.getElem?_set, solX_len]
    by_cases e : j = l
    · subst e; simp [hl]
    · simp [e, show ¬ l = j from fun h => e h.symm]
  rw [h2, h1]
  simp only [onF, sumF, hg]
  by_cases e : l = j
  · subst e
    rw [if_pos rfl, if_pos rfl, sumF_none, F.zero_add]
    intro i hi
    have hil : i < p.length := by omega
    have := List.pairwise_iff_getElem.1 hp i k hil hkl hi
    have e1 : p[k] = l := by rw [List.getElem?_eq_getElem hkl] at hk; exact Option.some.inj hk
    rw [if_neg]
    simp only [List.getD, List.getElem?_eq_getElem hil, Option.getD_some]
    omega
  · rw [if_neg e, if_neg (fun h => e h.symm), F.add_zero]
theorem natV_at {p : List Nat} {k j : Nat} (h : p[k]? = some j) : (natV p)[k]? = some (.int .i64 j) := by simp [natV, h]
/-- what Solve tells where there is a solution: the only one that is 0 off the pivots -/
structure SolOf (A : Mt) (r c : Nat) (v x : Nat → F) : Prop where
  sol : ∀ i, i < r → v i = sumF (fun l => gm (A i l) (x l)) c
  off : ∀ l, l < c → l ∉ pivL A r c → x l = 0
theorem SolOf.same {A : Mt} {r c : Nat} {v x y : Nat → F} (h : SolOf A r c v x) (k : SolOf A r c v y) : ∀ l, l < c → x l = y l :=
  sols_eq h.off k.off fun i hi => (h.sol i hi).symm.trans (k.sol i hi)
theorem own_nat {w : World} {B cp k j : Nat} {av : Option Addr} {p : List Nat} (ho : w.ownsRow B 3 1 (.slice av p.length cp) p.length (natV p)) (hk : p[k]? = some j) : ∃ g, av = some ⟨g, 0, none⟩ ∧ g < w.heap.size ∧ w.cell? ⟨g, k, none⟩ = some (.int .i64 j) := by
  have hkl := (List.getElem?_eq_some_iff.1 hk).1
  rcases ho.2 with ⟨e, e0⟩ | ⟨g, cap, cur, e, h1, h2, h3⟩
  · omega
  · cases e
    refine ⟨g, rfl, ltHeap h2, ?_⟩
    rw [ho.cellAt k (by omega), natV_at hk]
set_option maxHeartbeats 8000000 in
theorem solve_F (r c l cap lv cv : Nat) (a b : Option Addr) (xs vs : List F) (w : World) (hr : r ≤ 64) (hc : c ≤ 64) (hl : l = r * c) (hx : xs.length = r * c) (hcap : l ≤ cap) (hX : Row8 w a xs) (hnil : a = none → cap = 0)
    (hlv : lv = r) (hv : vs.length = r) (hcv : lv ≤ cv) (hV : Row8 w b vs) (hnb : b = none → cv = 0) :
    Calls Tryz.prog 118 #[.agg #[.int .i64 r, .int .i64 c, .slice a l cap], .slice b lv cv] w fun e w' =>
      (∃ g x, e = .returned (.tuple #[.slice (some ⟨g, 0, none⟩) c c, .bool true, .nilIface]) ∧ w.heap.size ≤ g ∧ w'.heap[g]? = some (.cells (vfs (rowF c x)) 5 (0, 0)) ∧ SolOf (cellF c xs) r c (at8 vs) x ∧ Below w.heap.size w w') ∨
      (e = .returned (.tuple #[.slice none 0 0, .bool false, .nilIface]) ∧ ¬ Dep (cellF c xs) r c (at8 vs) ∧ Below w.heap.size w w') := by
  subst hlv
  have HL : Hid _ := hl
  have HX : Hid _ := hx
  have HV : Hid _ := hv
  have HRX : Hid (Row8 w a xs) := hX
  have HRV : Hid (Row8 w b vs) := hV
  have HNA : Hid _ := hnil
  have HNB : Hid _ := hnb
  clear hl hx hX hnil hv hV hnb
  go_enter Tryz.func118, Tryz.ntmps118
  go_wp2_with fail
  have hal := ((Below.refl w.heap.size w).alloc (Nat.le_refl _) (.cells #[.int .i64 lv, .int .i64 c, .slice a l cap] 73))
  refine Calls.mono (eliminated_F lv c 1 l cap lv cv a b xs vs _ hr hc (by omega) HL.out HX.out hcap (row8_below HRX.out hal) HNA.out (by omega) (by rw [HV.out]; omega) hcv (row8_below HRV.out hal) HNB.out) ?_
  rintro e w2 ⟨M, av, cp, p, f', R', rfl, hM, hown, hrw, hred, hin, hback, hb2⟩
  have hA := holds_later (holds_new (holds_nil w) #[.int .i64 lv, .int .i64 c, .slice a l cap] 73) hb2
  have HW2 : Hid (Below w.heap.size w w2) := hal.trans (hb2.mono (by simp))
  have eA : ∀ i, i < lv → ∀ j, j < c → augL c 1 xs vs i j = cellF c xs i j := fun i hi j hj => by simp [augL, cellF, hj]
  have eV : ∀ i, augL c 1 xs vs i c = at8 vs i := fun i => by simp [augL]
  have hp : p = pivL (cellF c xs) lv c := (hred.eq hin hback (by omega)).trans (pivL_congr eA)
  have hplen := hred.len
  have c1 := cellAt (holds_at hA 0 rfl) 1 _ rfl
  have HA : Hid _ := hA
  have H1 : Hid _ := hown
  have H2 : Hid _ := hrw
  have H3 : Hid _ := hred
  have H4 : Hid _ := hin
  have H5 : Hid _ := hback
  have HP : Hid _ := hp
  have EA : Hid _ := eA
  have EV : Hid _ := eV
  clear hA hown hrw hred hin hback hb2 hp eA eV hal
  have hmk := run_make8 c (by omega)
  by_cases hfull : p.length = lv
  · subst hfull
    have HZ : Hid (∀ i, p.length ≤ i → i < p.length → R' i c = 0) := fun i h1 h2 => by omega
    go_wp2
    go_loopw [33] (fun i wr => i = .int .i64 0 ∧ wr = w2) (fun _ _ => 0)
    case atStart => exact ⟨rfl, rfl⟩
    case round =>
      obtain ⟨rfl, hwr⟩ := hrel
      subst hwr
      have hA3 := holds_alloc HA.out (.cells (vfs (zeros c)) 5)
      have HA3 : Hid _ := hA3
      have HM3 : Hid ((wr.alloc (.cells (vfs (zeros c)) 5)).heap[wr.heap.size]? = some (.cells (vfs (solX c p R' 0)) 5 (0, 0))) := by
        show _ = _
        rw [← solX_zero c p R']; exact heap_alloc_last wr _
      have HW3 : Hid (Below w.heap.size w (wr.alloc (.cells (vfs (zeros c)) 5))) := HW2.out.alloc HW2.out.size _
      have HRW3 : Hid _ := H2.out.below ((Below.refl _ _).alloc (Nat.le_refl _) (.cells (vfs (zeros c)) 5))
      have HO3 : Hid _ := World.ownsRow.alloc H1.out (.cells (vfs (zeros c)) 5)
      have zM := ltHeap H2.out.blk
      have zB := ltHeap (holds_at HA.out 0 rfl)
      have zW := HW2.out.size
      have HGN : Hid (∀ (k j g : Nat), p[k]? = some j → av = some ⟨g, 0, none⟩ → g < wr.heap.size) := fun k j g h e => by
        obtain ⟨g', e', hg', _⟩ := own_nat H1.out h
        rw [e] at e'; cases e'; exact hg'
      have HBN : Hid (∀ (k bo oo mo : Nat), k < p.length → f' k = (some ⟨bo, oo, none⟩, mo) → bo < wr.heap.size) := fun k bo oo mo h e => by
        obtain ⟨bo', oo', mo', e', _, _, h', _, _⟩ := H2.out.get h (show c < c + 1 by omega)
        rw [e] at e'; cases e'; exact h'
      clear hA3
      go_wp2
      clear hmk
      generalize hN : wr.heap.size = N at *
      generalize (wr.alloc (.cells (vfs (zeros c)) 5)) = W3 at *
      clear hN c1
      go_loopw [49] (fun i wr => ∃ k : Nat, k ≤ p.length ∧ i = .int .i64 k ∧ W3.grownBy wr (some N) ∧ wr.heap[N]? = some (.cells (vfs (solX c p R' k)) 5 (0, 0))) (fun i _ => p.length - (intOf i).toNat)
      case atStart => exact ⟨0, by omega, rfl, World.grownBy.refl _ _, HM3.out⟩
      case round =>
        obtain ⟨k, hk, rfl, hgb, hs⟩ := hrel
        have HGB : Hid _ := hgb
        have HS : Hid _ := hs
        by_cases hlt : k < p.length
        · obtain ⟨j, hj⟩ : ∃ j, p[k]? = some j := ⟨_, List.getElem?_eq_getElem hlt⟩
          have hjc := H3.out.lt k j hj
          have HJ : Hid _ := hj
          obtain ⟨g, rfl, hg, c2⟩ := own_nat HO3.out hj
          obtain ⟨bo, oo, mo, hfo, hmo, hboM, hbo, c3, c4⟩ := HRW3.out.get (Nat.lt_of_lt_of_le hlt hplen) (show c < c + 1 by omega)
          have c5 := cellAt (grown_block hgb (holds_at HA3.out 0 rfl) (by omega)) 1 _ rfl
          have hgN : g ≠ N := Nat.ne_of_lt (HGN.out k j g hj rfl)
          have hboN : bo ≠ N := Nat.ne_of_lt (HBN.out k bo oo mo (Nat.lt_of_lt_of_le hlt hplen) hfo)
          have c2' : wr.cell? ⟨g, k, none⟩ = some (.int .i64 j) := by rw [← c2]; simp only [World.cell?, hgb.block g hg (by simpa using hgN)]
          have c3' : wr.cell? ⟨M, k, none⟩ = some (.slice (some ⟨bo, oo, none⟩) (c + 1) mo) := by rw [← c3]; simp only [World.cell?, hgb.block M (ltHeap HRW3.out.blk) (by simp; omega)]
          have c4' : wr.cell? ⟨bo, oo + c, none⟩ = some (.int .u8 ((R' k c).toNat : Int)) := by rw [← c4]; simp only [World.cell?, hgb.block bo hbo (by simpa using hboN)]
          have c6 : wr.cell? ⟨N, j, none⟩ = some (.int .u8 ((at8 (solX c p R' k) j).toNat : Int)) := cellAt hs j _ (vfs_get _ _ (by rw [solX_len]; exact hjc))
          have d6 : wr.frozen? ⟨N, j, none⟩ = false := frozen_of_row _ _ _ _ _ hs
          have HT : Hid _ := solX_step R' H3.out.up hj hjc
          clear hgb hs hj hfo c2 c3 c4 hg
          go_wp2
          go_region
          go_wp2
          refine ⟨⟨k + 1, by omega, by go_num, grownBy_drew (grownBy_setCell HGB.out _), ?_⟩, by simp [intOf]; omega⟩
          show (wr.setCell _ _).heap[N]? = _
          rw [heap_setCell_same _ _ _ _ _ _ HS.out, vfs_set, HT.out]
        · obtain rfl : k = p.length := by omega
          clear hgb hs
          go_wp2
          refine bodyPost_ret (v := .tuple #[.slice (some ⟨N, 0, none⟩) c c, .bool true, .nilIface]) (by simp [results, Tryz.results118, go_sem]) rfl (.inl ⟨N, _, rfl, by omega, HS.out, ⟨fun i hi => ?_, fun l hl hn => ?_⟩, below_grown HW3.out HGB.out (by omega)⟩)
          · have := H3.out.solve H5.out HZ.out i hi
            rw [EV.out] at this
            rw [this]
            exact sumF_congr fun j hj => by rw [EA.out i hi j hj]
          · rw [← HP.out] at hn
            exact onF_off (Nat.le_refl _) hn
  · go_wp2
    go_loopw [33] (fun i wr => ∃ k : Nat, p.length + k ≤ lv ∧ i = .int .i64 k ∧ wr = w2 ∧ ∀ i, p.length ≤ i → i < p.length + k → R' i c = 0) (fun i _ => lv - (intOf i).toNat)
    case atStart => exact ⟨0, by omega, rfl, rfl, fun i h1 h2 => by omega⟩
    case round =>
      obtain ⟨k0, hk0, rfl, hwr, hz⟩ := hrel
      subst hwr
      by_cases hlt0 : p.length + k0 < lv
      · obtain ⟨bo, oo, mo, hfo, hmo, hboM, hbo, c3, c4⟩ := H2.out.get hlt0 (show c < c + 1 by omega)
        have HZ0 : Hid _ := hz
        clear hz hfo
        by_cases hzero : R' (p.length + k0) c = 0
        · rw [hzero] at c4
          go_wp2
          exact ⟨⟨k0 + 1, by omega, by go_num, by first | rfl | trivial, fun i h1 h2 => by
            by_cases e : i = p.length + k0
            · rw [e]; exact hzero
            · exact HZ0.out i h1 (by omega)⟩, by simp [intOf]; omega⟩
        · have hnz : ((R' (p.length + k0) c).toNat : Int) ≠ 0 := by
            intro e; exact hzero (F.val_eq_zero.1 (by omega))
          go_wp2
          refine bodyPost_ret (v := .tuple #[.slice none 0 0, .bool false, .nilIface]) (by simp [results, Tryz.results118, go_sem]) rfl (.inr ⟨rfl, ?_, HW2.out⟩)
          have hno := H3.out.solve_no H4.out (Nat.le_add_right _ _) hlt0 hzero
          intro hd
          obtain ⟨x, hx⟩ := hd
          refine hno ⟨x, fun i hi => ?_⟩
          show augL c 1 xs vs i c = _
          rw [EV.out, hx i hi]
          exact sumF_congr fun j hj => by rw [EA.out i hi j hj]
      · have e0 : p.length + k0 = lv := by omega
        have HZ : Hid (∀ i, p.length ≤ i → i < lv → R' i c = 0) := fun i h1 h2 => hz i h1 (by omega)
        clear hz
        have hA3 := holds_alloc HA.out (.cells (vfs (zeros c)) 5)
        have HA3 : Hid _ := hA3
        have HM3 : Hid ((wr.alloc (.cells (vfs (zeros c)) 5)).heap[wr.heap.size]? = some (.cells (vfs (solX c p R' 0)) 5 (0, 0))) := by
          show _ = _
          rw [← solX_zero c p R']; exact heap_alloc_last wr _
        have HW3 : Hid (Below w.heap.size w (wr.alloc (.cells (vfs (zeros c)) 5))) := HW2.out.alloc HW2.out.size _
        have HRW3 : Hid _ := H2.out.below ((Below.refl _ _).alloc (Nat.le_refl _) (.cells (vfs (zeros c)) 5))
        have HO3 : Hid _ := World.ownsRow.alloc H1.out (.cells (vfs (zeros c)) 5)
        have zM := ltHeap H2.out.blk
        have zB := ltHeap (holds_at HA.out 0 rfl)
        have zW := HW2.out.size
        have HGN : Hid (∀ (k j g : Nat), p[k]? = some j → av = some ⟨g, 0, none⟩ → g < wr.heap.size) := fun k j g h e => by
          obtain ⟨g', e', hg', _⟩ := own_nat H1.out h
          rw [e] at e'; cases e'; exact hg'
        have HBN : Hid (∀ (k bo oo mo : Nat), k < lv → f' k = (some ⟨bo, oo, none⟩, mo) → bo < wr.heap.size) := fun k bo oo mo h e => by
          obtain ⟨bo', oo', mo', e', _, _, h', _, _⟩ := H2.out.get h (show c < c + 1 by omega)
          rw [e] at e'; cases e'; exact h'
        clear hA3
        go_wp2
        clear hmk
        generalize hN : wr.heap.size = N at *
        generalize (wr.alloc (.cells (vfs (zeros c)) 5)) = W3 at *
        clear hN c1
        go_loopw [49] (fun i wr => ∃ k : Nat, k ≤ p.length ∧ i = .int .i64 k ∧ W3.grownBy wr (some N) ∧ wr.heap[N]? = some (.cells (vfs (solX c p R' k)) 5 (0, 0))) (fun i _ => p.length - (intOf i).toNat)
        case atStart => exact ⟨0, by omega, rfl, World.grownBy.refl _ _, HM3.out⟩
        case round =>
          obtain ⟨k, hk, rfl, hgb, hs⟩ := hrel
          have HGB : Hid _ := hgb
          have HS : Hid _ := hs
          by_cases hlt : k < p.length
          · obtain ⟨j, hj⟩ : ∃ j, p[k]? = some j := ⟨_, List.getElem?_eq_getElem hlt⟩
            have hjc := H3.out.lt k j hj
            have HJ : Hid _ := hj
            obtain ⟨g, rfl, hg, c2⟩ := own_nat HO3.out hj
            obtain ⟨bo, oo, mo, hfo, hmo, hboM, hbo, c3, c4⟩ := HRW3.out.get (Nat.lt_of_lt_of_le hlt hplen) (show c < c + 1 by omega)
            have c5 := cellAt (grown_block hgb (holds_at HA3.out 0 rfl) (by omega)) 1 _ rfl
            have hgN : g ≠ N := Nat.ne_of_lt (HGN.out k j g hj rfl)
            have hboN : bo ≠ N := Nat.ne_of_lt (HBN.out k bo oo mo (Nat.lt_of_lt_of_le hlt hplen) hfo)
            have c2' : wr.cell? ⟨g, k, none⟩ = some (.int .i64 j) := by rw [← c2]; simp only [World.cell?, hgb.block g hg (by simpa using hgN)]
            have c3' : wr.cell? ⟨M, k, none⟩ = some (.slice (some ⟨bo, oo, none⟩) (c + 1) mo) := by rw [← c3]; simp only [World.cell?, hgb.block M (ltHeap HRW3.out.blk) (by simp; omega)]
            have c4' : wr.cell? ⟨bo, oo + c, none⟩ = some (.int .u8 ((R' k c).toNat : Int)) := by rw [← c4]; simp only [World.cell?, hgb.block bo hbo (by simpa using hboN)]
            have c6 : wr.cell? ⟨N, j, none⟩ = some (.int .u8 ((at8 (solX c p R' k) j).toNat : Int)) := cellAt hs j _ (vfs_get _ _ (by rw [solX_len]; exact hjc))
            have d6 : wr.frozen? ⟨N, j, none⟩ = false := frozen_of_row _ _ _ _ _ hs
            have HT : Hid _ := solX_step R' H3.out.up hj hjc
            clear hgb hs hj hfo c2 c3 c4 hg
            go_wp2
            go_region
            go_wp2
            refine ⟨⟨k + 1, by omega, by go_num, grownBy_drew (grownBy_setCell HGB.out _), ?_⟩, by simp [intOf]; omega⟩
            show (wr.setCell _ _).heap[N]? = _
            rw [heap_setCell_same _ _ _ _ _ _ HS.out, vfs_set, HT.out]
          · obtain rfl : k = p.length := by omega
            clear hgb hs
            go_wp2
            refine bodyPost_ret (v := .tuple #[.slice (some ⟨N, 0, none⟩) c c, .bool true, .nilIface]) (by simp [results, Tryz.results118, go_sem]) rfl (.inl ⟨N, _, rfl, by omega, HS.out, ⟨fun i hi => ?_, fun l hl hn => ?_⟩, below_grown HW3.out HGB.out (by omega)⟩)
            · have := H3.out.solve H5.out HZ.out i hi
              rw [EV.out] at this
              rw [this]
              exact sumF_congr fun j hj => by rw [EA.out i hi j hj]
            · rw [← HP.out] at hn
              exact onF_off (Nat.le_refl _) hn
end Go.Proofs.YtkoakingmnjdoaaGreatDoor

/- Plain algebra of stage 11: the program that sums up sources, what it makes, that it is in form; which halves determine which; no program of Go is spoken of. -/
namespace Go.Proofs.YtkoakingmnjdoaaGreatDoor
open Go.RowKit Gf
set_option linter.unusedVariables false
set_option maxRecDepth 20000
/-- the steps that add a source, which stands in register h, onto the first n outputs that it is in -/
def addsP (c : Nat → F) (h : Int) : Nat → List Stp
  | 0 => []
  | n + 1 => addsP c h n ++ (if c n = 0 then [] else [⟨4, (n : Int), h, c n⟩])
/-- how many of the first sources are in an output -/
def cntP (C : Mt) (no : Nat) : Nat → Nat
  | 0 => 0
  | s + 1 => cntP C no s + (if addsP (fun o => C o s) no no = [] then 0 else 1)
def stpP (C : Mt) (no : Nat) : Nat → List Stp
  | 0 => []
  | s + 1 => stpP C no s ++ (if addsP (fun o => C o s) no no = [] then [] else ⟨1, (no : Int), (cntP C no s : Int), 0⟩ :: addsP (fun o => C o s) no no)
def insP (C : Mt) (no : Nat) (L : List Nat) : Nat → List Nat
  | 0 => []
  | s + 1 => insP C no L s ++ (if addsP (fun o => C o s) no no = [] then [] else [L.getD s 0])
def outsP : Nat → List Stp
  | 0 => []
  | o + 1 => outsP o ++ [⟨5, (o : Int), (o : Int), 0⟩]
def prgP (C : Mt) (no ns : Nat) : List Stp := stpP C no ns ++ outsP no
theorem addsP_op {c : Nat → F} {h : Int} : ∀ {n : Nat} {s : Stp}, s ∈ addsP c h n → s.op = 4 ∧ (0 ≤ s.dst ∧ s.dst < n) ∧ s.src = h
  | 0, s, hs => by cases hs
  | n + 1, s, hs => by
    rw [addsP, List.mem_append] at hs
    rcases hs with hs | hs
    · obtain ⟨h1, ⟨h2, h3⟩, h4⟩ := addsP_op hs
      exact ⟨h1, ⟨h2, by omega⟩, h4⟩
    · split at hs
      · cases hs
      · rw [List.mem_singleton] at hs
        subst hs
        exact ⟨rfl, ⟨by simp, by simp; omega⟩, rfl⟩
theorem addsP_nil {c : Nat → F} {h : Int} : ∀ {n : Nat}, addsP c h n = [] ↔ ∀ o, o < n → c o = 0
  | 0 => by simp [addsP]
  | n + 1 => by
    rw [addsP, List.append_eq_nil_iff, addsP_nil]
    constructor
    · rintro ⟨h1, h2⟩ o ho
      by_cases e : o = n
      · subst e
        by_cases h3 : c o = 0
        · exact h3
        · rw [if_neg h3] at h2; cases h2
      · exact h1 o (by omega)
    · intro hc
      exact ⟨fun o ho => hc o (by omega), by rw [if_pos (hc n (by omega))]⟩
theorem addsP_len {c : Nat → F} {h : Int} : ∀ n : Nat, (addsP c h n).length ≤ n
  | 0 => Nat.le_refl _
  | n + 1 => by
    have := addsP_len (c := c) (h := h) n
    rw [addsP, List.length_append]
    split <;> simp <;> omega
theorem runO_quiet {X : Int → Nat → F} : ∀ {l : List Stp} {R O : Regs}, (∀ s ∈ l, s.op ≠ 5) → runO X l R O = O
  | [], R, O, _ => rfl
  | s :: l, R, O, h => by
    rw [runO, runO_quiet fun t ht => h t (List.mem_cons_of_mem _ ht)]
    unfold doO
    rw [if_neg (h s (List.mem_cons_self ..))]
theorem run_adds {X : Int → Nat → F} {c : Nat → F} {h : Int} {R : Regs} : ∀ {n : Nat}, (n : Int) ≤ h →
    (∀ o : Nat, o < n → runR X (addsP c h n) R (o : Int) = fun b => ga (R (o : Int) b) (gm (c o) (R h b))) ∧ (∀ r : Int, (∀ o : Nat, o < n → r ≠ (o : Int)) → runR X (addsP c h n) R r = R r)
  | 0, _ => ⟨fun o ho => absurd ho (Nat.not_lt_zero _), fun r _ => rfl⟩
  | n + 1, hn => by
    obtain ⟨i1, i2⟩ := run_adds (X := X) (c := c) (h := h) (R := R) (n := n) (by omega)
    have ih : runR X (addsP c h n) R h = R h := i2 h (fun o ho => by omega)
    rw [addsP, runR_app]
    by_cases h0 : c n = 0
    · rw [if_pos h0]
      refine ⟨fun o ho => ?_, fun r hr => ?_⟩
      · by_cases e : o = n
        · subst e
          rw [show runR X [] (runR X (addsP c h o) R) = runR X (addsP c h o) R from rfl, i2 _ (fun p hp => by omega), h0]
          funext b
          rw [F.zero_mul, F.add_zero]
        · exact i1 o (by omega)
      · exact i2 r (fun o ho => hr o (by omega))
    · rw [if_neg h0]
      have e1 : runR X [⟨4, (n : Int), h, c n⟩] (runR X (addsP c h n) R) = setR (runR X (addsP c h n) R) (n : Int) (fun b => ga (R (n : Int) b) (gm (c n) (R h b))) := by
        have := i2 (n : Int) (fun p hp => by omega)
        show doR X ⟨4, (n : Int), h, c n⟩ (runR X (addsP c h n) R) = _
        rw [doR_4 rfl]
        show setR _ (n : Int) (fun b => ga (runR X (addsP c h n) R (n : Int) b) (gm (c n) (runR X (addsP c h n) R h b))) = _
        rw [ih, this]
      rw [e1]
      refine ⟨fun o ho => ?_, fun r hr => ?_⟩
      · by_cases e : o = n
        · subst e; rw [setR_same]
        · rw [setR_other (by omega)]; exact i1 o (by omega)
      · rw [setR_other (hr n (by omega))]; exact i2 r (fun o ho => hr o (by omega))
/-- what stands in the outputs' registers behind the steps of the first sources -/
theorem run_stpP {X : Int → Nat → F} {C : Mt} {no : Nat} {Y : Mt} {b : Nat} : ∀ {s : Nat}, (∀ t, t < s → addsP (fun o => C o t) no no ≠ [] → X (cntP C no t : Int) b = Y t b) → ∀ o, o < no → runR X (stpP C no s) noR (o : Int) b = sumF (fun t => gm (C o t) (Y t b)) s
  | 0, _, o, _ => rfl
  | s + 1, h, o, ho => by
    have ih := run_stpP (s := s) (fun t ht => h t (by omega)) o ho
    rw [stpP, runR_app]
    by_cases h0 : addsP (fun o => C o s) no no = []
    · rw [if_pos h0]
      have hc := addsP_nil.1 h0 o ho
      show runR X (stpP C no s) noR (o : Int) b = _
      rw [ih, sumF, hc, F.zero_mul, F.add_zero]
    · rw [if_neg h0]
      have hx := h s (by omega) h0
      rw [runR]
      have e1 : doR X ⟨1, (no : Int), (cntP C no s : Int), 0⟩ (runR X (stpP C no s) noR) = setR (runR X (stpP C no s) noR) (no : Int) (X (cntP C no s : Int)) := doR_1 rfl
      rw [e1, (run_adds (Int.le_refl _)).1 o ho]
      show ga _ _ = _
      rw [setR_other (by omega), setR_same, ih, hx, sumF]
theorem stpP_op {C : Mt} {no : Nat} : ∀ {s : Nat} {t : Stp}, t ∈ stpP C no s → (t.op = 1 ∧ t.dst = no ∧ (0 ≤ t.src ∧ t.src < cntP C no s) ∧ t.c = 0) ∨ (t.op = 4 ∧ (0 ≤ t.dst ∧ t.dst < no) ∧ t.src = no)
  | 0, t, ht => by cases ht
  | s + 1, t, ht => by
    rw [stpP, List.mem_append] at ht
    rcases ht with ht | ht
    · rcases stpP_op ht with ⟨h1, h2, ⟨h3, h4⟩, h5⟩ | h1
      · refine .inl ⟨h1, h2, ⟨h3, ?_⟩, h5⟩
        rw [cntP]; omega
      · exact .inr h1
    · split at ht
      · cases ht
      · rename_i h0
        rcases List.mem_cons.1 ht with rfl | ht
        · refine .inl ⟨rfl, rfl, ⟨by simp, ?_⟩, rfl⟩
          rw [cntP, if_neg h0]; simp; omega
        · exact .inr (addsP_op ht)
theorem run_outsP {X : Int → Nat → F} : ∀ {n : Nat} {R O : Regs}, (∀ d : Nat, d < n → runO X (outsP n) R O (d : Int) = R (d : Int)) ∧ runR X (outsP n) R = R
  | 0, R, O => ⟨fun d hd => absurd hd (Nat.not_lt_zero _), rfl⟩
  | n + 1, R, O => by
    obtain ⟨h1, h2⟩ := run_outsP (X := X) (n := n) (R := R) (O := O)
    rw [outsP, runO_app, runR_app, h2]
    have e1 : doR X ⟨5, (n : Int), (n : Int), 0⟩ R = R := doR_n (show (5 : Int) ≠ 1 by decide) (show (5 : Int) ≠ 2 by decide) (show (5 : Int) ≠ 3 by decide) (show (5 : Int) ≠ 4 by decide)
    refine ⟨fun d hd => ?_, e1⟩
    show setR (runO X (outsP n) R O) (n : Int) (R (n : Int)) (d : Int) = _
    by_cases e : d = n
    · subst e; rw [setR_same]
    · rw [setR_other (by omega)]; exact h1 d (by omega)
/-- what the program makes -/
theorem run_prgP {X : Int → Nat → F} {C : Mt} {no ns : Nat} {Y : Mt} {b : Nat} (h : ∀ t, t < ns → addsP (fun o => C o t) no no ≠ [] → X (cntP C no t : Int) b = Y t b) {o : Nat} (ho : o < no) : runO X (prgP C no ns) noR noR (o : Int) b = sumF (fun t => gm (C o t) (Y t b)) ns := by
  rw [prgP, runO_app, run_outsP.1 o ho]
  exact run_stpP h o ho
theorem insP_len (C : Mt) (no : Nat) (L : List Nat) : ∀ s, (insP C no L s).length = cntP C no s
  | 0 => rfl
  | s + 1 => by
    rw [insP, cntP, List.length_append, insP_len C no L s]
    split <;> rfl
theorem cntP_le (C : Mt) (no : Nat) : ∀ s, cntP C no s ≤ s
  | 0 => Nat.le_refl _
  | s + 1 => by
    have := cntP_le C no s
    rw [cntP]
    split <;> omega
theorem insP_at {C : Mt} {no : Nat} {L : List Nat} : ∀ {s t : Nat}, t < s → addsP (fun o => C o t) no no ≠ [] → (insP C no L s)[cntP C no t]? = some (L.getD t 0)
  | s + 1, t, ht, h => by
    rw [insP]
    by_cases e : t = s
    · subst e
      rw [if_neg h, List.getElem?_append_right (by rw [insP_len]; omega), insP_len, Nat.sub_self]; rfl
    · have ih := insP_at (C := C) (no := no) (L := L) (show t < s by omega) h
      rw [List.getElem?_append_left (List.getElem?_eq_some_iff.1 ih).1]
      exact ih
theorem insP_sub {C : Mt} {no : Nat} {L : List Nat} : ∀ {s : Nat}, s ≤ L.length → (insP C no L s).Sublist (L.take s)
  | 0, _ => by simp [insP]
  | s + 1, h => by
    have ih := insP_sub (C := C) (no := no) (L := L) (s := s) (by omega)
    rw [insP, List.take_succ_eq_append_getElem (show s < L.length by omega)]
    have e : L.getD s 0 = L[s] := by simp [List.getD, show s < L.length by omega]
    rw [e]
    refine List.Sublist.append ih ?_
    split
    · exact List.nil_sublist _
    · exact List.Sublist.refl _
theorem insP_subl {C : Mt} {no : Nat} (L : List Nat) : (insP C no L L.length).Sublist L := by
  have := insP_sub (C := C) (no := no) (L := L) (Nat.le_refl _)
  rwa [List.take_length] at this
theorem stpP_len (C : Mt) (no : Nat) : ∀ s, (stpP C no s).length ≤ s * (no + 1)
  | 0 => Nat.zero_le _
  | s + 1 => by
    have := stpP_len C no s
    have h2 := addsP_len (c := fun o => C o s) (h := (no : Int)) no
    rw [stpP, List.length_append, Nat.succ_mul]
    split
    · simp; omega
    · simp; omega
theorem outsP_len : ∀ n, (outsP n).length = n
  | 0 => rfl
  | n + 1 => by rw [outsP, List.length_append, outsP_len n]; rfl
theorem outsP_op : ∀ {n : Nat} {s : Stp}, s ∈ outsP n → s.op = 5 ∧ (0 ≤ s.dst ∧ s.dst < n) ∧ s.src = s.dst ∧ s.c = 0
  | 0, s, h => by cases h
  | n + 1, s, h => by
    rw [outsP, List.mem_append] at h
    rcases h with h | h
    · obtain ⟨h1, ⟨h2, h3⟩, h4⟩ := outsP_op h
      exact ⟨h1, ⟨h2, by omega⟩, h4⟩
    · rw [List.mem_singleton] at h
      subst h
      exact ⟨rfl, ⟨by simp, by simp; omega⟩, rfl, rfl⟩
theorem cntO_outsP (d : Nat) : ∀ n, cntO (outsP n) d = if d < n then 1 else 0
  | 0 => by simp [outsP, cntO]
  | n + 1 => by
    have ih := cntO_outsP d n
    unfold cntO at ih ⊢
    rw [outsP, List.countP_append, ih]
    by_cases e : d = n
    · subst e; simp
    · have e2 : ¬ (n : Int) = (d : Int) := by omega
      by_cases h : d < n
      · simp [h, e2, show d < n + 1 by omega]
      · simp [h, e2, show ¬ d < n + 1 by omega]
theorem cntO_quiet {l : List Stp} {d : Nat} (h : ∀ s ∈ l, s.op ≠ 5) : cntO l d = 0 := by
  unfold cntO
  rw [List.countP_eq_zero]
  intro s hs
  have := h s hs
  simp [this]
theorem pairJ {ns : List Nat} (h1 : ns.Pairwise (· < ·)) (h2 : ∀ x ∈ ns, x < 32) : GoodH 32 (natJ8 ns) := goodH_of h1 h2
/-- the program is in form -/
theorem prgP_form {C : Mt} {L W : List Nat} (hL : L.Pairwise (· < ·)) (hL2 : ∀ x ∈ L, x < 32) (hW : W.Pairwise (· < ·)) (hW2 : ∀ x ∈ W, x < 32) :
    InF (natJ8 (insP C W.length L L.length)) (natJ8 W) ((W.length : Int) + 1) (prgP C W.length L.length) := by
  have hs := insP_subl (C := C) (no := W.length) L
  have l1 := pair_len hL hL2
  have l2 := pair_len hW hW2
  refine ⟨goodH_of (hL.sublist hs) fun x hx => hL2 x (hs.subset hx), goodH_of hW hW2, by omega, ?_, fun s hs => ?_, fun d hd => ?_⟩
  · have h1 := stpP_len C W.length L.length
    have h2 := outsP_len W.length
    rw [prgP, List.length_append, h2]
    have h3 : L.length * (W.length + 1) ≤ 32 * 33 := Nat.mul_le_mul l1 (by omega)
    omega
  · rw [natJ8_len, natJ8_len, insP_len]
    unfold OkS
    rcases List.mem_append.1 hs with hs | hs
    · rcases stpP_op hs with ⟨a1, a2, ⟨a3, a4⟩, a5⟩ | ⟨a1, ⟨a2, a3⟩, a4⟩
      · refine .inl ⟨a1, by omega, by omega, by rw [a5]; rfl⟩
      · refine .inr (.inr (.inr (.inl ⟨a1, by omega, by omega⟩)))
    · obtain ⟨a1, ⟨a2, a3⟩, a4, a5⟩ := outsP_op hs
      exact .inr (.inr (.inr (.inr ⟨a1, by omega, by omega, by rw [a5]; rfl⟩)))
  · rw [natJ8_len] at hd
    have e := cntO_outsP d W.length
    rw [if_pos hd] at e
    have q : cntO (stpP C W.length L.length) d = 0 := cntO_quiet fun s hs h5 => by
      rcases stpP_op hs with ⟨a1, _⟩ | ⟨a1, _⟩ <;> omega
    unfold cntO at e q ⊢
    rw [prgP, List.countP_append, e, q]
/-- what is in no output isn't read -/
theorem cntP_off {C : Mt} {no : Nat} {P : List Nat} (h : ∀ o, o < no → ∀ t, t ∉ P → C o t = 0) : ∀ s, cntP C no s ≤ (P.filter fun t => decide (t < s)).length
  | 0 => Nat.zero_le _
  | s + 1 => by
    have ih := cntP_off h s
    rw [cntP]
    by_cases h0 : addsP (fun o => C o s) no no = []
    · rw [if_pos h0]
      refine Nat.le_trans ih ?_
      rw [← List.countP_eq_length_filter, ← List.countP_eq_length_filter]
      exact List.countP_mono_left fun x _ hx => by simp at hx ⊢; omega
    · rw [if_neg h0]
      have hm : s ∈ P := by
        by_cases hm : s ∈ P
        · exact hm
        · exact absurd (addsP_nil.2 fun o ho => h o ho s hm) h0
      rw [← List.countP_eq_length_filter] at ih ⊢
      have hlt : P.countP (fun t => decide (t < s)) + 1 ≤ P.countP (fun t => decide (t < s + 1)) := by
        clear ih h h0
        induction P with
        | nil => cases hm
        | cons x P ihp =>
          rw [List.countP_cons, List.countP_cons]
          by_cases e : s ∈ P
          · have := ihp e
            by_cases hx : x < s
            · simp [hx, show x < s + 1 by omega]; omega
            · by_cases hx2 : x < s + 1 <;> simp [hx, hx2] <;> omega
          · rcases List.mem_cons.1 hm with rfl | hm
            · have := List.countP_mono_left (l := P) (p := fun t => decide (t < s)) (q := fun t => decide (t < s + 1)) fun y _ hy => by simp at hy ⊢; omega
              simp; omega
            · exact absurd hm e
      omega
theorem cntP_most {C : Mt} {no : Nat} {P : List Nat} (h : ∀ o, o < no → ∀ t, t ∉ P → C o t = 0) (s : Nat) : cntP C no s ≤ P.length := Nat.le_trans (cntP_off h s) (List.length_filter_le _ _)
theorem cntP_none (C : Mt) : ∀ s, cntP C 0 s = 0
  | 0 => rfl
  | s + 1 => by rw [cntP, cntP_none C s]; rfl
/-- what every null vector of some rows is null of is a combination of them -/
theorem dep_dual {A : Mt} {n c : Nat} {b : Nat → F} (h : ∀ v : Nat → F, (∀ i, i < n → sumF (fun j => gm (A i j) (v j)) c = 0) → sumF (fun j => gm (b j) (v j)) c = 0) : Dep (tr A) c n b := by
  obtain ⟨R, hR, h1, h2⟩ := red_ex A n c
  obtain ⟨p, hp⟩ : ∃ p, p = pivL A n c := ⟨_, rfl⟩
  rw [← hp] at hR
  have hpc : ∀ k, k < p.length → p.getD k 0 < c := fun k hk => by
    have : p.getD k 0 ∈ p := by rw [List.getD, List.getElem?_eq_getElem hk]; exact List.getElem_mem hk
    rw [hp] at this
    exact (mem_pivL.1 (by rw [← hp]; rw [← hp] at this; exact this) ).1
  have hb : ∀ j, j < c → b j = sumF (fun k => gm (b (p.getD k 0)) (R k j)) p.length := fun j hj => by
    have h3 := h (nullJ R p j) (RowsIn.null h2 (fun i hi => hR.nulls hj i hi))
    rw [sum_nullJ b R hj hpc] at h3
    exact F.add_eq_zero.1 h3
  have hpn : p.length ≤ n := hR.1
  -- b is a combination of the rows of R, these of A
  have hB : RowsIn (fun _ => b) 1 R n c := fun i _ => ⟨fun k => if k < p.length then b (p.getD k 0) else 0, fun j hj => by
    show b j = _
    rw [hb j hj, sumF_short hpn (f := fun k => gm (if k < p.length then b (p.getD k 0) else 0) (R k j)) fun l hl _ => by rw [if_neg (by omega), F.zero_mul]]
    exact sumF_congr fun k hk => by rw [if_pos hk]⟩
  obtain ⟨e, he⟩ := (hB.trans h1) 0 (by decide)
  exact ⟨e, fun j hj => (he j hj).trans (sumF_congr fun l _ => F.mul_comm _ _)⟩
end Go.Proofs.YtkoakingmnjdoaaGreatDoor

/- Which halves make one lost data shard, and that what is left makes all where a stripe is not gone; no program of Go is spoken of. -/
namespace Go.Proofs.YtkoakingmnjdoaaGreatDoor
open Go.RowKit Gf
set_option linter.unusedVariables false
set_option maxRecDepth 20000
/-- of all vectors that these rows make 0, this row makes 0 -/
def NullsIn (k : Nat) (car : Nat → Nat) (L : List Nat) (h : Nat) : Prop := ∀ v : Nat → F, (∀ x ∈ L, sumF (fun j => gm (halfF k car x j) (v j)) (2 * k) = 0) → sumF (fun j => gm (halfF k car h j) (v j)) (2 * k) = 0
theorem nulls_dep {k : Nat} {car : Nat → Nat} {L : List Nat} {h : Nat} (hn : NullsIn k car L h) : Dep (tr fun i j => halfF k car (L.getD i 0) j) (2 * k) L.length (halfF k car h) :=
  dep_dual fun v hv => hn v fun x hx => by
    obtain ⟨i, hi, rfl⟩ := mem_getD hx
    exact hv i hi
theorem odd_row2 {k s : Nat} {car : Nat → Nat} (v : Nat → F) : sumF (fun j => gm (halfF k car (2 * s + 1) j) (v j)) (2 * k) = ga (sumF (fun j => gm (genF k s j) (v (2 * j + 1))) k) (sumF (fun j => if k ≤ s ∧ car j = s - k then v (2 * j) else 0) k) := by
  rw [sumF_two, ← sumF_add]
  refine sumF_congr fun j hj => ?_
  have h1 : halfF k car (2 * s + 1) (2 * j + 1) = genF k s j := by
    simp only [halfF]
    rw [if_pos (by omega), show (2 * s + 1) / 2 = s by omega, show (2 * j + 1) / 2 = j by omega]
  have h2 : halfF k car (2 * s + 1) (2 * j) = if k ≤ s ∧ car j = s - k then 1 else 0 := by
    simp only [halfF]
    rw [if_neg (by omega), show (2 * s + 1) / 2 = s by omega, show 2 * j / 2 = j by omega]
    by_cases e : k ≤ s ∧ car j = s - k
    · rw [if_pos ⟨by omega, e.1, e.2⟩, if_pos e]
    · rw [if_neg (fun h => e h.2), if_neg e]
  rw [h1, h2, F.add_comm]
  congr 1
  split <;> simp
theorem gen_unit {k s : Nat} (hs : s < k) (v : Nat → F) : sumF (fun j => gm (genF k s j) (v j)) k = v s := by
  rw [sumF_pick _ s k hs (fun l _ hl => by simp only [genF]; rw [if_pos hs, if_neg (fun e => hl e.symm), F.zero_mul])]
  simp only [genF, if_pos hs, if_true, F.one_mul]
/-- the halves of which a data shard s is made over the parity p that carries it among G, in the order in which they are listed -/
def cheapB (k s p : Nat) (G : List Nat) : List Nat := ((List.range (k + 1)).filter fun t => !decide (t = s)).map (2 * · + 1) ++ [2 * (k + p) + 1] ++ (G.filter fun t => !decide (t = s)).map (2 * ·)
/-- the same, rising -/
def cheapL (m k s p : Nat) (G : List Nat) : List Nat := (List.range m).filter fun x => decide (x ∈ cheapB k s p G)
theorem mem_cheapB {k s p x : Nat} {G : List Nat} : x ∈ cheapB k s p G ↔ (∃ t, (t < k + 1 ∧ t ≠ s) ∧ 2 * t + 1 = x) ∨ x = 2 * (k + p) + 1 ∨ ∃ t, (t ∈ G ∧ t ≠ s) ∧ 2 * t = x := by
  simp [cheapB]
theorem cheapB_nodup {k s p : Nat} {G : List Nat} (hp : 1 ≤ p) (hG : G.Nodup) : (cheapB k s p G).Nodup := by
  unfold cheapB
  rw [List.nodup_append, List.nodup_append]
  refine ⟨⟨?_, by simp, ?_⟩, ?_, ?_⟩
  · exact List.Pairwise.map _ (fun a b (h : a ≠ b) (e : 2 * a + 1 = 2 * b + 1) => h (by omega)) (List.nodup_range.filter _)
  · intro a ha b hb
    simp at ha hb
    obtain ⟨t, ⟨h1, _⟩, rfl⟩ := ha
    omega
  · exact List.Pairwise.map _ (fun a b (h : a ≠ b) (e : 2 * a = 2 * b) => h (by omega)) (hG.filter _)
  · intro a ha b hb
    simp at ha hb
    obtain ⟨u, _, rfl⟩ := hb
    rcases ha with ⟨t, _, rfl⟩ | rfl <;> omega
theorem filter_ne_len {s : Nat} : ∀ {l : List Nat}, l.Nodup → s ∈ l → (l.filter fun t => !decide (t = s)).length + 1 = l.length
  | [], _, h => by cases h
  | a :: l, hn, h => by
    obtain ⟨h1, h2⟩ := List.nodup_cons.1 hn
    by_cases e : a = s
    · subst e
      have : (l.filter fun t => !decide (t = a)) = l := List.filter_eq_self.2 fun x hx => by
        have : x ≠ a := fun e => h1 (e ▸ hx)
        simp [this]
      simp [this]
    · have hm : s ∈ l := by
        rcases List.mem_cons.1 h with h | h
        · exact absurd h.symm e
        · exact h
      have := filter_ne_len h2 hm
      simp [e]; omega
theorem cheapB_len {k s p : Nat} {G : List Nat} (hs : s < k) (hG : G.Nodup) (hm : s ∈ G) : (cheapB k s p G).length = k + G.length := by
  have h1 := filter_ne_len (List.nodup_range (n := k + 1)) (show s ∈ List.range (k + 1) by simp; omega)
  have h2 := filter_ne_len hG hm
  rw [List.length_range] at h1
  unfold cheapB
  simp only [List.length_append, List.length_map, List.length_cons, List.length_nil]
  omega
theorem cheapL_up (m k s p : Nat) (G : List Nat) : (cheapL m k s p G).Pairwise (· < ·) := List.pairwise_lt_range.filter _
theorem cheapL_perm {m k s p : Nat} {G : List Nat} (hp : 1 ≤ p) (hG : G.Nodup) (hb : ∀ x ∈ cheapB k s p G, x < m) : (cheapL m k s p G).Perm (cheapB k s p G) := by
  refine (List.perm_ext_iff_of_nodup (List.nodup_range.filter _) (cheapB_nodup hp hG)).2 fun x => ?_
  simp only [List.mem_filter, List.mem_range, decide_eq_true_eq]
  exact ⟨fun h => h.2, fun h => ⟨hb x h, h⟩⟩
theorem mem_cheapL {m k s p x : Nat} {G : List Nat} : x ∈ cheapL m k s p G ↔ x < m ∧ x ∈ cheapB k s p G := by simp [cheapL]
theorem carL_mem {k g i x : Nat} : x ∈ carL k g i ↔ x < k ∧ carN g x = i := by simp [carL, pickB]
theorem cheapB_lt {k r s p g : Nat} (hp : p < r) (h2 : 2 ≤ r) : ∀ x ∈ cheapB k s p (carL k g p), x < 2 * (k + r) := fun x hx => by
  rcases mem_cheapB.1 hx with ⟨t, ⟨h1, _⟩, rfl⟩ | rfl | ⟨t, ⟨h1, _⟩, rfl⟩
  · omega
  · omega
  · have := (carL_mem.1 h1).1; omega
theorem cheapB_off {k s p : Nat} {G : List Nat} (hs : s < k) (hp : 1 ≤ p) : ∀ x ∈ cheapB k s p G, x ≠ 2 * s ∧ x ≠ 2 * s + 1 := fun x hx => by
  rcases mem_cheapB.1 hx with ⟨t, ⟨h1, h2⟩, rfl⟩ | rfl | ⟨t, ⟨h1, h2⟩, rfl⟩ <;> omega
/-- both halves of the shard are made of these -/
theorem cheap_nulls {k g s p m h : Nat} {L : List Nat} (hs : s < k) (hk : k < 256) (hc : carN g s = p) (hL : ∀ x, x ∈ L ↔ x ∈ cheapB k s p (carL k g p)) (hh : h = 2 * s ∨ h = 2 * s + 1) : NullsIn k (carN g) L h := by
  intro v hv
  have hp : 1 ≤ p := by rw [← hc]; exact Nat.succ_pos _
  have r1 : ∀ t, t < k + 1 → t ≠ s → sumF (fun j => gm (halfF k (carN g) (2 * t + 1) j) (v j)) (2 * k) = 0 := fun t h1 h2 => hv _ ((hL _).2 (mem_cheapB.2 (.inl ⟨t, ⟨h1, h2⟩, rfl⟩)))
  have r2 := hv _ ((hL _).2 (mem_cheapB.2 (.inr (.inl rfl))))
  have r3 : ∀ t, t < k → t ≠ s → carN g t = p → v (2 * t) = 0 := fun t h1 h2 h3 => by
    have := hv _ ((hL _).2 (mem_cheapB.2 (.inr (.inr ⟨t, ⟨carL_mem.2 ⟨h1, h3⟩, h2⟩, rfl⟩))))
    rw [even_row, gen_unit h1 (fun j => v (2 * j))] at this
    exact this
  have hodd : ∀ j, j < k → v (2 * j + 1) = 0 := by
    refine gen_any (S := (List.range (k + 1)).filter fun t => !decide (t = s)) (n := k + 1) (List.nodup_range.filter _) ?_ (fun x hx => by simp at hx; omega) (by omega) (fun j => v (2 * j + 1)) fun t ht => ?_
    · have := filter_ne_len (List.nodup_range (n := k + 1)) (show s ∈ List.range (k + 1) by simp; omega)
      rw [List.length_range] at this
      omega
    · simp at ht
      have h9 := r1 t ht.1 ht.2
      rw [odd_row2, sumF_none (f := fun j => if k ≤ t ∧ carN g j = t - k then v (2 * j) else 0) (fun j hj => by rw [if_neg]; rintro ⟨e1, e2⟩; have h7 : 1 ≤ carN g j := Nat.succ_pos _; omega), F.add_zero] at h9
      exact h9
  rcases hh with rfl | rfl
  · rw [even_row, gen_unit hs (fun j => v (2 * j))]
    rw [odd_row2, sumF_none (f := fun j => gm (genF k (k + p) j) (v (2 * j + 1))) (fun j hj => by rw [hodd j hj, F.mul_zero]), F.zero_add,
      sumF_pick _ s k hs (fun l hl hne => by
        by_cases e : carN g l = p
        · rw [r3 l hl hne e]; simp
        · rw [if_neg]; rintro ⟨_, e2⟩; exact e (by omega))] at r2
    rw [if_pos ⟨by omega, by omega⟩] at r2
    exact r2
  · rw [odd_row2, gen_unit hs (fun j => v (2 * j + 1)), hodd s hs, F.zero_add]
    exact sumF_none fun j hj => by rw [if_neg]; rintro ⟨e1, e2⟩; omega
theorem full_null {A : Mt} {n c : Nat} (h : c ≤ (pivL A n c).length) {v : Nat → F} (hv : ∀ i, i < n → sumF (fun j => gm (A i j) (v j)) c = 0) : ∀ j, j < c → v j = 0 := by
  have hr := range_of (pivL_up A n c) (fun x hx => (mem_pivL.1 hx).1) (Nat.le_antisymm (pivL_le A n c) h)
  -- from the last one on
  have key : ∀ d, d ≤ c → ∀ j, c - d ≤ j → j < c → v j = 0 := by
    intro d
    induction d with
    | zero => intro _ j h1 h2; omega
    | succ d ih =>
      intro hd j h1 h2
      by_cases e : c - d ≤ j
      · exact ih (by omega) j e h2
      · have hj : j = c - d - 1 := by omega
        by_cases h0 : v j = 0
        · exact h0
        · exfalso
          have hp : isPiv A n j := (mem_pivL.1 (by rw [hr]; simp; exact h2 : j ∈ pivL A n c)).2
          refine hp ⟨fun l => gm (inv (v j)) (v l), fun i hi => ?_⟩
          have h3 := hv i hi
          rw [sumF_short (show j + 1 ≤ c by omega) (fun l hl1 hl2 => by rw [ih (by omega) l (by omega) hl2, F.mul_zero]), sumF] at h3
          have h4 := F.eq_of_add_eq_zero h3
          have h5 : sumF (fun l => gm (A i l) (gm (inv (v j)) (v l))) j = gm (inv (v j)) (sumF (fun l => gm (A i l) (v l)) j) := by
            rw [sumF_mul_left]; exact sumF_congr fun l _ => by rw [F.mul_left_comm]
          rw [h5, h4, F.mul_left_comm, F.inv_mul h0, F.mul_one]
  exact fun j hj => key c (Nat.le_refl _) j (by omega) hj
/-- what is left of a stripe that is not gone makes every half -/
theorem left_nulls {k n : Nat} {car : Nat → Nat} {ns : List Nat} (hg : goneB k n car ns = false) (h : Nat) : NullsIn k car (leftL n ns) h := by
  intro v hv
  have hr : 2 * k ≤ (pivL (fun i => halfF k car ((leftL n ns).getD i 0)) (leftL n ns).length (2 * k)).length := by
    have := of_decide_eq_false hg
    unfold rankL at this
    omega
  have hz := full_null hr (v := v) fun i hi => hv _ (getD_mem hi)
  exact sumF_none fun j hj => by rw [hz j hj, F.mul_zero]
theorem nulls_mem {k : Nat} {car : Nat → Nat} {L : List Nat} {h : Nat} (hm : h ∈ L) : NullsIn k car L h := fun v hv => hv h hm
end Go.Proofs.YtkoakingmnjdoaaGreatDoor

/- What the program's gathering of what is asked for does at one step. -/
namespace Go.Proofs.YtkoakingmnjdoaaGreatDoor
open Go.RowKit Gf
set_option linter.unusedVariables false
set_option maxRecDepth 20000
set_option linter.unusedSimpArgs false
theorem cell_setCell_other9 (w : World) (p q : Addr) (v : Value) (h : q.block ≠ p.block) : (w.setCell p v).cell? q = w.cell? q := by
  simp only [World.cell?]
  rw [heap_setCell_other _ _ _ _ h]
def askN (A : Int → Bool) : List Bool := (List.range 64).map fun (r : Nat) => A (r : Int)
theorem askN_get {A : Int → Bool} {q : Nat} (h : q < 64) : (askN A)[q]? = some (A q) := by simp [askN, h]
theorem askN_set {A : Int → Bool} {q : Nat} (v : Bool) (h : q < 64) : (askN A).set q v = askN (fun r => if r = q then v else A r) := by
  apply List.ext_getElem?
  intro i
  rw [List.getElem?_set]
  by_cases hi : i < 64
  · rw [askN_get hi]
    by_cases e : q = i
    · subst e; rw [if_pos rfl]; simp [askN, h]
    · have e2 : ¬ (i : Int) = (q : Int) := by omega
      rw [if_neg e, askN_get hi, if_neg e2]
  · have h1 : (askN A).length = 64 := by simp [askN]
    rw [List.getElem?_eq_none (by simp [askN]; omega), List.getElem?_eq_none (by simp [askN]; omega)]
    split
    · rw [if_neg (by rw [h1]; omega)]
    · rfl
end Go.Proofs.YtkoakingmnjdoaaGreatDoor

/- Steps turned round in place, lists of numbers copied. -/
namespace Go.Proofs.YtkoakingmnjdoaaGreatDoor
open Go.RowKit Gf
set_option linter.unusedVariables false
set_option maxRecDepth 20000
set_option linter.unusedSimpArgs false
theorem stpsL_set : ∀ (ys : List Stp) (i : Nat) (s : Stp), ((((stpsL ys).set (i * 4) (.int .i64 s.op)).set (i * 4 + 1) (.int .i64 s.dst)).set (i * 4 + 2) (.int .i64 s.src)).set (i * 4 + 3) (.int .u8 (s.c.toNat : Int)) = if i < ys.length then stpsL (ys.set i s) else stpsL ys
  | [], i, s => by simp [stpsL]
  | y :: ys, 0, s => by simp [stpsL, stpL, vf]
  | y :: ys, i + 1, s => by
    have ih := stpsL_set ys i s
    have e : stpsL (y :: ys) = stpL y ++ stpsL ys := rfl
    have h4 : (stpL y).length = 4 := rfl
    rw [e, List.set_append_right _ _ (by rw [h4]; omega), List.set_append_right _ _ (by rw [h4]; omega), List.set_append_right _ _ (by rw [h4]; omega), List.set_append_right _ _ (by rw [h4]; omega), h4,
      show (i + 1) * 4 - 4 = i * 4 by omega, show (i + 1) * 4 + 1 - 4 = i * 4 + 1 by omega, show (i + 1) * 4 + 2 - 4 = i * 4 + 2 by omega, show (i + 1) * 4 + 3 - 4 = i * 4 + 3 by omega, ih]
    by_cases h : i < ys.length
    · rw [if_pos h, if_pos (by rw [List.length_cons]; omega), List.set_cons_succ]; try rfl
    · rw [if_neg h, if_neg (by rw [List.length_cons]; omega)]; try rfl
def put4 (w : World) (g i : Nat) (s : Stp) : World := (((w.setCell ⟨g, i * 4, none⟩ (.int .i64 s.op)).setCell ⟨g, i * 4 + 1, none⟩ (.int .i64 s.dst)).setCell ⟨g, i * 4 + 2, none⟩ (.int .i64 s.src)).setCell ⟨g, i * 4 + 3, none⟩ (.int .u8 (s.c.toNat : Int))
theorem ownT_put {w : World} {B n g cap i : Nat} {ys : List Stp} (s : Stp) (ho : w.ownsRow B 105 4 (.slice (some ⟨g, 0, none⟩) n cap) n (stpsL ys)) (hi : i < n) : (put4 w g i s).ownsRow B 105 4 (.slice (some ⟨g, 0, none⟩) n cap) n (stpsL (ys.set i s)) := by
  have hl := ho.1
  rw [stpsL_len] at hl
  have hin : i < ys.length := by omega
  refine ⟨by rw [stpsL_len, List.length_set]; omega, ?_⟩
  rcases ho.2 with ⟨e, _⟩ | ⟨g', cap', cur, e, hB, hg, hle, h5, h6, h7⟩
  · cases e
  · cases e
    have h1 : (w.setCell ⟨g, i * 4, none⟩ (.int .i64 s.op)).heap[g]? = some (.cells (cur.setIfInBounds (i * 4) (.int .i64 s.op)) 105 (0, 0)) := heap_setCell_same _ _ _ _ _ _ hg
    have h2 : ((w.setCell ⟨g, i * 4, none⟩ (.int .i64 s.op)).setCell ⟨g, i * 4 + 1, none⟩ (.int .i64 s.dst)).heap[g]? = some (.cells _ 105 (0, 0)) := heap_setCell_same _ _ _ _ _ _ h1
    have h3 : (((w.setCell ⟨g, i * 4, none⟩ (.int .i64 s.op)).setCell ⟨g, i * 4 + 1, none⟩ (.int .i64 s.dst)).setCell ⟨g, i * 4 + 2, none⟩ (.int .i64 s.src)).heap[g]? = some (.cells _ 105 (0, 0)) := heap_setCell_same _ _ _ _ _ _ h2
    have h4 : (put4 w g i s).heap[g]? = some (.cells _ 105 (0, 0)) := heap_setCell_same _ _ _ _ _ _ h3
    refine .inr ⟨g, cap, _, rfl, hB, h4, hle, h5, by simp [h6], ?_⟩
    simp only [Array.toList_setIfInBounds, List.take_set, h7]
    rw [stpsL_set, if_pos hin]
theorem grown_put4 {w W : World} {g : Nat} (h : W.grownBy w (some g)) (i : Nat) (s : Stp) : W.grownBy (put4 w g i s) (some g) := grownBy_setCell (grownBy_setCell (grownBy_setCell (grownBy_setCell h _) _) _) _
/-- the list with k steps at either end turned round -/
def revK (z : Stp) (xs : List Stp) (k : Nat) : List Stp := (List.range xs.length).map fun i => if i < k ∨ xs.length ≤ i + k then xs.getD (xs.length - 1 - i) z else xs.getD i z
theorem revK_len (z : Stp) (xs : List Stp) (k : Nat) : (revK z xs k).length = xs.length := by simp [revK]
theorem revK_get {z : Stp} {xs : List Stp} {k i : Nat} (h : i < xs.length) : (revK z xs k)[i]? = some (if i < k ∨ xs.length ≤ i + k then xs.getD (xs.length - 1 - i) z else xs.getD i z) := by simp [revK, h]
theorem revK_zero (z : Stp) (xs : List Stp) : revK z xs 0 = xs := by
  apply List.ext_getElem?
  intro i
  by_cases h : i < xs.length
  · rw [revK_get h, if_neg (by omega)]; simp [List.getD, h]
  · rw [List.getElem?_eq_none (by rw [revK_len]; omega), List.getElem?_eq_none (by omega)]
theorem revK_step {z : Stp} {xs : List Stp} {k j : Nat} (hk : k < j) (hj : j + 1 + k = xs.length) : ((revK z xs k).set k (xs.getD j z)).set j (xs.getD k z) = revK z xs (k + 1) := by
  apply List.ext_getElem?
  intro i
  rw [List.getElem?_set, List.length_set, revK_len, List.getElem?_set, revK_len]
  by_cases h : i < xs.length
  · rw [revK_get h, revK_get h]
    by_cases e1 : j = i
    · subst e1
      rw [if_pos rfl, if_pos h, if_pos (by omega), show xs.length - 1 - j = k by omega]
    · rw [if_neg e1]
      by_cases e2 : k = i
      · subst e2
        rw [if_pos rfl, if_pos h, if_pos (by omega), show xs.length - 1 - k = j by omega]
      · rw [if_neg e2]
        by_cases e3 : i < k ∨ xs.length ≤ i + k
        · rw [if_pos e3, if_pos (by omega)]
        · rw [if_neg e3, if_neg (by omega)]
  · rw [List.getElem?_eq_none (by rw [revK_len]; omega), List.getElem?_eq_none (by rw [revK_len]; omega)]
    repeat' split
    all_goals first | rfl | omega
theorem revK_done {z : Stp} {xs : List Stp} {k : Nat} (h : xs.length ≤ 2 * k + 1) : revK z xs k = xs.reverse := by
  apply List.ext_getElem?
  intro i
  by_cases hi : i < xs.length
  · rw [revK_get hi, List.getElem?_reverse hi]
    by_cases e : i < k ∨ xs.length ≤ i + k
    · rw [if_pos e]; simp [List.getD, show xs.length - 1 - i < xs.length by omega]
    · rw [if_neg e, show xs.length - 1 - i = i by omega]; simp [List.getD, hi]
  · rw [List.getElem?_eq_none (by rw [revK_len]; omega), List.getElem?_eq_none (by rw [List.length_reverse]; omega)]
theorem ownT_cells {w : World} {B n g cap : Nat} {ys : List Stp} (ho : w.ownsRow B 105 4 (.slice (some ⟨g, 0, none⟩) n cap) n (stpsL ys)) {i : Nat} {s : Stp} (hs : ys[i]? = some s) : w.cell? ⟨g, i * 4, none⟩ = some (.int .i64 s.op) ∧ w.cell? ⟨g, i * 4 + 1, none⟩ = some (.int .i64 s.dst) ∧ w.cell? ⟨g, i * 4 + 2, none⟩ = some (.int .i64 s.src) ∧ w.cell? ⟨g, i * 4 + 3, none⟩ = some (.int .u8 (s.c.toNat : Int)) ∧ (∀ q, w.frozen? ⟨g, q, none⟩ = false) := by
  have hl := ho.1
  rw [stpsL_len] at hl
  have hi : i < ys.length := (List.getElem?_eq_some_iff.1 hs).1
  rcases ho.2 with ⟨e, _⟩ | ⟨g', cap', cur, e, hB, hg, hle, h5, h6, h7⟩
  · cases e
  · cases e
    have H : ∀ q, q < 4 → cur[i * 4 + q]? = (stpL s)[q]? := fun q hq => by
      rw [← Array.getElem?_toList, ← List.getElem?_take_of_lt (show i * 4 + q < n * 4 by omega), h7, stpsL_at ys i q hq, hs]; rfl
    exact ⟨cellAt hg _ _ (H 0 (by omega)), cellAt hg _ _ (H 1 (by omega)), cellAt hg _ _ (H 2 (by omega)), cellAt hg _ _ (H 3 (by omega)), fun q => frozen_of_row _ _ _ _ _ hg⟩
end Go.Proofs.YtkoakingmnjdoaaGreatDoor

/- Lists of numbers and of steps copied behind an empty list of one's own; Clone of the library at numbers. -/
namespace Go.Proofs.YtkoakingmnjdoaaGreatDoor
open Go.RowKit Gf
set_option linter.unusedVariables false
set_option maxRecDepth 20000
set_option linter.unusedSimpArgs false
theorem appendI_zero (w : World) (p : Addr) (a : Option Addr) (ca : Nat) (ty : TypeId) :
    (Builtin.append_ #[22, 22] ty #[.slice (some p) 0 0, .slice a 0 ca]).run Tryz.prog w = .ok (.slice (some p) 0 0) w := by
  obtain ⟨i, hi, h1, h2, h3⟩ := infoI
  cases a <;> simp [Builtin.append_, run_underlying Tryz.underlying22, sizeOf, typeInfo, hi, Builtin.lenOf, Builtin.firstCells, loadCells, loadCellsFrom, storeCells]
theorem appendT_zero (w : World) (p : Addr) (a : Option Addr) (ca : Nat) (ty : TypeId) :
    (Builtin.append_ #[28, 28] ty #[.slice (some p) 0 0, .slice a 0 ca]).run Tryz.prog w = .ok (.slice (some p) 0 0) w := by
  obtain ⟨i, hi, h1, h2, h3⟩ := infoT4
  cases a <;> simp [Builtin.append_, run_underlying Tryz.underlying28, sizeOf, typeInfo, hi, Builtin.lenOf, Builtin.firstCells, loadCells, loadCellsFrom, storeCells]
theorem own_empty {w : World} {g : Nat} {e : TypeId} {size : Nat} (h : w.heap[g]? = some (.cells #[] e (0, 0))) {B : Nat} (hB : B ≤ g) : w.ownsRow B e size (.slice (some ⟨g, 0, none⟩) 0 0) 0 [] :=
  ⟨by simp, .inr ⟨g, 0, _, rfl, hB, h, Nat.le_refl _, Nat.zero_le _, by simp, by simp⟩⟩
/-- numbers copied behind an empty list -/
theorem copyI {w : World} {B g0 l ca : Nat} {a : Option Addr} {xs : List Int} (ty : TypeId) (ho : w.ownsRow B 3 1 (.slice (some ⟨g0, 0, none⟩) 0 0) 0 []) (hl : l = xs.length) (hl9 : l * 8 ≤ 140737488355328) (hx : RowI w a xs) (hB : B ≤ w.heap.size) :
    ∃ g cap w', (Builtin.append_ #[22, 22] ty #[.slice (some ⟨g0, 0, none⟩) 0 0, .slice a l ca]).run Tryz.prog w = .ok (.slice (some ⟨g, 0, none⟩) l cap) w' ∧
      w'.ownsRow B 3 1 (.slice (some ⟨g, 0, none⟩) l cap) l (xs.map (Value.int .i64)) ∧ w.grownBy w' (some g0) ∧ (g = g0 ∨ g = w.heap.size) := by
  by_cases h0 : l = 0
  · subst h0
    obtain rfl : xs = [] := List.eq_nil_of_length_eq_zero hl.symm
    exact ⟨g0, 0, w, appendI_zero _ _ _ _ _, ho, World.grownBy.refl _ _, .inl rfl⟩
  · rcases hx with rfl | ⟨b, off, rfl, hc⟩
    · exact absurd hl h0
    obtain ⟨i, hi, h2, h3, h4⟩ := infoI
    obtain ⟨g, cap, w', h1, h5, h6, h7, h8⟩ := run_append_lies (P := Tryz.prog) w 22 ty B 3 i _ 1 8 Tryz.underlying22 hi h4 h2 h3 rfl (by decide) _ 0 [] ho ⟨b, off, none⟩ l ca (xs.map (Value.int .i64)) (by rw [List.length_map, Nat.mul_one, hl]) (fun j u hu => by
      have ha : (⟨b, off, none⟩ : Addr).add j = ⟨b, off + j, none⟩ := by unfold Addr.add; split <;> simp_all
      rw [ha]
      rw [List.getElem?_map, Option.map_eq_some_iff] at hu
      obtain ⟨x, hx, rfl⟩ := hu
      exact hc j x hx) (fun u hu => by obtain ⟨x, _, rfl⟩ := List.mem_map.1 hu; rfl) (by omega) (by simp only [maxLen]; omega) (by omega) hB _ rfl
    rw [Nat.zero_add] at h1 h5
    rw [List.nil_append] at h5
    refine ⟨g, cap, w', h1, h5, h6, h7.imp (fun e => ?_) id⟩
    exact (Option.some.inj e).symm
theorem copyT {w : World} {B g0 l ca : Nat} {a : Option Addr} {ss : List Stp} (ty : TypeId) (ho : w.ownsRow B 105 4 (.slice (some ⟨g0, 0, none⟩) 0 0) 0 []) (hl : l = ss.length) (hl9 : l * 32 ≤ 140737488355328) (hx : StpW w a ss) (hB : B ≤ w.heap.size) :
    ∃ g cap w', (Builtin.append_ #[28, 28] ty #[.slice (some ⟨g0, 0, none⟩) 0 0, .slice a l ca]).run Tryz.prog w = .ok (.slice (some ⟨g, 0, none⟩) l cap) w' ∧
      w'.ownsRow B 105 4 (.slice (some ⟨g, 0, none⟩) l cap) l (stpsL ss) ∧ w.grownBy w' (some g0) ∧ (g = g0 ∨ g = w.heap.size) := by
  by_cases h0 : l = 0
  · subst h0
    obtain rfl : ss = [] := List.eq_nil_of_length_eq_zero hl.symm
    exact ⟨g0, 0, w, appendT_zero _ _ _ _ _, ho, World.grownBy.refl _ _, .inl rfl⟩
  · obtain ⟨b, off, rfl⟩ : ∃ b off, a = some ⟨b, off, none⟩ := by
      rcases hx with rfl | ⟨b, off, e, _⟩
      · exact absurd hl h0
      · exact ⟨b, off, e⟩
    have h0' : 0 < l := by omega
    have h32 : (0 + l) * 32 ≤ 140737488355328 := by rw [Nat.zero_add]; exact hl9
    obtain ⟨g, cap, w', h1, h5, h6, h7, h8⟩ := appendT (xs := []) (c := ca) ty ho hx hl h0' h32 hB
    rw [Nat.zero_add] at h1 h5
    exact ⟨g, cap, w', h1, h5, h6, h7.imp (fun e => (Option.some.inj e).symm) id⟩
theorem ownI_row {w : World} {B l g cap : Nat} {xs : List Int} (ho : w.ownsRow B 3 1 (.slice (some ⟨g, 0, none⟩) l cap) l (xs.map (Value.int .i64))) : RowI w (some ⟨g, 0, none⟩) xs ∧ l ≤ cap ∧ cap ≤ maxLen := by
  refine ⟨rowI_own ho, ?_⟩
  rcases ho.2 with ⟨e, _⟩ | ⟨g', cap', cur, e, hB, hg, hle, h5, _⟩
  · cases e
  · cases e; exact ⟨hle, h5⟩
theorem ownT_row {w : World} {B l g cap : Nat} {ss : List Stp} (hl : l = ss.length) (ho : w.ownsRow B 105 4 (.slice (some ⟨g, 0, none⟩) l cap) l (stpsL ss)) : StpW w (some ⟨g, 0, none⟩) ss ∧ l ≤ cap ∧ cap ≤ maxLen := by
  obtain ⟨a, c, e, _, _, h⟩ := stpW_own hl ho
  rcases ho.2 with ⟨e2, _⟩ | ⟨g', cap', cur, e2, hB, hg, hle, h5, _⟩
  · cases e2
  · cases e2; cases e; exact ⟨h, hle, h5⟩
theorem ownI_facts {w : World} {B l c : Nat} {a : Option Addr} {xs : List Int} (ho : w.ownsRow B 3 1 (.slice a l c) l (xs.map (Value.int .i64))) : RowI w a xs ∧ l ≤ c ∧ (a = none → c = 0) ∧ l = xs.length ∧ ∀ p, a = some p → p.block < w.heap.size ∧ B ≤ p.block := by
  have hl : l = xs.length := by have := ho.1; rw [List.length_map] at this; omega
  rcases ho.2 with ⟨e, h0⟩ | ⟨g, cap, cur, e, hB, hg, hle, h5, h6, h7⟩
  · cases e
    exact ⟨.inl (List.eq_nil_of_length_eq_zero (by omega)), by omega, fun _ => rfl, hl, fun p e => by cases e⟩
  · cases e
    exact ⟨rowI_own ho, hle, fun e => (by cases e), hl, fun p e => by cases e; exact ⟨ltHeap hg, hB⟩⟩
set_option maxHeartbeats 4000000 in
theorem cloneI_F (l cap : Nat) (a : Option Addr) (xs : List Int) (w : World) (hl : l = xs.length) (hl9 : l ≤ 1000) (hcap : l ≤ cap) (hnil : a = none → cap = 0) (hX : RowI w a xs) :
    Calls Tryz.prog 91 #[.slice a l cap] w fun e w' => ∃ a' c', e = .returned (.slice a' l c') ∧ w'.ownsRow w.heap.size 3 1 (.slice a' l c') l (xs.map (Value.int .i64)) ∧ Below w.heap.size w w' := by
  have q22 : ∀ (w : World) (a : Option Addr) (n c n' c' : Nat), (binOp .eql 22 (.slice a n c) (.slice none n' c')).run Tryz.prog w = .ok (.bool a.isNone) w := fun w a n c n' c' => Lib.run_eql_slice_nil w _ _ a n c n' c' Tryz.underlying22
  cases a with
  | none =>
    obtain rfl := hnil rfl
    obtain rfl : l = 0 := by omega
    obtain rfl : xs = [] := List.eq_nil_of_length_eq_zero hl.symm
    have HX : Hid (w.ownsRow w.heap.size 3 1 (.slice none 0 0) 0 (([] : List Int).map (Value.int .i64))) := World.ownsRow_nil _ _ _ _
    clear hX hl
    go_enter Tryz.func91, Tryz.ntmps91
    go_wp2
    go_ret
    exact ⟨none, 0, rfl, HX.out, Below.refl _ _⟩
  | some p =>
    have hb := (Below.refl w.heap.size w).alloc (Nat.le_refl _) (.cells #[] 3)
    have ho := own_empty (size := 1) (B := w.heap.size) (heap_alloc_last w (.cells #[] 3)) (Nat.le_refl _)
    obtain ⟨g, cp, w', h1, h2, h3, h4⟩ := copyI (ca := cap) 22 ho hl (by omega) (rowI_below hX hb) hb.size
    have HAP : Hid _ := h1
    have HR : Hid (w'.ownsRow w.heap.size 3 1 (.slice (some ⟨g, 0, none⟩) l cp) l (xs.map (Value.int .i64))) := h2
    have HB : Hid (Below w.heap.size w w') := below_own hb ho h3 hb.size
    clear hX hl hb ho h1 h2 h3 h4
    go_enter Tryz.func91, Tryz.ntmps91
    go_wp2_with (at_builtin; refine wpList_append_run rfl _ _ 22 rfl _ _ _ _ rfl rfl HAP.out ?_)
    go_ret
    exact ⟨some ⟨g, 0, none⟩, cp, rfl, HR.out, HB.out⟩
end Go.Proofs.YtkoakingmnjdoaaGreatDoor

/- What addsOf of package plan answers: the steps that add a source onto each output that it is in. -/
namespace Go.Proofs.YtkoakingmnjdoaaGreatDoor
open Go.RowKit Gf
set_option linter.unusedVariables false
set_option maxRecDepth 20000
set_option linter.unusedSimpArgs false
theorem stpW_one {w : World} {g : Nat} {s : Stp} {fr : Nat × Nat} (h : w.heap[g]? = some (.cells #[.int .i64 s.op, .int .i64 s.dst, .int .i64 s.src, vf s.c] 105 fr)) : StpW w (some ⟨g, 0, none⟩) [s] :=
  stpW_cells h fun j hj => by
    have : j = 0 ∨ j = 1 ∨ j = 2 ∨ j = 3 := by simp at hj; omega
    rcases this with rfl | rfl | rfl | rfl <;> rfl
/-- a list of lists of bytes, cell by cell -/
theorem rows8_bytes {w : World} {fa : Option Addr} {n m : Nat} {R : Nat → Nat → F} (h : Rows8 w fa ((List.range n).map fun o => rowF m (R o))) {o s : Nat} (ho : o < n) (hs : s < m) : ∃ b off a c q, fa = some ⟨b, off, none⟩ ∧ a = some q ∧ w.cell? ⟨b, off + o, none⟩ = some (.slice a m c) ∧ ∃ b2 o2, q = ⟨b2, o2, none⟩ ∧ w.cell? ⟨b2, o2 + s, none⟩ = some (.int .u8 ((R o s).toNat : Int)) := by
  rcases h with e | ⟨b, off, rfl, h⟩
  · have := congrArg List.length e
    simp at this
    omega
  · obtain ⟨a, c, h1, h2⟩ := h o (rowF m (R o)) (by simp [ho])
    rw [rowF_len] at h1
    rcases h2 with e | ⟨b2, o2, rfl, h2⟩
    · have := congrArg List.length e
      rw [rowF_len] at this
      simp at this
      omega
    · have h3 := h2 s (by rw [rowF_len]; exact hs)
      rw [at8_rowF hs] at h3
      exact ⟨b, off, _, c, _, rfl, rfl, h1, b2, o2, rfl, h3⟩
set_option maxRecDepth 100000 in
set_option maxHeartbeats 8000000 in
theorem addsOf_F (s m n nc h : Nat) (fa : Option Addr) (C : Mt) (w : World) (hs : s < m) (hm : m ≤ 64) (hn : n ≤ 64) (hh : h ≤ 64) (hX : Rows8 w fa ((List.range n).map fun o => rowF m (C o))) :
    Calls Tryz.prog 92 #[.int .i64 s, .int .i64 h, .slice fa n nc] w fun e w' => ∃ v l, e = .returned v ∧ l = (addsP (fun o => C o s) h n).length ∧ w'.ownsRow w.heap.size 105 4 v l (stpsL (addsP (fun o => C o s) h n)) ∧ Below w.heap.size w w' := by
  have HX : Hid (Rows8 w fa ((List.range n).map fun o => rowF m (C o))) := hX
  clear hX
  obtain ⟨c, hc⟩ : ∃ c : Nat → F, c = fun o => C o s := ⟨_, rfl⟩
  have HCE : Hid (∀ o, c o = C o s) := fun o => by rw [hc]
  rw [← hc]
  clear hc
  go_enter Tryz.func92, Tryz.ntmps92
  go_wp2
  go_loopw [13, 7] (fun t v wr => ∃ (o l : Nat), o ≤ n ∧ t = .int .i64 o ∧ l = (addsP c h o).length ∧ wr.ownsRow w.heap.size 105 4 v l (stpsL (addsP c h o)) ∧ Below w.heap.size w wr) (fun t _ _ => n - (intOf t).toNat)
  case atStart => exact ⟨0, 0, Nat.zero_le _, rfl, rfl, World.ownsRow_nil _ _ _ _, Below.refl _ _⟩
  case round =>
    obtain ⟨o, l, ho, rfl, hl, hown, hb⟩ := hrel
    have HL : Hid (l = (addsP c h o).length) := hl
    have HO : Hid (wr.ownsRow w.heap.size 105 4 _ l (stpsL (addsP c h o))) := hown
    have HB : Hid (Below w.heap.size w wr) := hb
    have hl9 : l ≤ 64 := by have := addsP_len (c := c) (h := h) o; omega
    clear hl hb
    generalize wr = Y at *
    by_cases hlt : o < n
    · obtain ⟨b, off, a, cc, q, rfl, rfl, h1, b2, o2, rfl, h2⟩ := rows8_bytes HX.out hlt hs
      have c1 := cell_later HB.out h1
      have c2 := cell_later HB.out h2
      rw [← HCE.out] at c2
      clear h1 h2
      by_cases h0 : c o = 0
      · have HAE : Hid (addsP c h (o + 1) = addsP c h o) := by show _ = _; rw [addsP, if_pos h0, List.append_nil]
        rw [h0] at c2
        have c2' : Y.cell? ⟨b2, o2 + s, none⟩ = some (.int .u8 0) := c2
        clear c2 h0 hown
        go_wp2
        exact ⟨⟨o + 1, l, by omega, by go_num, by rw [HAE.out]; exact HL.out, by rw [HAE.out]; exact HO.out, HB.out⟩, by simp [intOf]; omega⟩
      · have HAE : Hid (addsP c h (o + 1) = addsP c h o ++ [⟨4, (o : Int), (h : Int), c o⟩]) := by show _ = _; rw [addsP, if_neg h0]
        obtain ⟨av, cv, rfl⟩ : ∃ a c, u7 = .slice a l c := by
          rcases hown.2 with ⟨e, h0⟩ | ⟨g, cap, cur, e, _⟩
          · exact ⟨none, 0, by rw [e]; congr 1; omega⟩
          · exact ⟨_, _, e⟩
        obtain ⟨X, hX⟩ : ∃ X, X = Y.alloc (.cells #[.int .i64 4, .int .i64 o, .int .i64 h, .int .u8 ((c o).toNat : Int)] 105) := ⟨_, rfl⟩
        have hbX : Below Y.heap.size Y X := by rw [hX]; exact (Below.refl _ _).alloc (Nat.le_refl _) _
        have hXl : X.heap[Y.heap.size]? = some (.cells #[.int .i64 4, .int .i64 o, .int .i64 h, .int .u8 ((c o).toNat : Int)] 105 (0, 0)) := by rw [hX]; exact heap_alloc_last _ _
        have hsX : StpW X (some ⟨Y.heap.size, 0, none⟩) [⟨4, (o : Int), (h : Int), c o⟩] := stpW_one hXl
        have hoX := own_below HO.out hbX
        have hsz : w.heap.size ≤ X.heap.size := Nat.le_trans HB.out.size hbX.size
        obtain ⟨g2, cap2, w6, hrun, ho2, hgr, _⟩ := appendT (m := 1) (c := 1) 28 hoX hsX rfl (by decide) (by omega) hsz
        have hne : (((c o).toNat : Int) == 0) = false := beq_eq_false_iff_ne.2 fun e => h0 (F.val_eq_zero.1 (by omega))
        have hne2 : ¬ ((c o).toNat : Int) = 0 := fun e => h0 (F.val_eq_zero.1 (by omega))
        rw [← HAE.out] at ho2
        have HRun : Hid _ := hrun
        have HO2 : Hid (w6.ownsRow w.heap.size 105 4 (.slice (some ⟨g2, 0, none⟩) (l + 1) cap2) (l + 1) (stpsL (addsP c h (o + 1)))) := ho2
        have HB6 : Hid (Below w.heap.size w w6) := below_own (HB.out.trans (hbX.mono HB.out.size)) hoX hgr hsz
        have HXE : Hid (X = Y.alloc (.cells #[.int .i64 4, .int .i64 o, .int .i64 h, .int .u8 ((c o).toNat : Int)] 105)) := hX
        have HLE : Hid (l + 1 = (addsP c h (o + 1)).length) := by show _ = _; rw [HAE.out, List.length_append, ← HL.out]; rfl
        generalize (c o).toNat = cq at *
        clear hX hbX hXl hsX hoX hsz hrun ho2 hgr hown h0
        go_wp2_with (at_builtin; (try rw [← HXE.out]); refine wpList_append_run rfl _ _ 28 rfl _ _ _ _ rfl rfl HRun.out ?_)
        exact ⟨⟨o + 1, l + 1, by omega, by go_num, HLE.out, HO2.out, HB6.out⟩, by simp [intOf]; omega⟩
    · obtain rfl : n = o := by omega
      clear hown
      go_wp2
      go_ret
      exact ⟨_, l, rfl, HL.out, HO.out, HB.out⟩
end Go.Proofs.YtkoakingmnjdoaaGreatDoor

/- What write of package plan answers: the program that sums sources up, in memory. -/
namespace Go.Proofs.YtkoakingmnjdoaaGreatDoor
open Go.RowKit Gf
set_option linter.unusedVariables false
set_option maxRecDepth 20000
set_option linter.unusedSimpArgs false
theorem own_kindP {w w' : World} {B B' s s' n n' : Nat} {v v' : Value} {e e' : TypeId} {xs xs' : List Value} (ho : w.ownsRow B e s v n xs) (h : w.grownBy w' v.ownBlock) (hq : w.ownsRow B' e' s' v' n' xs') (hne : e' ≠ e) : w'.ownsRow B' e' s' v' n' xs' :=
  ⟨hq.1, hq.2.imp id fun ⟨g, cap, cur, h1, h2, h3, h4⟩ => ⟨g, cap, cur, h1, h2, own_other ho h h3 hne, h4⟩⟩
theorem cell_grownO {w u : World} {r : Option Nat} {b o : Nat} {v : Value} (hu : w.grownBy u r) (h : w.cell? ⟨b, o, none⟩ = some v) (hne : r ≠ some b) : u.cell? ⟨b, o, none⟩ = some v := by
  have hlt : b < w.heap.size := World.block_lt_of_cell? w _ h
  have hb := hu.block b hlt (fun e => hne e.symm)
  rw [World.cell?] at h ⊢
  rw [hb]
  exact h
theorem stpW_grownO {w u : World} {r : Option Nat} {b o : Nat} {ss : List Stp} (hu : w.grownBy u r) (h : StpW w (some ⟨b, o, none⟩) ss) (hne : r ≠ some b) : StpW u (some ⟨b, o, none⟩) ss :=
  h.imp id fun ⟨b', off, e, h⟩ => ⟨b', off, e, fun j s hj => by
    cases e
    exact ⟨cell_grownO hu (h j s hj).1 hne, cell_grownO hu (h j s hj).2.1 hne, cell_grownO hu (h j s hj).2.2.1 hne, cell_grownO hu (h j s hj).2.2.2 hne⟩⟩
theorem own_block_lt {w : World} {B n s : Nat} {v : Value} {e : TypeId} {xs : List Value} (ho : w.ownsRow B e s v n xs) {b : Nat} (hb : w.heap.size ≤ b) : v.ownBlock ≠ some b := fun h => by have := (ho.lt b h).2; omega
theorem own_shape4 {w : World} {B n : Nat} {v : Value} {e : TypeId} {ss : List Stp} (ho : w.ownsRow B e 4 v n (stpsL ss)) : ∃ a cap, v = .slice a n cap := by
  rcases ho.2 with ⟨e, h0⟩ | ⟨g, cap, cur, e, _⟩
  · exact ⟨none, 0, by rw [e]; congr 1; omega⟩
  · exact ⟨_, _, e⟩
/-- a program in memory out of lists of one's own -/
theorem prgW_three {w : World} {B1 B2 B3 : Nat} {a1 a2 a3 : Option Addr} {il c1 ol c2 sl c3 : Nat} {ins outs : List Int} {ss : List Stp} (hi : w.ownsRow B1 3 1 (.slice a1 il c1) il (ins.map (Value.int .i64))) (ho : w.ownsRow B2 3 1 (.slice a2 ol c2) ol (outs.map (Value.int .i64))) (hs : w.ownsRow B3 105 4 (.slice a3 sl c3) sl (stpsL ss)) (h1 : il ≤ 1000) (h2 : ol ≤ 1000) (h3 : sl ≤ 5000) : PrgW w a1 a2 a3 il c1 ol c2 sl c3 ins outs ss := by
  have q1 := ownI_facts hi
  have q2 := ownI_facts ho
  have hsl : sl = ss.length := by have := hs.1; rw [stpsL_len] at this; omega
  obtain ⟨a, c, e, s2, s3, s1⟩ := stpW_own hsl hs
  have ea : a3 = a := by injection e
  have ec : c3 = c := by injection e
  subst ea ec
  exact { eil := q1.2.2.2.1, eol := q2.2.2.2.1, esl := hsl, i9 := by omega, o9 := by omega, s9 := by omega, cil := q1.2.1, col := q2.2.1, csl := s2, inil := q1.2.2.1, onil := q2.2.2.1, snil := s3, I := q1.1, O := q2.1, S := s1 }
/-- a program's lists lie from block B on -/
def PrgUp (B : Nat) (ia oa ta : Option Addr) : Prop := (∀ p, ia = some p → B ≤ p.block) ∧ (∀ p, oa = some p → B ≤ p.block) ∧ ∀ p, ta = some p → B ≤ p.block
theorem PrgUp.mono {B B' : Nat} {ia oa ta : Option Addr} (h : PrgUp B ia oa ta) (hb : B' ≤ B) : PrgUp B' ia oa ta := ⟨fun p e => Nat.le_trans hb (h.1 p e), fun p e => Nat.le_trans hb (h.2.1 p e), fun p e => Nat.le_trans hb (h.2.2 p e)⟩
theorem rowI_grownO {w u : World} {r : Option Nat} {a : Option Addr} {ns : List Int} (hu : w.grownBy u r) (h : RowI w a ns) (hne : ∀ p, a = some p → r ≠ some p.block) : RowI u a ns :=
  h.imp id fun ⟨b, off, e, h⟩ => ⟨b, off, e, fun j n hj => cell_grownO hu (h j n hj) (hne _ e)⟩
theorem PrgW.grownO {w u : World} {R B : Nat} {ia oa sa : Option Addr} {il ic ol oc sl sc : Nat} {ins outs : List Int} {ss : List Stp} (h : PrgW w ia oa sa il ic ol oc sl sc ins outs ss) (hu : w.grownBy u (some R)) (hp : PrgUp B ia oa sa) (hR : R < B) : PrgW u ia oa sa il ic ol oc sl sc ins outs ss := by
  refine { h with I := rowI_grownO hu h.I fun p e e2 => ?_, O := rowI_grownO hu h.O fun p e e2 => ?_, S := ?_ }
  · have := hp.1 p e; have := Option.some.inj e2; omega
  · have := hp.2.1 p e; have := Option.some.inj e2; omega
  · rcases h.S with e | ⟨b, off, e, h9⟩
    · exact .inl e
    · subst e
      exact stpW_grownO hu (.inr ⟨b, off, rfl, h9⟩) fun e2 => by have := hp.2.2 _ rfl; have := Option.some.inj e2; simp only at *; omega
/-- the program while it is written: in block P -/
structure WrtW (w : World) (P : Nat) (oa : Option Addr) (ol oc rg : Nat) (il tl : Nat) (ai at' : Option Addr) (ci ct : Nat) (ins : List Nat) (ss : List Stp) : Prop where
  blk : w.heap[P]? = some (.cells #[.slice ai il ci, .slice oa ol oc, .int .i64 rg, .slice at' tl ct] 30 (0, 0))
  I : w.ownsRow (P + 1) 3 1 (.slice ai il ci) il ((natJ8 ins).map (Value.int .i64))
  S : w.ownsRow (P + 1) 105 4 (.slice at' tl ct) tl (stpsL ss)
variable {w : World} {P : Nat} {oa : Option Addr} {ol oc rg il tl : Nat} {ai at' : Option Addr} {ci ct : Nat} {ins : List Nat} {ss : List Stp}
theorem WrtW.below {w' : World} (h : WrtW w P oa ol oc rg il tl ai at' ci ct ins ss) (hb : Below w.heap.size w w') : WrtW w' P oa ol oc rg il tl ai at' ci ct ins ss := ⟨heap_later h.blk hb, own_below h.I hb, own_below h.S hb⟩
/-- steps more -/
theorem WrtW.steps {X Y : World} {g c m : Nat} {ts : List Stp} (h : WrtW X P oa ol oc rg il tl ai at' ci ct ins ss) (hg : X.grownBy Y (Value.slice at' tl ct).ownBlock) (ho : Y.ownsRow (P + 1) 105 4 (.slice (some ⟨g, 0, none⟩) (tl + m) c) (tl + m) (stpsL (ss ++ ts))) :
    WrtW (Y.setCell ⟨P, 3, none⟩ (.slice (some ⟨g, 0, none⟩) (tl + m) c)) P oa ol oc rg il (tl + m) ai (some ⟨g, 0, none⟩) ci c ins (ss ++ ts) := by
  have hb := own_other h.S hg h.blk (by decide)
  refine ⟨?_, own_setCell (own_kindP h.S hg h.I (by decide)) (Nat.lt_succ_self _), own_setCell ho (Nat.lt_succ_self _)⟩
  rw [heap_setCell_same _ _ _ _ _ _ hb]; rfl
/-- an input more -/
theorem WrtW.input {X Y : World} {g c x : Nat} (h : WrtW X P oa ol oc rg il tl ai at' ci ct ins ss) (hg : X.grownBy Y (Value.slice ai il ci).ownBlock) (ho : Y.ownsRow (P + 1) 3 1 (.slice (some ⟨g, 0, none⟩) (il + 1) c) (il + 1) ((natJ8 (ins ++ [x])).map (Value.int .i64))) :
    WrtW (Y.setCell ⟨P, 0, none⟩ (.slice (some ⟨g, 0, none⟩) (il + 1) c)) P oa ol oc rg (il + 1) tl (some ⟨g, 0, none⟩) at' c ct (ins ++ [x]) ss := by
  have hb := own_other h.I hg h.blk (by decide)
  refine ⟨?_, own_setCell ho (Nat.lt_succ_self _), own_setCell (own_kindP h.I hg h.S (by decide)) (Nat.lt_succ_self _)⟩
  rw [heap_setCell_same _ _ _ _ _ _ hb]; rfl
theorem below_ownP {V X Y : World} {n s : Nat} {v : Value} {e : TypeId} {xs : List Value} (hP : P = V.heap.size) (hb : Below V.heap.size V X) (ho : X.ownsRow (P + 1) e s v n xs) (hg : X.grownBy Y v.ownBlock) : Below V.heap.size V Y := by
  refine hb.trans ⟨hg.os, hg.tape, hg.output, hg.size, fun k hk => hg.block k (Nat.lt_of_lt_of_le hk hb.size) fun e => ?_⟩
  have := (ho.lt k e.symm).1
  omega
set_option maxRecDepth 100000 in
set_option maxHeartbeats 16000000 in
theorem write_F (sl sc wl wc nc : Nat) (sa wa fa : Option Addr) (L : List Nat) (W : List Int) (C : Mt) (w : World) (hsl : sl = L.length) (h32 : sl ≤ 32) (hwl : wl = W.length) (hw32 : wl ≤ 32) (hwc : wl ≤ wc) (hwn : wa = none → wc = 0) (hL : RowI w sa (natJ8 L)) (hW : RowI w wa W) (hX : Rows8 w fa ((List.range wl).map fun o => rowF sl fun s => C o s)) :
    Calls Tryz.prog 59 #[.slice sa sl sc, .slice wa wl wc, .slice fa wl nc] w fun e w' => ∃ ia ic oa oc ta tc il tl, e = .returned (.agg #[.slice ia il ic, .slice oa wl oc, .int .i64 (wl + 1 : Nat), .slice ta tl tc]) ∧ PrgW w' ia oa ta il ic wl oc tl tc (natJ8 (insP C wl L sl)) W (prgP C wl sl) ∧ PrgUp w.heap.size ia oa ta ∧ Below w.heap.size w w' := by
  have HSL : Hid (sl = L.length) := hsl
  have HWL : Hid (wl = W.length) := hwl
  have HL : Hid (RowI w sa (natJ8 L)) := hL
  have HX : Hid (Rows8 w fa ((List.range wl).map fun o => rowF sl fun s => C o s)) := hX
  obtain ⟨rg, hrg⟩ : ∃ rg, rg = wl + 1 := ⟨_, rfl⟩
  have hw1 : (wl : Int) + 1 = (rg : Int) := by omega
  have hrg9 : rg ≤ 33 := by omega
  have HRG : Hid (rg = wl + 1) := hrg
  rw [← hrg]
  clear hrg
  obtain ⟨R, hR⟩ : ∃ R, R = w.heap.size := ⟨_, rfl⟩
  obtain ⟨W0, hW0⟩ : ∃ W0, W0 = w.alloc (.cells #[.slice none 0 0, .slice none 0 0, .int .i64 0, .slice none 0 0] 30) := ⟨_, rfl⟩
  have hb0 : Below w.heap.size w W0 := by rw [hW0]; exact (Below.refl _ _).alloc (Nat.le_refl _) _
  have hr0 : W0.heap[R]? = some (.cells #[.slice none 0 0, .slice none 0 0, .int .i64 0, .slice none 0 0] 30 (0, 0)) := by rw [hW0, hR]; exact heap_alloc_last _ _
  have hs0 : W0.heap.size = R + 1 := by rw [hW0, hR]; simp
  have HCL : Hid _ := cloneI_F wl wc wa W W0 hwl (by omega) hwc hwn (rowI_below hW hb0)
  have HB0 : Hid (Below w.heap.size w W0) := hb0
  have HR0 : Hid (W0.heap[R]? = some (.cells #[.slice none 0 0, .slice none 0 0, .int .i64 0, .slice none 0 0] 30 (0, 0))) := hr0
  have HS0 : Hid (W0.heap.size = R + 1) := hs0
  have HWE : Hid (W0 = w.alloc (.cells #[.slice none 0 0, .slice none 0 0, .int .i64 0, .slice none 0 0] 30)) := hW0
  have HRE : Hid (R = w.heap.size) := hR
  clear hsl hwl hwc hwn hL hW hX hR hW0 hb0 hr0 hs0
  go_enter Tryz.func59, Tryz.ntmps59
  go_upto_region 2 with fail
  rw [← HWE.out, ← HRE.out]
  go_wp2_with fail
  refine Calls.mono HCL.out ?_
  rintro e V ⟨oa, oc, rfl, ho, hv⟩
  have HO : Hid (V.ownsRow W0.heap.size 3 1 (.slice oa wl oc) wl (W.map (Value.int .i64))) := ho
  have HBV : Hid (Below w.heap.size w V) := HB0.out.trans (hv.mono HB0.out.size)
  have HRV : Hid (V.heap[R]? = some (.cells #[.slice none 0 0, .slice none 0 0, .int .i64 0, .slice none 0 0] 30 (0, 0))) := heap_later HR0.out hv
  obtain ⟨P, hP⟩ : ∃ P, P = V.heap.size := ⟨_, rfl⟩
  obtain ⟨V1, hV1⟩ : ∃ V1, V1 = V.alloc (.cells #[.slice none 0 0, .slice oa wl oc, .int .i64 rg, .slice none 0 0] 30) := ⟨_, rfl⟩
  have hb1 : Below V.heap.size V V1 := by rw [hV1]; exact (Below.refl _ _).alloc (Nat.le_refl _) _
  have HW1 : Hid (WrtW V1 P oa wl oc rg 0 0 none none 0 0 [] []) := ⟨by rw [hV1, hP]; exact heap_alloc_last _ _, World.ownsRow_nil _ _ _ _, World.ownsRow_nil _ _ _ _⟩
  have HB1 : Hid (Below V.heap.size V V1) := hb1
  have HPE : Hid (P = V.heap.size) := hP
  have HV1E : Hid (V1 = V.alloc (.cells #[.slice none 0 0, .slice oa wl oc, .int .i64 rg, .slice none 0 0] 30)) := hV1
  clear ho hv hP hV1 hb1 HCL HR0 HWE
  go_upto_region 3 with fail
  rw [← HV1E.out, ← HPE.out]
  clear HV1E
  go_wp2
  go_loopw [22] (fun t wr => ∃ (i il tl ci ct : Nat) (ai at' : Option Addr), i ≤ sl ∧ t = .int .i64 i ∧ il = cntP C wl i ∧ WrtW wr P oa wl oc rg il tl ai at' ci ct (insP C wl L i) (stpP C wl i) ∧ Below V.heap.size V wr) (fun t _ => sl - (intOf t).toNat)
  case atStart => exact ⟨0, 0, 0, 0, 0, none, none, Nat.zero_le _, rfl, rfl, HW1.out, HB1.out⟩
  case round =>
    obtain ⟨i, il, tl, ci, ct, ai, at', hi, rfl, hil, hwt, hb⟩ := hrel
    have HIL : Hid (il = cntP C wl i) := hil
    have HWT : Hid (WrtW wr P oa wl oc rg il tl ai at' ci ct (insP C wl L i) (stpP C wl i)) := hwt
    have HB : Hid (Below V.heap.size V wr) := hb
    have htl : tl ≤ 1100 := by
      have h1 := hwt.S.1
      rw [stpsL_len] at h1
      have h2 := stpP_len C wl i
      have h3 : i * (wl + 1) ≤ 32 * 33 := Nat.mul_le_mul (by omega) (by omega)
      omega
    have hil9 : il ≤ 32 := by have := cntP_le C wl i; omega
    clear hil hwt hb HW1 HB1
    generalize wr = Y at *
    have HYW : Hid (Below w.heap.size w Y) := HBV.out.trans (HB.out.mono HBV.out.size)
    by_cases hlt : i < sl
    · have hil2 : i < L.length := by rw [← HSL.out]; exact hlt
      obtain ⟨x, hx⟩ : ∃ x, L[i]? = some x := ⟨_, List.getElem?_eq_getElem hil2⟩
      rcases HL.out with e0 | ⟨b, off, rfl, hrows⟩
      · have := congrArg List.length e0
        rw [natJ8_len, List.length_nil] at this
        omega
      have c1 := cell_later HYW.out (hrows i (x : Int) (by simp [natJ8, hx]))
      have HGX : Hid (L.getD i 0 = x) := by show _ = _; rw [List.getD_eq_getElem?_getD, hx]; rfl
      clear hrows hil2 hx
      go_wp2_with fail
      refine Calls.mono (addsOf_F i sl wl nc wl fa C Y hlt (by omega) (by omega) (by omega) (rows8_below HX.out HYW.out)) ?_
      rintro e Y1 ⟨v, l, rfl, hl, hown, hy⟩
      have HYL : Hid (l = (addsP (fun o => C o i) wl wl).length) := hl
      have hl9 : l ≤ 32 := by have := addsP_len (c := fun o => C o i) (h := (wl : Int)) wl; omega
      have HW1 : Hid (WrtW Y1 P oa wl oc rg il tl ai at' ci ct (insP C wl L i) (stpP C wl i)) := HWT.out.below hy
      have HB1 : Hid (Below V.heap.size V Y1) := HB.out.trans (hy.mono HB.out.size)
      have HYY : Hid (Below Y.heap.size Y Y1) := hy
      have HOA : Hid (Y1.ownsRow Y.heap.size 105 4 v l (stpsL (addsP (fun o => C o i) wl wl))) := hown
      obtain ⟨av, cv, rfl⟩ := own_shape4 hown
      clear hl hown hy c1
      by_cases h0 : l = 0
      · have hn0 : addsP (fun o => C o i) wl wl = [] := List.eq_nil_of_length_eq_zero (by rw [← HYL.out]; exact h0)
        have HE1 : Hid (cntP C wl (i + 1) = cntP C wl i ∧ insP C wl L (i + 1) = insP C wl L i ∧ stpP C wl (i + 1) = stpP C wl i) := ⟨by rw [cntP, if_pos hn0]; rfl, by rw [insP, if_pos hn0, List.append_nil], by rw [stpP, if_pos hn0, List.append_nil]⟩
        clear hn0
        subst h0
        go_wp2
        exact ⟨⟨i + 1, il, tl, ci, ct, ai, at', by omega, by go_num, by rw [HE1.out.1]; exact HIL.out, by rw [HE1.out.2.1, HE1.out.2.2]; exact HW1.out, HB1.out⟩, by simp [intOf]; omega⟩
      · have hn0 : ¬ addsP (fun o => C o i) wl wl = [] := fun e => h0 (by rw [HYL.out, e]; rfl)
        have HE1 : Hid (cntP C wl (i + 1) = cntP C wl i + 1 ∧ insP C wl L (i + 1) = insP C wl L i ++ [x] ∧ stpP C wl (i + 1) = stpP C wl i ++ [⟨1, (wl : Int), (il : Int), 0⟩] ++ addsP (fun o => C o i) wl wl) :=
          ⟨by rw [cntP, if_neg hn0], by rw [insP, if_neg hn0, HGX.out], by rw [stpP, if_neg hn0, HIL.out, List.append_assoc]; rfl⟩
        obtain ⟨ga, rfl⟩ : ∃ ga, av = some ⟨ga, 0, none⟩ := by
          rcases HOA.out.2 with ⟨e, h9⟩ | ⟨g, cap, cur, e, _⟩
          · exact absurd (by omega) h0
          · cases e; exact ⟨g, rfl⟩
        have hga := HOA.out.lt ga rfl
        obtain ⟨a4, c4, e4, _, _, hsa⟩ := stpW_own HYL.out HOA.out
        cases e4
        -- a load
        obtain ⟨X, hX⟩ : ∃ X, X = Y1.alloc (.cells #[.int .i64 1, .int .i64 wl, .int .i64 il, .int .u8 0] 105) := ⟨_, rfl⟩
        have hbX : Below Y1.heap.size Y1 X := by rw [hX]; exact (Below.refl _ _).alloc (Nat.le_refl _) _
        have hXl : X.heap[Y1.heap.size]? = some (.cells #[.int .i64 1, .int .i64 wl, .int .i64 il, .int .u8 0] 105 (0, 0)) := by rw [hX]; exact heap_alloc_last _ _
        have hsX : StpW X (some ⟨Y1.heap.size, 0, none⟩) [⟨1, (wl : Int), (il : Int), 0⟩] := stpW_one hXl
        have hwX := HW1.out.below hbX
        have hvX : Below V.heap.size V X := HB1.out.trans (hbX.mono HB1.out.size)
        have hPX : P + 1 ≤ X.heap.size := ltHeap hwX.blk
        obtain ⟨g2, c2, w6, hrun, ho2, hgr, _⟩ := appendT (m := 1) (c := 1) 28 hwX.S hsX rfl (by decide) (by omega) hPX
        obtain ⟨Z1, hZ1⟩ : ∃ Z1, Z1 = w6.setCell ⟨P, 3, none⟩ (.slice (some ⟨g2, 0, none⟩) (tl + 1) c2) := ⟨_, rfl⟩
        have hk6 := own_other hwX.S hgr hwX.blk (by decide)
        have hwZ : WrtW Z1 P oa wl oc rg il (tl + 1) ai (some ⟨g2, 0, none⟩) ci c2 (insP C wl L i) (stpP C wl i ++ [⟨1, (wl : Int), (il : Int), 0⟩]) := by rw [hZ1]; exact hwX.steps hgr ho2
        have hvZ : Below V.heap.size V Z1 := by rw [hZ1]; exact (below_ownP HPE.out hvX hwX.S hgr).setCell (p := ⟨P, 3, none⟩) (by rw [HPE.out]; exact Nat.le_refl _) _
        have hsZ : StpW Z1 (some ⟨ga, 0, none⟩) (addsP (fun o => C o i) wl wl) := by
          rw [hZ1]
          refine stpW_grownO (grownBy_setCell (World.grownBy.refl _ _) _) (stpW_grownO hgr (stpW_below hsa hbX) (fun e => ?_)) (fun e => ?_)
          · have h1 : (Value.slice at' tl ct).ownBlock ≠ some ga := own_block_lt HWT.out.S hga.1
            exact h1 e
          · have h1 := ltHeap HWT.out.blk
            have h2 : P = ga := Option.some.inj e
            omega
        have k3 := cellAt HW1.out.blk 3 _ rfl
        have k0 := cellAt HW1.out.blk 0 _ rfl
        have k6 := cellAt hk6 3 _ rfl
        have f6 : w6.frozen? ⟨P, 3, none⟩ = false := frozen_of_row _ _ _ _ _ hk6
        have HRun : Hid _ := hrun
        have HXE : Hid (X = Y1.alloc (.cells #[.int .i64 1, .int .i64 wl, .int .i64 il, .int .u8 0] 105)) := hX
        have HZ1E : Hid (Z1 = w6.setCell ⟨P, 3, none⟩ (.slice (some ⟨g2, 0, none⟩) (tl + 1) c2)) := hZ1
        have HWZ : Hid (WrtW Z1 P oa wl oc rg il (tl + 1) ai (some ⟨g2, 0, none⟩) ci c2 (insP C wl L i) (stpP C wl i ++ [⟨1, (wl : Int), (il : Int), 0⟩])) := hwZ
        have HVZ : Hid (Below V.heap.size V Z1) := hvZ
        have HSZ : Hid (StpW Z1 (some ⟨ga, 0, none⟩) (addsP (fun o => C o i) wl wl)) := hsZ
        clear hn0 hga hsa hX hbX hXl hsX hwX hvX hPX hrun ho2 hgr hZ1 hk6 hwZ hvZ hsZ
        go_upto_region 9 with (at_builtin; (try rw [← HXE.out]); refine wpList_append_run rfl _ _ 28 rfl _ _ _ _ rfl rfl HRun.out ?_)
        rw [← HZ1E.out]
        clear k3 k0 k6 f6 HRun HXE HZ1E
        -- the additions
        have hPZ : P + 1 ≤ Z1.heap.size := ltHeap HWZ.out.blk
        obtain ⟨g3, c3, w7, hrun, ho3, hgr, _⟩ := appendT (m := l) (c := cv) 28 HWZ.out.S HSZ.out HYL.out (by omega) (by omega) hPZ
        obtain ⟨Z2, hZ2⟩ : ∃ Z2, Z2 = w7.setCell ⟨P, 3, none⟩ (.slice (some ⟨g3, 0, none⟩) (tl + 1 + l) c3) := ⟨_, rfl⟩
        have hk7 := own_other HWZ.out.S hgr HWZ.out.blk (by decide)
        have hwZ : WrtW Z2 P oa wl oc rg il (tl + 1 + l) ai (some ⟨g3, 0, none⟩) ci c3 (insP C wl L i) (stpP C wl (i + 1)) := by rw [hZ2, HE1.out.2.2]; exact HWZ.out.steps hgr ho3
        have hvZ : Below V.heap.size V Z2 := by rw [hZ2]; exact (below_ownP HPE.out HVZ.out HWZ.out.S hgr).setCell (p := ⟨P, 3, none⟩) (by rw [HPE.out]; exact Nat.le_refl _) _
        have k3 := cellAt HWZ.out.blk 3 _ rfl
        have k7 := cellAt hk7 3 _ rfl
        have f7 : w7.frozen? ⟨P, 3, none⟩ = false := frozen_of_row _ _ _ _ _ hk7
        have HRun : Hid _ := hrun
        have HZ2E : Hid (Z2 = w7.setCell ⟨P, 3, none⟩ (.slice (some ⟨g3, 0, none⟩) (tl + 1 + l) c3)) := hZ2
        have HWY : Hid (WrtW Z2 P oa wl oc rg il (tl + 1 + l) ai (some ⟨g3, 0, none⟩) ci c3 (insP C wl L i) (stpP C wl (i + 1))) := hwZ
        have HVY : Hid (Below V.heap.size V Z2) := hvZ
        clear hPZ hrun ho3 hgr hZ2 hk7 hwZ hvZ
        go_upto_region 10 with (at_builtin; refine wpList_append_run rfl _ _ 28 rfl _ _ _ _ rfl rfl HRun.out ?_)
        rw [← HZ2E.out]
        clear k3 k7 f7 HRun HZ2E
        -- the input
        obtain ⟨X, hX⟩ : ∃ X, X = Z2.alloc (.cells #[.int .i64 x] 3) := ⟨_, rfl⟩
        have hbX : Below Z2.heap.size Z2 X := by rw [hX]; exact (Below.refl _ _).alloc (Nat.le_refl _) _
        have hXl : X.heap[Z2.heap.size]? = some (.cells #[.int .i64 x] 3 (0, 0)) := by rw [hX]; exact heap_alloc_last _ _
        have hwX := HWY.out.below hbX
        have hvX : Below V.heap.size V X := HVY.out.trans (hbX.mono HVY.out.size)
        have hPX : P + 1 ≤ X.heap.size := ltHeap hwX.blk
        obtain ⟨g4, c5, w8, hrun, ho4, hgr, _⟩ := appendI (c := 1) (x := (x : Int)) 22 hwX.I (cellAt hXl 0 _ rfl) (by omega) hPX
        rw [show (natJ8 (insP C wl L i)).map (Value.int .i64) ++ [.int .i64 (x : Int)] = (natJ8 (insP C wl L i ++ [x])).map (Value.int .i64) by simp [natJ8]] at ho4
        obtain ⟨Z3, hZ3⟩ : ∃ Z3, Z3 = w8.setCell ⟨P, 0, none⟩ (.slice (some ⟨g4, 0, none⟩) (il + 1) c5) := ⟨_, rfl⟩
        have hk8 := own_other hwX.I hgr hwX.blk (by decide)
        have hwZ : WrtW Z3 P oa wl oc rg (il + 1) (tl + 1 + l) (some ⟨g4, 0, none⟩) (some ⟨g3, 0, none⟩) c5 c3 (insP C wl L (i + 1)) (stpP C wl (i + 1)) := by rw [hZ3, HE1.out.2.1]; exact hwX.input hgr ho4
        have hvZ : Below V.heap.size V Z3 := by rw [hZ3]; exact (below_ownP HPE.out hvX hwX.I hgr).setCell (p := ⟨P, 0, none⟩) (by rw [HPE.out]; exact Nat.le_refl _) _
        have k0 := cellAt HWY.out.blk 0 _ rfl
        have k8 := cellAt hk8 0 _ rfl
        have f8 : w8.frozen? ⟨P, 0, none⟩ = false := frozen_of_row _ _ _ _ _ hk8
        have HRun : Hid _ := hrun
        have HXE : Hid (X = Z2.alloc (.cells #[.int .i64 x] 3)) := hX
        have HZ3E : Hid (Z3 = w8.setCell ⟨P, 0, none⟩ (.slice (some ⟨g4, 0, none⟩) (il + 1) c5)) := hZ3
        have HWX : Hid (WrtW Z3 P oa wl oc rg (il + 1) (tl + 1 + l) (some ⟨g4, 0, none⟩) (some ⟨g3, 0, none⟩) c5 c3 (insP C wl L (i + 1)) (stpP C wl (i + 1))) := hwZ
        have HVX : Hid (Below V.heap.size V Z3) := hvZ
        clear hX hbX hXl hwX hvX hPX hrun ho4 hgr hZ3 hk8 hwZ hvZ
        go_wp2_with (at_builtin; (try rw [← HXE.out]); refine wpList_append_run rfl _ _ 22 rfl _ _ _ _ rfl rfl HRun.out ?_)
        exact ⟨⟨i + 1, il + 1, tl + 1 + l, c5, c3, _, _, by omega, by go_num, by rw [HE1.out.1, ← HIL.out], by rw [← HZ3E.out]; exact HWX.out, by rw [← HZ3E.out]; exact HVX.out⟩, by simp [intOf]; omega⟩
    · obtain rfl : sl = i := by omega
      have HWS : Hid (WrtW Y P oa wl oc rg il tl ai at' ci ct (insP C wl L sl) (stpP C wl sl ++ outsP 0)) := by show WrtW ..; rw [outsP, List.append_nil]; exact HWT.out
      have hsz : V.heap.size ≤ Y.heap.size := HB.out.size
      go_wp2
      go_loopw [58] (fun t wr => ∃ (o tl ct : Nat) (at' : Option Addr), o ≤ wl ∧ t = .int .i64 o ∧ WrtW wr P oa wl oc rg il tl ai at' ci ct (insP C wl L sl) (stpP C wl sl ++ outsP o) ∧ Below V.heap.size V wr) (fun t _ => wl - (intOf t).toNat)
      case atStart => exact ⟨0, tl, ct, at', Nat.zero_le _, rfl, HWS.out, HB.out⟩
      case round =>
        obtain ⟨o, tl, ct, at', ho, rfl, hwt, hb⟩ := hrel
        have HWT2 : Hid (WrtW wr P oa wl oc rg il tl ai at' ci ct (insP C wl L sl) (stpP C wl sl ++ outsP o)) := hwt
        have HB2 : Hid (Below V.heap.size V wr) := hb
        have htl2 : tl ≤ 1200 := by
          have h1 := hwt.S.1
          rw [stpsL_len, List.length_append, outsP_len] at h1
          have h2 := stpP_len C wl sl
          have h3 : sl * (wl + 1) ≤ 32 * 33 := Nat.mul_le_mul (by omega) (by omega)
          omega
        clear hwt hb HWS
        generalize wr = Z at *
        by_cases hlt2 : o < wl
        · obtain ⟨X, hX⟩ : ∃ X, X = Z.alloc (.cells #[.int .i64 5, .int .i64 o, .int .i64 o, .int .u8 0] 105) := ⟨_, rfl⟩
          have hbX : Below Z.heap.size Z X := by rw [hX]; exact (Below.refl _ _).alloc (Nat.le_refl _) _
          have hXl : X.heap[Z.heap.size]? = some (.cells #[.int .i64 5, .int .i64 o, .int .i64 o, .int .u8 0] 105 (0, 0)) := by rw [hX]; exact heap_alloc_last _ _
          have hsX : StpW X (some ⟨Z.heap.size, 0, none⟩) [⟨5, (o : Int), (o : Int), 0⟩] := stpW_one hXl
          have hwX := HWT2.out.below hbX
          have hvX : Below V.heap.size V X := HB2.out.trans (hbX.mono HB2.out.size)
          have hPX : P + 1 ≤ X.heap.size := ltHeap hwX.blk
          obtain ⟨g2, c2, w6, hrun, ho2, hgr, _⟩ := appendT (m := 1) (c := 1) 28 hwX.S hsX rfl (by decide) (by omega) hPX
          obtain ⟨Z1, hZ1⟩ : ∃ Z1, Z1 = w6.setCell ⟨P, 3, none⟩ (.slice (some ⟨g2, 0, none⟩) (tl + 1) c2) := ⟨_, rfl⟩
          have hk6 := own_other hwX.S hgr hwX.blk (by decide)
          have hwZ : WrtW Z1 P oa wl oc rg il (tl + 1) ai (some ⟨g2, 0, none⟩) ci c2 (insP C wl L sl) (stpP C wl sl ++ outsP (o + 1)) := by rw [hZ1, outsP, ← List.append_assoc]; exact hwX.steps hgr ho2
          have hvZ : Below V.heap.size V Z1 := by rw [hZ1]; exact (below_ownP HPE.out hvX hwX.S hgr).setCell (p := ⟨P, 3, none⟩) (by rw [HPE.out]; exact Nat.le_refl _) _
          have k3 := cellAt HWT2.out.blk 3 _ rfl
          have k6 := cellAt hk6 3 _ rfl
          have f6 : w6.frozen? ⟨P, 3, none⟩ = false := frozen_of_row _ _ _ _ _ hk6
          have HRun : Hid _ := hrun
          have HXE : Hid (X = Z.alloc (.cells #[.int .i64 5, .int .i64 o, .int .i64 o, .int .u8 0] 105)) := hX
          have HZ1E : Hid (Z1 = w6.setCell ⟨P, 3, none⟩ (.slice (some ⟨g2, 0, none⟩) (tl + 1) c2)) := hZ1
          have HWZ : Hid (WrtW Z1 P oa wl oc rg il (tl + 1) ai (some ⟨g2, 0, none⟩) ci c2 (insP C wl L sl) (stpP C wl sl ++ outsP (o + 1))) := hwZ
          have HVZ : Hid (Below V.heap.size V Z1) := hvZ
          clear hX hbX hXl hsX hwX hvX hPX hrun ho2 hgr hZ1 hk6 hwZ hvZ
          go_wp2_with (at_builtin; (try rw [← HXE.out]); refine wpList_append_run rfl _ _ 28 rfl _ _ _ _ rfl rfl HRun.out ?_)
          exact ⟨⟨o + 1, tl + 1, c2, _, by omega, by go_num, by rw [← HZ1E.out]; exact HWZ.out, by rw [← HZ1E.out]; exact HVZ.out⟩, by simp [intOf]; omega⟩
        · obtain rfl : wl = o := by omega
          have hrZ := heap_later HRV.out (Below.refl _ V)
          have hRP : R < V.heap.size := ltHeap HRV.out
          have hRZ : Z.heap[R]? = some (.cells #[.slice none 0 0, .slice none 0 0, .int .i64 0, .slice none 0 0] 30 (0, 0)) := (HB2.out.block R hRP).trans HRV.out
          have hoZ : Z.ownsRow W0.heap.size 3 1 (.slice oa wl oc) wl (W.map (Value.int .i64)) := own_below HO.out HB2.out
          obtain ⟨U, hU⟩ : ∃ U, U = (((Z.setCell ⟨R, 0, none⟩ (.slice ai il ci)).setCell ⟨R, 1, none⟩ (.slice oa wl oc)).setCell ⟨R, 2, none⟩ (.int .i64 rg)).setCell ⟨R, 3, none⟩ (.slice at' tl ct) := ⟨_, rfl⟩
          have hset : ∀ {B n : Nat} {v : Value} {xs : List Value} {e : TypeId} {s : Nat}, R < B → Z.ownsRow B e s v n xs → U.ownsRow B e s v n xs := fun h ho => by rw [hU]; exact own_setCell (own_setCell (own_setCell (own_setCell ho h) h) h) h
          have hP1 : R < P + 1 := by rw [HPE.out]; omega
          have hpw := prgW_three (hset hP1 HWT2.out.I) (hset (by rw [HS0.out]; omega) hoZ) (hset hP1 HWT2.out.S) (by omega) (by omega) (by omega)
          have HUP : Hid (PrgUp w.heap.size ai oa at') := ⟨fun p e => by have := (HWT2.out.I.lt p.block (by rw [e]; rfl)).1; have := HBV.out.size; have h9 := HPE.out; omega, fun p e => by have := (hoZ.lt p.block (by rw [e]; rfl)).1; rw [HS0.out, HRE.out] at this; omega, fun p e => by have := (HWT2.out.S.lt p.block (by rw [e]; rfl)).1; have := HBV.out.size; have h9 := HPE.out; omega⟩
          have HPW : Hid (PrgW U ai oa at' il ci wl oc tl ct (natJ8 (insP C wl L sl)) W (prgP C wl sl)) := hpw
          have hRU : U.heap[R]? = some (.cells #[.slice ai il ci, .slice oa wl oc, .int .i64 rg, .slice at' tl ct] 30 (0, 0)) := by
            rw [hU, heap_setCell_same _ _ _ _ _ _ (heap_setCell_same _ _ _ _ _ _ (heap_setCell_same _ _ _ _ _ _ (heap_setCell_same _ _ _ _ _ _ hRZ)))]
            rfl
          have hbU : Below w.heap.size w U := by
            have h0 : Below w.heap.size w Z := HBV.out.trans (HB2.out.mono HBV.out.size)
            have hr : w.heap.size ≤ R := by rw [HRE.out]; exact Nat.le_refl _
            rw [hU]
            exact (((h0.setCell (p := ⟨R, 0, none⟩) hr _).setCell (p := ⟨R, 1, none⟩) hr _).setCell (p := ⟨R, 2, none⟩) hr _).setCell (p := ⟨R, 3, none⟩) hr _
          have HBU : Hid (Below w.heap.size w U) := hbU
          have HUE : Hid (U = (((Z.setCell ⟨R, 0, none⟩ (.slice ai il ci)).setCell ⟨R, 1, none⟩ (.slice oa wl oc)).setCell ⟨R, 2, none⟩ (.int .i64 rg)).setCell ⟨R, 3, none⟩ (.slice at' tl ct)) := hU
          have p0 := cellAt HWT2.out.blk 0 _ rfl
          have p1 := cellAt HWT2.out.blk 1 _ rfl
          have p2 := cellAt HWT2.out.blk 2 _ rfl
          have p3 := cellAt HWT2.out.blk 3 _ rfl
          have zP := ltHeap HWT2.out.blk
          have zR := ltHeap hRZ
          have r0 := cellAt hRZ 0 _ rfl
          have r1 := cellAt hRZ 1 _ rfl
          have r2 := cellAt hRZ 2 _ rfl
          have r3 := cellAt hRZ 3 _ rfl
          have e0 : Z.frozen? ⟨R, 0, none⟩ = false := frozen_of_row _ _ _ _ _ hRZ
          have e1 : Z.frozen? ⟨R, 1, none⟩ = false := frozen_of_row _ _ _ _ _ hRZ
          have e2 : Z.frozen? ⟨R, 2, none⟩ = false := frozen_of_row _ _ _ _ _ hRZ
          have e3 : Z.frozen? ⟨R, 3, none⟩ = false := frozen_of_row _ _ _ _ _ hRZ
          have q0 := cellAt hRU 0 _ rfl
          have q1 := cellAt hRU 1 _ rfl
          have q2 := cellAt hRU 2 _ rfl
          have q3 := cellAt hRU 3 _ rfl
          have zz := ltHeap hRU
          clear hrZ hRP hRZ hoZ hset hP1 hpw hRU hbU hU
          go_wp2
          rw [← HUE.out]
          refine bodyPost_ret (v := .agg #[.slice ai il ci, .slice oa wl oc, .int .i64 rg, .slice at' tl ct]) (by simp [results, Tryz.results59, go_sem, q0, q1, q2, q3, zz]) rfl ⟨ai, ci, oa, oc, at', ct, il, tl, rfl, HPW.out, HUP.out, HBU.out⟩
end Go.Proofs.YtkoakingmnjdoaaGreatDoor
