/- What the document's own Run makes of inputs, of programs in form. -/
import Derived.Test.YtkoakingmnjdoaaGreatDoorMatA
import Derived.Test.YtkoakingmnjdoaaGreatDoorHolds
import Derived.Test.YtkoakingmnjdoaaGreatDoorSolveM
import Derived.BigRegion
import Derived.WalkMore
import Derived.Test.YtkoakingmnjdoaaGreatDoorNumBytes
import Derived.Lib.AppendZeros
import Derived.Test.YtkoakingmnjdoaaGreatDoorMatRow
import Derived.Test.YtkoakingmnjdoaaGreatDoorMatT
import Derived.Test.YtkoakingmnjdoaaGreatDoorStepG
import Derived.Test.YtkoakingmnjdoaaGreatDoorStepF
import Derived.Test.YtkoakingmnjdoaaGreatDoorOwn
import Derived.Test.YtkoakingmnjdoaaGreatDoorMatS
import Derived.Test.YtkoakingmnjdoaaGreatDoorDamL
import Derived.Test.YtkoakingmnjdoaaGreatDoorStepC
import Derived.Test.YtkoakingmnjdoaaGreatDoorJPlanEach3
import Derived.Test.YtkoakingmnjdoaaGreatDoorGfApp
import Derived.Test.YtkoakingmnjdoaaGreatDoorMatO
import Derived.Deep.DeepCutAuto
import Derived.Test.YtkoakingmnjdoaaGreatDoorGfRefW
/- What Check and Group of package base answer, and the document's own Legal and Group, of all numbers. -/
namespace Go.Proofs.YtkoakingmnjdoaaGreatDoor
open Go.RowKit Gf
set_option linter.unusedVariables false
set_option maxRecDepth 20000
/-- legal numbers of shards -/
def LegalP (k r : Int) : Prop := 1 ≤ k ∧ 2 ≤ r ∧ k + r ≤ 16
instance (k r : Int) : Decidable (LegalP k r) := inferInstanceAs (Decidable (_ ∧ _))
theorem legal_nat {k r : Int} (h : LegalP k r) : ∃ a b : Nat, k = a ∧ r = b ∧ 1 ≤ a ∧ 2 ≤ b ∧ a + b ≤ 16 := by
  obtain ⟨h1, h2, h3⟩ := h
  exact ⟨k.toNat, r.toNat, by omega, by omega, by omega, by omega, by omega⟩
theorem bcheck_ok (k r : Nat) (w : World) (h1 : 1 ≤ k) (h2 : 2 ≤ r) (h3 : k + r ≤ 16) :
    Calls Tryz.prog 85 #[.int .i64 k, .int .i64 r] w fun e w' => e = .returned .nilIface ∧ w = w' := by
  have a1 : (1 : Int) ≤ k := by omega
  have a2 : (2 : Int) ≤ r := by omega
  have a3 : (k : Int) ≤ 16 - r := by omega
  clear h1 h2 h3
  go_enter Tryz.func85, Tryz.ntmps85
  go_wp2
  go_ret
  exact ⟨rfl, rfl⟩
theorem bcheck_bad (k r : Int) (w : World) (s : Addr) (hs : w.cell? ⟨0, 0, none⟩ = some (errAt s)) (hk0 : -9223372036854775808 ≤ k) (hk1 : k ≤ 9223372036854775807) (hr0 : -9223372036854775808 ≤ r) (hr1 : r ≤ 9223372036854775807) (h : ¬ LegalP k r) :
    Calls Tryz.prog 85 #[.int .i64 k, .int .i64 r] w fun e w' => e = .returned (errAt s) ∧ w = w' := by
  have hg : 0 < w.heap.size := by
    have := World.block_lt_of_cell? w _ hs; simpa using this
  unfold errAt at *
  have H : k < 1 ∨ 1 ≤ k ∧ r < 2 ∨ 1 ≤ k ∧ 2 ≤ r ∧ 16 - r < k := by
    simp only [LegalP] at h; omega
  clear h
  rcases H with h | ⟨h1, h2⟩ | ⟨h1, h2, h3⟩
  · go_enter Tryz.func85, Tryz.ntmps85
    go_wp2
    go_ret
    exact ⟨rfl, rfl⟩
  · go_enter Tryz.func85, Tryz.ntmps85
    go_wp2
    go_ret
    exact ⟨rfl, rfl⟩
  · go_enter Tryz.func85, Tryz.ntmps85
    go_wp2
    go_ret
    exact ⟨rfl, rfl⟩
/-- how many data shards a group has at most -/
def groupN (k r : Nat) : Nat := (k + (r - 1) - 1) / (r - 1)
theorem groupN_a : ∀ k < 15, ∀ r < 17, 1 ≤ k → 2 ≤ r → 1 ≤ groupN k r ∧ k ≤ groupN k r * (r - 1) := by decide +kernel
theorem groupN_b : ∀ k < 15, ∀ r < 17, 1 ≤ k → 2 ≤ r → (groupN k r - 1) * (r - 1) < k ∧ groupN k r ≤ 16 := by decide +kernel
theorem groupN_least {k r : Nat} (h1 : 1 ≤ k) (h2 : 2 ≤ r) (h3 : k + r ≤ 16) : 1 ≤ groupN k r ∧ k ≤ groupN k r * (r - 1) ∧ (groupN k r - 1) * (r - 1) < k ∧ groupN k r ≤ 16 :=
  let a := groupN_a k (by omega) r (by omega) h1 h2; let b := groupN_b k (by omega) r (by omega) h1 h2; ⟨a.1, a.2, b.1, b.2⟩
theorem bgroup_ok (k r : Nat) (w : World) (h1 : 1 ≤ k) (h2 : 2 ≤ r) (h3 : k + r ≤ 16) :
    Calls Tryz.prog 66 #[.int .i64 k, .int .i64 r] w fun e w' => e = .returned (.tuple #[.int .i64 (groupN k r), .nilIface]) ∧ w = w' := by
  obtain ⟨m, rfl⟩ : ∃ m, r = m + 1 := ⟨r - 1, by omega⟩
  have hm : 1 ≤ m := by omega
  have E2 : Hid (((k : Int) + m - 1) / m = (groupN k (m + 1) : Nat)) := by
    have : (k : Int) + m - 1 = ((k + m - 1 : Nat) : Int) := by omega
    show _ = _
    rw [this, groupN]
    simp
  go_enter Tryz.func66, Tryz.ntmps66
  go_wp2_with (go_at_call 85; refine (bcheck_ok _ _ _ h1 h2 h3).mono ?_; rintro e w' ⟨rfl, rfl⟩)
  rw [E2.out]
  go_ret2
  exact ⟨rfl, rfl⟩
theorem bgroup_bad (k r : Int) (w : World) (s : Addr) (hs : w.cell? ⟨0, 0, none⟩ = some (errAt s)) (hk0 : -9223372036854775808 ≤ k) (hk1 : k ≤ 9223372036854775807) (hr0 : -9223372036854775808 ≤ r) (hr1 : r ≤ 9223372036854775807) (h : ¬ LegalP k r) :
    Calls Tryz.prog 66 #[.int .i64 k, .int .i64 r] w fun e w' => e = .returned (.tuple #[.int .i64 0, errAt s]) ∧ w = w' := by
  have HS : Hid _ := hs
  have H : Hid _ := h
  clear h hs
  unfold errAt
  go_enter Tryz.func66, Tryz.ntmps66
  go_wp2_with fail
  refine (bcheck_bad k r w s HS.out hk0 hk1 hr0 hr1 H.out).mono ?_
  unfold errAt
  rintro e w' ⟨rfl, rfl⟩
  go_wp2_with fail
  go_ret2
  exact ⟨rfl, rfl⟩
theorem legal_yes (k r : Nat) (w : World) (h1 : 1 ≤ k) (h2 : 2 ≤ r) (h3 : k + r ≤ 16) :
    Calls Tryz.prog 14 #[.int .i64 k, .int .i64 r] w fun e w' => e = .returned (.bool true) ∧ w = w' := by
  have a1 : (1 : Int) ≤ k := by omega
  have a2 : (2 : Int) ≤ r := by omega
  have a3 : (k : Int) ≤ 16 := by omega
  have a4 : (r : Int) ≤ 16 := by omega
  have a5 : (k : Int) + r ≤ 16 := by omega
  clear h1 h2 h3
  go_enter Tryz.func14, Tryz.ntmps14
  go_wp2
  go_ret
  exact ⟨rfl, rfl⟩
theorem legal_no (k r : Int) (w : World) (hk0 : -9223372036854775808 ≤ k) (hk1 : k ≤ 9223372036854775807) (hr0 : -9223372036854775808 ≤ r) (hr1 : r ≤ 9223372036854775807) (h : ¬ LegalP k r) :
    Calls Tryz.prog 14 #[.int .i64 k, .int .i64 r] w fun e w' => e = .returned (.bool false) ∧ w = w' := by
  have H : k < 1 ∨ 1 ≤ k ∧ 16 < k ∨ 1 ≤ k ∧ k ≤ 16 ∧ r < 2 ∨ 1 ≤ k ∧ k ≤ 16 ∧ 2 ≤ r ∧ 16 < r ∨ 1 ≤ k ∧ k ≤ 16 ∧ 2 ≤ r ∧ r ≤ 16 ∧ 16 < k + r := by
    simp only [LegalP] at h; omega
  clear h
  rcases H with h1 | ⟨h1, h2⟩ | ⟨h1, h2, h3⟩ | ⟨h1, h2, h3, h4⟩ | ⟨h1, h2, h3, h4, h5⟩ <;>
  · go_enter Tryz.func14, Tryz.ntmps14
    go_wp2
    go_ret
    refine ⟨?_, rfl⟩
    first | rfl | (simp; omega)
theorem rgroup_F (k r : Nat) (w : World) (h1 : 1 ≤ k) (h2 : 2 ≤ r) (h3 : k + r ≤ 16) :
    Calls Tryz.prog 24 #[.int .i64 k, .int .i64 r] w fun e w' => e = .returned (.int .i64 (groupN k r)) ∧ w = w' := by
  obtain ⟨m, rfl⟩ : ∃ m, r = m + 1 := ⟨r - 1, by omega⟩
  obtain ⟨g1, g2, g3, g4⟩ := groupN_least h1 h2 h3
  rw [Nat.add_sub_cancel] at g2 g3
  generalize groupN k (m + 1) = G at *
  have hm : 1 ≤ m := by omega
  have hm' : m ≤ 15 := by omega
  have G2 : Hid _ := g2
  have G3 : Hid _ := g3
  clear g2 g3
  go_enter Tryz.func24, Tryz.ntmps24
  go_wp2
  go_loop [5] (fun i => ∃ g : Nat, 1 ≤ g ∧ g ≤ G ∧ i = .int .i64 g) (fun i => G - (intOf i).toNat)
  case atStart => exact ⟨1, by omega, by omega, rfl⟩
  case round =>
    obtain ⟨g, hg1, hg2, rfl⟩ := hrel
    have hb0 : 0 ≤ (g : Int) * (m : Int) := Int.mul_nonneg (by omega) (by omega)
    have hb1 : (g : Int) * (m : Int) ≤ 256 := by
      have := Nat.mul_le_mul (show g ≤ 16 by omega) hm'
      have e : ((g * m : Nat) : Int) = (g : Int) * (m : Int) := by simp
      omega
    by_cases hlt : g < G
    · have hk : (g : Int) * (m : Int) < k := by
        have h := G3.out
        have := Nat.mul_le_mul_right m (show g ≤ G - 1 by omega)
        have e : ((g * m : Nat) : Int) = (g : Int) * (m : Int) := by simp
        omega
      go_wp2
      exact ⟨⟨g + 1, by omega, by omega, by go_num⟩, by simp [intOf]; omega⟩
    · have : g = G := by omega
      subst this
      have hk : (k : Int) ≤ (g : Int) * (m : Int) := by
        have h := G2.out
        have e : ((g * m : Nat) : Int) = (g : Int) * (m : Int) := by simp
        omega
      go_wp2
      go_ret
      exact ⟨rfl, rfl⟩
end Go.Proofs.YtkoakingmnjdoaaGreatDoor

/- What the small functions of package half answer: there, placeOf, number, find, carrier, carrying, Of, Split, Carrier; and the document's own Carrier; nothing that was there turns. -/
namespace Go.Proofs.YtkoakingmnjdoaaGreatDoor
open Go.RowKit Gf
set_option linter.unusedVariables false
set_option maxRecDepth 20000
theorem hthere_any (x n : Int) (w : World) : Calls Tryz.prog 67 #[.int .i64 x, .int .i64 n] w fun e w' => e = .returned (.bool (thB x n)) ∧ w = w' := by
  by_cases h0 : 0 ≤ x
  · by_cases h1 : x < n
    · go_enter Tryz.func67, Tryz.ntmps67
      go_wp2
      go_ret
      exact ⟨by rw [thB_true h0 h1]; rfl, rfl⟩
    · go_enter Tryz.func67, Tryz.ntmps67
      go_wp2
      go_ret
      exact ⟨by rw [thB_false (by omega)]; rfl, rfl⟩
  · go_enter Tryz.func67, Tryz.ntmps67
    go_wp2
    go_ret
    exact ⟨by rw [thB_false (by omega)]; rfl, rfl⟩
theorem hthere_yes (x n : Int) (w : World) (h0 : 0 ≤ x) (h1 : x < n) : Calls Tryz.prog 67 #[.int .i64 x, .int .i64 n] w fun e w' => e = .returned (.bool true) ∧ w = w' :=
  (hthere_any x n w).mono fun e w' ⟨a, b⟩ => ⟨by rw [a, thB_true h0 h1], b⟩
theorem hthere_no (x n : Int) (w : World) (h : ¬ (0 ≤ x ∧ x < n)) : Calls Tryz.prog 67 #[.int .i64 x, .int .i64 n] w fun e w' => e = .returned (.bool false) ∧ w = w' :=
  (hthere_any x n w).mono fun e w' ⟨a, b⟩ => ⟨by rw [a, thB_false h], b⟩
theorem placeOf_F (h s p : Nat) (w : World) (hh : h = 2 * s + p) (hp : p < 2) (hs : s ≤ 1000) : Calls Tryz.prog 70 #[.int .i64 h] w fun e w' => e = .returned (.agg #[.int .i64 s, .int .i64 p]) ∧ Below w.heap.size w w' := by
  have e1 : Hid ((h : Int) / 2 = s) := by show _ = _; omega
  have e2 : Hid ((h : Int) % 2 = p) := by show _ = _; omega
  have e3 : h ≤ 4000 := by omega
  clear hh hp hs
  go_enter Tryz.func70, Tryz.ntmps70
  go_wp2
  rw [e1.out, e2.out]
  refine bodyPost_ret (v := .agg #[.int .i64 s, .int .i64 p]) (by simp [results, Tryz.results70, go_sem]) rfl ⟨rfl, ?_⟩
  exact (Below.refl w.heap.size w).alloc (Nat.le_refl _) _
/-- the parity that carries a data shard -/
def carN (g j : Nat) : Nat := j / g + 1
theorem carN_le {g j : Nat} : carN g j ≤ j + 1 := by
  have := Nat.div_le_self j g
  simp only [carN]; omega
theorem carrier_F (g j : Nat) (w : World) (hg : 1 ≤ g) (hg2 : g ≤ 1000) (hj : j ≤ 1000) : Calls Tryz.prog 68 #[.int .i64 g, .int .i64 j] w fun e w' => e = .returned (.int .i64 (carN g j)) ∧ w = w' := by
  have e1 : (j : Int) / g = (j / g : Nat) := by simp
  have e2 : j / g ≤ 1000 := Nat.le_trans (Nat.div_le_self _ _) hj
  generalize hq : j / g = q at e1 e2
  have E : Hid _ := e1
  have b0 : 0 ≤ (j : Int) / g := by omega
  have b1 : (j : Int) / g ≤ 1000 := by omega
  have hc : carN g j = q + 1 := by rw [carN, hq]
  rw [hc]
  clear hc e1 hq
  go_enter Tryz.func68, Tryz.ntmps68
  go_wp2
  rw [E.out]
  go_ret
  exact ⟨by go_num, rfl⟩
theorem rcarrier_F (k r j : Nat) (w : World) (h1 : 1 ≤ k) (h2 : 2 ≤ r) (h3 : k + r ≤ 16) (hj : j ≤ 1000) :
    Calls Tryz.prog 77 #[.int .i64 k, .int .i64 r, .int .i64 j] w fun e w' => e = .returned (.int .i64 (carN (groupN k r) j)) ∧ w = w' := by
  obtain ⟨g1, _, _, g2⟩ := groupN_least h1 h2 h3
  have HF : Hid _ := fun w => rgroup_F k r w h1 h2 h3
  generalize groupN k r = g at *
  have e1 : (j : Int) / g = (j / g : Nat) := by simp
  have e2 : j / g ≤ 1000 := Nat.le_trans (Nat.div_le_self _ _) hj
  generalize hq : j / g = q at e1 e2
  have E : Hid _ := e1
  have b0 : 0 ≤ (j : Int) / g := by omega
  have b1 : (j : Int) / g ≤ 1000 := by omega
  have hc : carN g j = q + 1 := by rw [carN, hq]
  rw [hc]
  clear hc e1 hq
  go_enter Tryz.func77, Tryz.ntmps77
  go_wp2_with fail
  refine Calls.mono (HF.out _) ?_
  rintro e w' ⟨rfl, rfl⟩
  go_wp2
  rw [E.out]
  go_ret
  exact ⟨by go_num, rfl⟩
theorem carrying_F (k g j : Nat) (w : World) (hk : k ≤ 1000) (hg : 1 ≤ g) (hg2 : g ≤ 1000) (hj : j ≤ 1000) : Calls Tryz.prog 101 #[.int .i64 k, .int .i64 g, .int .i64 j] w fun e w' => e = .returned (.agg #[.int .i64 (k + carN g j : Nat), .int .i64 1]) ∧ Below w.heap.size w w' := by
  have hc : carN g j ≤ 2000 := Nat.le_trans carN_le (by omega)
  have HF : Hid _ := fun w => carrier_F g j w hg hg2 hj
  generalize carN g j = c at *
  go_enter Tryz.func101, Tryz.ntmps101
  go_wp2_with fail
  refine Calls.mono (HF.out _) ?_
  rintro e w' ⟨rfl, rfl⟩
  go_wp2
  refine bodyPost_ret (v := .agg #[.int .i64 (k + c : Nat), .int .i64 1]) (by simp [results, Tryz.results101, go_sem]) rfl ⟨rfl, ?_⟩
  exact (Below.refl w.heap.size w).alloc (Nat.le_refl _) _
end Go.Proofs.YtkoakingmnjdoaaGreatDoor

/- What find, Of, Split and Carrier of package half answer, at all numbers; nothing that was there turns. -/
namespace Go.Proofs.YtkoakingmnjdoaaGreatDoor
open Go.RowKit Gf
set_option linter.unusedVariables false
set_option maxRecDepth 20000
theorem hfind_ok (k r h s p : Nat) (w : World) (h1 : 1 ≤ k) (h2 : 2 ≤ r) (h3 : k + r ≤ 16) (hh : h = 2 * s + p) (hp : p < 2) (hs : s < k + r) :
    Calls Tryz.prog 116 #[.int .i64 k, .int .i64 r, .int .i64 h] w fun e w' => e = .returned (.tuple #[.agg #[.int .i64 s, .int .i64 p], .nilIface]) ∧ Below w.heap.size w w' := by
  have HH : Hid _ := hh
  have a1 : (h : Int) < 2 * (k + r) := by omega
  have HA : Hid _ := a1
  clear hh a1
  have hA := holds_new (holds_nil w) #[.int .i64 0, .int .i64 0] 111
  have HA1 : Hid _ := hA
  have HB1 : Hid _ := (Below.refl w.heap.size w).alloc (Nat.le_refl _) (.cells #[.int .i64 0, .int .i64 0] 111)
  clear hA
  go_enter Tryz.func116, Tryz.ntmps116
  go_wp2_with fail
  refine (bcheck_ok _ _ _ h1 h2 h3).mono ?_
  rintro e w' ⟨rfl, rfl⟩
  go_wp2_with fail
  refine (hthere_yes _ _ _ (by omega) HA.out).mono ?_
  rintro e w' ⟨rfl, rfl⟩
  go_wp2_with fail
  refine (placeOf_F h s p _ HH.out hp (by omega)).mono ?_
  rintro e w2 ⟨rfl, hb⟩
  have k1 := heap_later (holds_at HA1.out 0 rfl) hb
  have c1 := cellAt k1 0 _ rfl
  have c2 := cellAt k1 1 _ rfl
  have d1 : w2.frozen? ⟨w.heap.size, 0, none⟩ = false := frozen_of_row _ _ _ _ _ k1
  have d2 : w2.frozen? ⟨w.heap.size, 1, none⟩ = false := frozen_of_row _ _ _ _ _ k1
  have HB2 : Hid (Below w.heap.size w w2) := HB1.out.trans (hb.mono HB1.out.size)
  clear k1 hb
  go_wp2
  refine bodyPost_ret (v := .tuple #[.agg #[.int .i64 s, .int .i64 p], .nilIface]) (by simp [results, Tryz.results116, go_sem, c1, c2]) rfl ⟨rfl, ?_⟩
  exact (HB2.out.setCell (Nat.le_refl _) _).setCell (Nat.le_refl _) _
theorem hfind_bad (k r h : Int) (w : World) (s : Addr) (hs : w.cell? ⟨0, 0, none⟩ = some (errAt s)) (hk0 : -9223372036854775808 ≤ k) (hk1 : k ≤ 9223372036854775807) (hr0 : -9223372036854775808 ≤ r) (hr1 : r ≤ 9223372036854775807) (hL : ¬ LegalP k r) :
    Calls Tryz.prog 116 #[.int .i64 k, .int .i64 r, .int .i64 h] w fun e w' => e = .returned (.tuple #[.agg #[.int .i64 0, .int .i64 0], errAt s]) ∧ Below w.heap.size w w' := by
  have HS : Hid _ := cell?_alloc_old (.cells #[.int .i64 0, .int .i64 0] 111) hs
  have H : Hid _ := hL
  clear hs hL
  have HB1 : Hid _ := (Below.refl w.heap.size w).alloc (Nat.le_refl _) (.cells #[.int .i64 0, .int .i64 0] 111)
  go_enter Tryz.func116, Tryz.ntmps116
  go_wp2_with fail
  refine (bcheck_bad k r _ s HS.out hk0 hk1 hr0 hr1 H.out).mono ?_
  unfold errAt
  rintro e w' ⟨rfl, rfl⟩
  go_wp2
  refine bodyPost_ret (v := .tuple #[.agg #[.int .i64 0, .int .i64 0], .iface 191 (.pointer (some s))]) (by simp [results, Tryz.results116, go_sem]) rfl ⟨rfl, ?_⟩
  exact HB1.out
theorem hfind_no (k r : Nat) (h : Int) (w : World) (s : Addr) (hs : w.cell? ⟨1, 0, none⟩ = some (errAt s)) (h1 : 1 ≤ k) (h2 : 2 ≤ r) (h3 : k + r ≤ 16) (hh : ¬ (0 ≤ h ∧ h < 2 * (k + r))) :
    Calls Tryz.prog 116 #[.int .i64 k, .int .i64 r, .int .i64 h] w fun e w' => e = .returned (.tuple #[.agg #[.int .i64 0, .int .i64 0], errAt s]) ∧ Below w.heap.size w w' := by
  have hlt := World.block_lt_of_cell? w _ hs
  simp at hlt
  have hs1 := cell?_alloc_old (.cells #[.int .i64 0, .int .i64 0] 111) hs
  have H : Hid _ := hh
  clear hs hh
  have HB1 : Hid _ := (Below.refl w.heap.size w).alloc (Nat.le_refl _) (.cells #[.int .i64 0, .int .i64 0] 111)
  unfold errAt at *
  go_enter Tryz.func116, Tryz.ntmps116
  go_wp2_with fail
  refine (bcheck_ok _ _ _ h1 h2 h3).mono ?_
  rintro e w' ⟨rfl, rfl⟩
  go_wp2_with fail
  refine (hthere_no _ _ _ H.out).mono ?_
  rintro e w' ⟨rfl, rfl⟩
  go_wp2
  go_region
  go_wp2
  refine bodyPost_ret (v := .tuple #[.agg #[.int .i64 0, .int .i64 0], .iface 191 (.pointer (some s))]) (by simp [results, Tryz.results116, go_sem]) rfl ⟨rfl, ?_⟩
  exact HB1.out.drew
theorem hsplit_ok (k r h s p : Nat) (w : World) (h1 : 1 ≤ k) (h2 : 2 ≤ r) (h3 : k + r ≤ 16) (hh : h = 2 * s + p) (hp : p < 2) (hs : s < k + r) :
    Calls Tryz.prog 86 #[.int .i64 k, .int .i64 r, .int .i64 h] w fun e w' => e = .returned (.tuple #[.int .i64 s, .int .i64 p, .nilIface]) ∧ Below w.heap.size w w' := by
  have HF : Hid _ := fun w => hfind_ok k r h s p w h1 h2 h3 hh hp hs
  clear hh
  go_enter Tryz.func86, Tryz.ntmps86
  go_wp2_with fail
  refine (HF.out _).mono ?_
  rintro e w1 ⟨rfl, hb⟩
  have HB : Hid _ := hb
  clear hb
  go_wp2
  go_region
  go_wp2
  refine bodyPost_ret (v := .tuple #[.int .i64 s, .int .i64 p, .nilIface]) (by simp [results, Tryz.results86, go_sem]) rfl ?_
  exact ⟨rfl, (HB.out.alloc HB.out.size _).drew⟩
theorem hsplit_err (k r h : Int) (v : Value) (w : World) (hF : ∀ w0 : World, w0 = w → Calls Tryz.prog 116 #[.int .i64 k, .int .i64 r, .int .i64 h] w0 fun e w' => e = .returned (.tuple #[.agg #[.int .i64 0, .int .i64 0], v]) ∧ Below w0.heap.size w0 w') :
    Calls Tryz.prog 86 #[.int .i64 k, .int .i64 r, .int .i64 h] w fun e w' => e = .returned (.tuple #[.int .i64 0, .int .i64 0, v]) ∧ Below w.heap.size w w' := by
  have HF : Hid _ := hF
  clear hF
  go_enter Tryz.func86, Tryz.ntmps86
  go_wp2_with fail
  refine (HF.out _ rfl).mono ?_
  rintro e w1 ⟨rfl, hb⟩
  have HB : Hid _ := hb
  clear hb
  go_wp2
  go_region
  go_wp2
  refine bodyPost_ret (v := .tuple #[.int .i64 0, .int .i64 0, v]) (by simp [results, Tryz.results86, go_sem]) rfl ?_
  exact ⟨rfl, (HB.out.alloc HB.out.size _).drew⟩
theorem hsplit_bad (k r h : Int) (w : World) (s : Addr) (hs : w.cell? ⟨0, 0, none⟩ = some (errAt s)) (hk0 : -9223372036854775808 ≤ k) (hk1 : k ≤ 9223372036854775807) (hr0 : -9223372036854775808 ≤ r) (hr1 : r ≤ 9223372036854775807) (hL : ¬ LegalP k r) :
    Calls Tryz.prog 86 #[.int .i64 k, .int .i64 r, .int .i64 h] w fun e w' => e = .returned (.tuple #[.int .i64 0, .int .i64 0, errAt s]) ∧ Below w.heap.size w w' :=
  hsplit_err k r h _ w fun w0 e => hfind_bad k r h w0 s (e ▸ hs) hk0 hk1 hr0 hr1 hL
theorem hsplit_no (k r : Nat) (h : Int) (w : World) (s : Addr) (hs : w.cell? ⟨1, 0, none⟩ = some (errAt s)) (h1 : 1 ≤ k) (h2 : 2 ≤ r) (h3 : k + r ≤ 16) (hh : ¬ (0 ≤ h ∧ h < 2 * (k + r))) :
    Calls Tryz.prog 86 #[.int .i64 k, .int .i64 r, .int .i64 h] w fun e w' => e = .returned (.tuple #[.int .i64 0, .int .i64 0, errAt s]) ∧ Below w.heap.size w w' :=
  hsplit_err k r h _ w fun w0 e => hfind_no k r h w0 s (e ▸ hs) h1 h2 h3 hh
theorem hcarrier_ok (k r j : Nat) (w : World) (h1 : 1 ≤ k) (h2 : 2 ≤ r) (h3 : k + r ≤ 16) (hj : j < k) :
    Calls Tryz.prog 43 #[.int .i64 k, .int .i64 r, .int .i64 j] w fun e w' => e = .returned (.tuple #[.int .i64 (carN (groupN k r) j), .nilIface]) ∧ w = w' := by
  obtain ⟨g1, _, _, g2⟩ := groupN_least h1 h2 h3
  have HF : Hid _ := fun w => bgroup_ok k r w h1 h2 h3
  generalize groupN k r = g at *
  have HC : Hid _ := fun w => carrier_F g j w g1 (by omega) (by omega)
  generalize carN g j = c at *
  have j1 : (j : Int) < k := by omega
  have HJ : Hid _ := j1
  clear j1 hj
  go_enter Tryz.func43, Tryz.ntmps43
  go_wp2_with fail
  refine (HF.out _).mono ?_
  rintro e w1 ⟨rfl, rfl⟩
  go_wp2_with (first
    | (go_at_call 67; refine (hthere_yes _ _ _ (by omega) HJ.out).mono ?_; rintro e w' ⟨rfl, rfl⟩)
    | (go_at_call 68; refine (HC.out _).mono ?_; rintro e w' ⟨rfl, rfl⟩))
  go_ret2
  exact ⟨rfl, rfl⟩
theorem hcarrier_bad (k r x : Int) (w : World) (s : Addr) (hs : w.cell? ⟨0, 0, none⟩ = some (errAt s)) (hk0 : -9223372036854775808 ≤ k) (hk1 : k ≤ 9223372036854775807) (hr0 : -9223372036854775808 ≤ r) (hr1 : r ≤ 9223372036854775807) (hL : ¬ LegalP k r) :
    Calls Tryz.prog 43 #[.int .i64 k, .int .i64 r, .int .i64 x] w fun e w' => e = .returned (.tuple #[.int .i64 0, errAt s]) ∧ w = w' := by
  have HS : Hid _ := hs
  have H : Hid _ := hL
  clear hs hL
  go_enter Tryz.func43, Tryz.ntmps43
  go_wp2_with fail
  refine (bgroup_bad k r _ s HS.out hk0 hk1 hr0 hr1 H.out).mono ?_
  unfold errAt
  rintro e w' ⟨rfl, rfl⟩
  go_wp2
  go_ret2
  exact ⟨rfl, rfl⟩
theorem hcarrier_no (k r : Nat) (x : Int) (w : World) (s : Addr) (hs : w.cell? ⟨3, 0, none⟩ = some (errAt s)) (h1 : 1 ≤ k) (h2 : 2 ≤ r) (h3 : k + r ≤ 16) (hx : ¬ (0 ≤ x ∧ x < k)) :
    Calls Tryz.prog 43 #[.int .i64 k, .int .i64 r, .int .i64 x] w fun e w' => e = .returned (.tuple #[.int .i64 0, errAt s]) ∧ Below w.heap.size w w' := by
  have hlt := World.block_lt_of_cell? w _ hs
  simp at hlt
  have HX : Hid _ := hx
  unfold errAt at *
  clear hx
  go_enter Tryz.func43, Tryz.ntmps43
  go_wp2_with fail
  refine (bgroup_ok _ _ _ h1 h2 h3).mono ?_
  rintro e w' ⟨rfl, rfl⟩
  go_wp2_with fail
  refine (hthere_no _ _ _ HX.out).mono ?_
  rintro e w' ⟨rfl, rfl⟩
  go_wp2
  go_region
  go_wp2
  go_ret2
  exact ⟨rfl, (Below.refl _ _).drew⟩
end Go.Proofs.YtkoakingmnjdoaaGreatDoor

/- Elimination's one step in the program, makePivot: what it changes is the rows' own block alone. -/
namespace Go.Proofs.YtkoakingmnjdoaaGreatDoor
open Go.RowKit Gf
set_option linter.unusedVariables false
set_option maxRecDepth 20000
/-- the rows on the way through makePivot's loop -/
def pivT (R : Mt) (row above col : Nat) : Mt := fun x => if x = above then (fun j => gm (inv (R row col)) (R row j)) else swapF R row above x
def pivP (R : Mt) (row above col k : Nat) : Mt := fun x => if x < k then pivF R row above col x else pivT R row above col x
theorem pivP_zero (R : Mt) (row above col : Nat) : pivP R row above col 0 = pivT R row above col := by funext x; simp [pivP]
theorem pivP_above (R : Mt) (row above col k : Nat) : pivP R row above col k above = fun j => gm (inv (R row col)) (R row j) := by
  funext j; simp only [pivP, pivT, if_true]
  split
  · rw [pivF_above]
  · rfl
theorem pivP_here (R : Mt) {row above col k : Nat} (h : k ≠ above) : pivP R row above col k k = swapF R row above k := by simp [pivP, pivT, h]
theorem pivP_skip (R : Mt) {row above col k : Nat} (h : k = above ∨ swapF R row above k col = 0) : pivP R row above col (k + 1) = pivP R row above col k := by
  funext x j
  simp only [pivP]
  by_cases e : x = k
  · subst e
    rw [if_pos (by omega), if_neg (by omega)]
    simp only [pivF, pivT]
    rcases h with h | h
    · simp [h]
    · by_cases e2 : x = above
      · simp [e2]
      · simp [e2, h]
  · by_cases e2 : x < k
    · rw [if_pos (by omega), if_pos e2]
    · rw [if_neg (by omega), if_neg e2]
theorem pivP_step (R : Mt) {row above col k : Nat} (h : k ≠ above) : (fun x => if x = k then (fun j => ga (swapF R row above k j) (gm (swapF R row above k col) (gm (inv (R row col)) (R row j)))) else pivP R row above col k x) = pivP R row above col (k + 1) := by
  funext x j
  simp only [pivP]
  by_cases e : x = k
  · subst e
    rw [if_pos rfl, if_pos (by omega)]
    simp only [pivF, h, if_false]
  · rw [if_neg e]
    by_cases e2 : x < k
    · simp only [if_pos e2, if_pos (show x < k + 1 by omega)]
    · simp only [if_neg e2, if_neg (show ¬ x < k + 1 by omega)]
theorem pivP_all (R : Mt) (row above col n : Nat) : ∀ k, k < n → ∀ j, j < n + n + 128 → pivP R row above col n k j = pivF R row above col k j := fun k hk j _ => by simp [pivP, hk]
theorem swap_two (R : Mt) (row above : Nat) : (fun x => if x = row then R above else (fun x => if x = above then R row else R x) x) = swapF R row above := by
  funext x j
  simp only [swapF]
  by_cases e : x = above
  · by_cases e2 : x = row
    · simp [e, ← e2]
    · subst e; simp only [e2, if_true, if_false]
  · by_cases e2 : x = row
    · simp [e2]; intro h; exact absurd (e2.trans h) e
    · simp [e, e2]
theorem pivT_of (R : Mt) (row above col : Nat) : (fun x => if x = above then (fun j => gm (inv (R row col)) (R row j)) else swapF R row above x) = pivT R row above col := rfl
theorem swapF_above (R : Mt) (row above : Nat) : swapF R row above above = R row := by funext j; simp [swapF]
set_option maxHeartbeats 4000000 in
theorem makePivot_F (M n c cn row above col : Nat) (f : Nat → Option Addr × Nat) (R : Mt) (w : World) (hn : n ≤ 64) (hc : c ≤ 128) (hrow : row < n) (hab : above < n) (hcol : col < c) (hp : R row col ≠ 0) (hR : RowsW w M n c f R) :
    Calls Tryz.prog 150 #[.slice (some ⟨M, 0, none⟩) n cn, .int .i64 row, .int .i64 above, .int .i64 col] w fun e w' => e = .returned (.tuple #[]) ∧ (∃ f', RowsW w' M n c f' (pivF R row above col)) ∧ w.grownBy w' (some M) := by
  obtain ⟨b1, o1, m1, hf1, hm1, hbM1, hb1, c1, c2⟩ := hR.get hrow hcol
  obtain ⟨b2, o2, m2, hf2, hm2, hbM2, hb2, c3, c4⟩ := hR.get hab hcol
  have d1 : ∀ j, w.frozen? ⟨M, j, none⟩ = false := fun j => frozen_of_row _ _ _ _ _ hR.blk
  have e1 := d1 row
  have e2 := d1 above
  have HR : Hid _ := hR
  have HF1 : Hid _ := hf1
  have HF2 : Hid _ := hf2
  have hz0 := hR.put hab (a := some ⟨b1, o1, none⟩) (m := m1) (v := R row) (by have := hR.row row hrow; rwa [hf1] at this) hm1 (by simp)
  have c5 := cellAt hz0.blk row _ (slF_at hrow)
  have e5 : (w.setCell ⟨M, above, none⟩ (.slice (some ⟨b1, o1, none⟩) c m1)).frozen? ⟨M, row, none⟩ = false := frozen_of_row _ _ _ _ _ hz0.blk
  have hz1 := hz0.put hrow (a := some ⟨b2, o2, none⟩) (m := m2) (v := R above) (row8_other hR.blk (grownBy_setCell (World.grownBy.refl _ _) _) (by have := hR.row above hab; rwa [hf2] at this)) hm2 (by simp)
  rw [swap_two] at hz1
  have HZ1 : Hid _ := hz1
  clear hR hf1 hf2 d1 c2 c4 hz0 hz1
  go_enter Tryz.func150, Tryz.ntmps150
  go_wp2
  go_region
  have hg1 : w.grownBy (((w.setCell ⟨M, above, none⟩ (.slice (some ⟨b1, o1, none⟩) c m1)).setCell ⟨M, row, none⟩ (.slice (some ⟨b2, o2, none⟩) c m2)).drew) (some M) := grownBy_drew (grownBy_setCell (grownBy_setCell (World.grownBy.refl _ _) _) _)
  obtain ⟨f1, hz1⟩ : ∃ f1, RowsW (((w.setCell ⟨M, above, none⟩ (.slice (some ⟨b1, o1, none⟩) c m1)).setCell ⟨M, row, none⟩ (.slice (some ⟨b2, o2, none⟩) c m2)).drew) M n c f1 (swapF R row above) := ⟨_, HZ1.out.drew⟩
  clear HZ1 c1 c3 c5 e1 e2 e5 HF1 HF2 hm1 hm2 hbM1 hbM2 hb1 hb2
  generalize (((w.setCell ⟨M, above, none⟩ (.slice (some ⟨b1, o1, none⟩) c m1)).setCell ⟨M, row, none⟩ (.slice (some ⟨b2, o2, none⟩) c m2)).drew) = W1 at *
  obtain ⟨b3, o3, m3, hf3, hm3, hbM3, hb3, c1, c2⟩ := hz1.get hab hcol
  rw [swapF_above] at c2
  have HZ1 : Hid _ := hz1
  have HG1 : Hid _ := hg1
  have HF3 : Hid _ := hf3
  clear hz1 hg1 hf3
  go_wp2_with fail
  refine Calls.mono (inv_yes hp _) ?_
  rintro e w2 ⟨rfl, hw2⟩
  subst hw2
  have hsr : Row8T W1 (some ⟨b3, o3, none⟩) (rowF c (R row)) := by have := HZ1.out.row above hab; rw [HF3.out, swapF_above] at this; exact this
  go_wp2_with fail
  refine Calls.mono (scale_R _ _ c _ _ _ hc hsr.row8) ?_
  rintro e w2 ⟨q2, rfl, hb2, hr2, hq2⟩
  have hz2 := HZ1.out.below hb2
  have c3 := cellAt hz2.blk above _ (slF_at hab)
  have d3 : w2.frozen? ⟨M, above, none⟩ = false := frozen_of_row _ _ _ _ _ hz2.blk
  have hz3 := hz2.put hab hr2 (Nat.le_refl _) (by simp)
  rw [pivT_of] at hz3
  have hg3 : w.grownBy (w2.setCell ⟨M, above, none⟩ (.slice (some ⟨q2, 0, none⟩) c c)) (some M) := grownBy_setCell (grown_below HG1.out hb2) _
  have HZ3 : Hid _ := hz3
  have HG3 : Hid _ := hg3
  clear hz2 hz3 hg3 hr2 hb2 hsr
  go_wp2
  generalize (w2.setCell ⟨M, above, none⟩ (.slice (some ⟨q2, 0, none⟩) c c)) = W3 at *
  clear c1 c2 c3 d3 hb3
  go_loopw [48] (fun i wr => ∃ k : Nat, ∃ f', k ≤ n ∧ i = .int .i64 k ∧ w.grownBy wr (some M) ∧ RowsW wr M n c f' (pivP R row above col k)) (fun i _ => n - (intOf i).toNat)
  case atStart => exact ⟨0, _, by omega, rfl, HG3.out, by rw [pivP_zero]; exact HZ3.out⟩
  case round =>
    obtain ⟨k, f5, hk, rfl, hgb, hrw⟩ := hrel
    have HGB : Hid _ := hgb
    have hRW : Hid _ := hrw
    clear hgb
    by_cases hlt : k < n
    · obtain ⟨bo, oo, mo, hfo, hmo, hboM, hbo, c1, c2⟩ := hrw.get hlt hcol
      have hfk : Hid _ := hfo
      clear hfo hrw
      by_cases hka : k = above
      · subst hka
        go_wp2
        exact ⟨⟨k + 1, f5, by omega, by go_num, HGB.out, by rw [pivP_skip R (.inl rfl)]; exact hRW.out⟩, by simp [intOf]; omega⟩
      · rw [pivP_here R hka] at c2
        have hne : ((k : Int) != (above : Int)) = true := by simp; omega
        by_cases hzero : swapF R row above k col = 0
        · rw [hzero] at c2
          go_wp2
          exact ⟨⟨k + 1, f5, by omega, by go_num, HGB.out, by rw [pivP_skip R (.inr hzero)]; exact hRW.out⟩, by simp [intOf]; omega⟩
        · have hnz : ((swapF R row above k col).toNat : Int) ≠ 0 := by
            intro e; exact hzero (F.val_eq_zero.1 (by omega))
          have hro1 : Hid (Row8T wr.drew (some ⟨bo, oo, none⟩) (rowF c (swapF R row above k))) := by
            have := hRW.out.row k hlt; rw [hfk.out, pivP_here R hka] at this; exact this
          obtain ⟨ba, oa, ma, hfa, hma, hbaM, hba, c5, c6⟩ := hRW.out.get hab hcol
          have hro2 : Hid (Row8T wr.drew (some ⟨ba, oa, none⟩) (rowF c (fun j => gm (inv (R row col)) (R row j)))) := by
            have := hRW.out.row above hab; rw [hfa, pivP_above] at this; exact this
          have hc9 : Hid (∀ u, wr.grownBy u (some M) → u.cell? ⟨bo, oo + col, none⟩ = some (.int .u8 ((swapF R row above k col).toNat : Int))) := fun u hu => by
            rw [← c2]; simp only [World.cell?, hu.block bo hbo (by simpa using hboM)]
          clear hfa c6
          go_wp2
          refine wp_region_noPanic ?_
          refine wp_region_held_drew (S := fun u => wr.grownBy u (some M)) (by kernel_rfl) ?_ (fun hHeld => ?_)
          · exact grownBy_drew (World.grownBy.refl _ _)
          refine wpAnyH_take (i := 0) (oi := { dst := some 63, op := Op.move (Operand.tmp 0), type := 49, pos := "solve.go:137", after := #[], guard := none }) (v := ?_) rfl (by kernel_rfl) (by kernel_rfl) (by kernel_rfl) (fun _ _ _ h => h) (Or.inl ⟨by rfl, ?_⟩) hHeld ?_
          rotate_left
          · intro u hSw
            go_simp
            try with_reducible rfl
          try simp only [Act.put, List.setIfInBounds_toArray, List.set_cons_zero, List.set_cons_succ]
          refine wpAnyH_take (i := 1) (oi := { dst := some 64, op := Op.move (Operand.tmp 10), type := 3, pos := "solve.go:137", after := #[], guard := none }) (v := ?_) rfl (by kernel_rfl) (by kernel_rfl) (by kernel_rfl) (fun _ _ _ h => h) (Or.inl ⟨by rfl, ?_⟩) hHeld ?_
          rotate_left
          · intro u hSw
            go_simp
            try with_reducible rfl
          try simp only [Act.put, List.setIfInBounds_toArray, List.set_cons_zero, List.set_cons_succ]
          refine wpAnyH_take (i := 2) (oi := { dst := some 65, op := Op.move (Operand.tmp 11), type := 23, pos := "solve.go:137", after := #[], guard := none }) (v := ?_) rfl (by kernel_rfl) (by kernel_rfl) (by kernel_rfl) (fun _ _ _ h => h) (Or.inl ⟨by rfl, ?_⟩) hHeld ?_
          rotate_left
          · intro u hSw
            go_simp
            try with_reducible rfl
          try simp only [Act.put, List.setIfInBounds_toArray, List.set_cons_zero, List.set_cons_succ]
          refine wpAnyH_take (i := 3) (oi := { dst := some 66, op := Op.move (Operand.tmp 11), type := 23, pos := "solve.go:137", after := #[], guard := none }) (v := ?_) rfl (by kernel_rfl) (by kernel_rfl) (by kernel_rfl) (fun _ _ _ h => h) (Or.inl ⟨by rfl, ?_⟩) hHeld ?_
          rotate_left
          · intro u hSw
            go_simp
            try with_reducible rfl
          try simp only [Act.put, List.setIfInBounds_toArray, List.set_cons_zero, List.set_cons_succ]
          refine wpAnyH_take (i := 4) (oi := { dst := some 67, op := Op.move (Operand.tmp 3), type := 3, pos := "solve.go:137", after := #[], guard := none }) (v := ?_) rfl (by kernel_rfl) (by kernel_rfl) (by kernel_rfl) (fun _ _ _ h => h) (Or.inl ⟨by rfl, ?_⟩) hHeld ?_
          rotate_left
          · intro u hSw
            go_simp
            try with_reducible rfl
          try simp only [Act.put, List.setIfInBounds_toArray, List.set_cons_zero, List.set_cons_succ]
          refine wpAnyH_take (i := 5) (oi := { dst := some 68, op := Op.indexAddr 23 (Operand.tmp 66) (Operand.tmp 67), type := 0, pos := "solve.go:137", after := #[{ on := 3, ground := Ground.data }, { on := 4, ground := Ground.data }], guard := none }) (v := ?_) rfl (by kernel_rfl) (by kernel_rfl) (by kernel_rfl) (fun _ _ _ h => h) (Or.inl ⟨by rfl, ?_⟩) hHeld ?_
          rotate_left
          · intro u hSw
            go_simp
            try with_reducible rfl
          try simp only [Act.put, List.setIfInBounds_toArray, List.set_cons_zero, List.set_cons_succ]
          refine wpAnyH_take (i := 6) (oi := { dst := some 69, op := Op.load 5 (Operand.tmp 68), type := 5, pos := "solve.go:137", after := #[{ on := 5, ground := Ground.data }], guard := none }) (v := ?_) rfl (by kernel_rfl) (by kernel_rfl) (by kernel_rfl) (fun _ _ _ h => h) (Or.inl ⟨by rfl, ?_⟩) hHeld ?_
          rotate_left
          · intro u hSw
            have c9 := hc9.out u hSw
            go_simp
            try with_reducible rfl
          try simp only [Act.put, List.setIfInBounds_toArray, List.set_cons_zero, List.set_cons_succ]
          refine wpAnyH_take (i := 7) (oi := { dst := some 70, op := Op.move (Operand.tmp 0), type := 49, pos := "solve.go:137", after := #[], guard := none }) (v := ?_) rfl (by kernel_rfl) (by kernel_rfl) (by kernel_rfl) (fun _ _ _ h => h) (Or.inl ⟨by rfl, ?_⟩) hHeld ?_
          rotate_left
          · intro u hSw
            go_simp
            try with_reducible rfl
          try simp only [Act.put, List.setIfInBounds_toArray, List.set_cons_zero, List.set_cons_succ]
          refine wpAnyH_take (i := 8) (oi := { dst := some 71, op := Op.move (Operand.tmp 2), type := 3, pos := "solve.go:137", after := #[], guard := none }) (v := ?_) rfl (by kernel_rfl) (by kernel_rfl) (by kernel_rfl) (fun _ _ _ h => h) (Or.inl ⟨by rfl, ?_⟩) hHeld ?_
          rotate_left
          · intro u hSw
            go_simp
            try with_reducible rfl
          try simp only [Act.put, List.setIfInBounds_toArray, List.set_cons_zero, List.set_cons_succ]
          refine wpAnyH_take (i := 9) (oi := { dst := some 72, op := Op.indexAddr 49 (Operand.tmp 70) (Operand.tmp 71), type := 0, pos := "solve.go:137", after := #[{ on := 7, ground := Ground.data }, { on := 8, ground := Ground.data }], guard := none }) (v := ?_) rfl (by kernel_rfl) (by kernel_rfl) (by kernel_rfl) (fun _ _ _ h => h) (Or.inl ⟨by rfl, ?_⟩) hHeld ?_
          rotate_left
          · intro u hSw
            go_simp
            try with_reducible rfl
          try simp only [Act.put, List.setIfInBounds_toArray, List.set_cons_zero, List.set_cons_succ]
          refine wpAnyH_ready (rs := [10]) (by kernel_rfl) (by simp) ?_
          refine AllReadyH.cons (o := { dst := some 73, op := Op.load 23 (Operand.tmp 72), type := 23, pos := "solve.go:137", after := #[{ on := 9, ground := Ground.data }], guard := none }) rfl (fun K hK => ?_) AllReadyH.nil
          go_simp
          refine hK.out _ _ ?_ (fun hHeld => ?_)
          · exact grownBy_drew (World.grownBy.refl _ _)
          clear hK K
          try simp only [Act.put, List.setIfInBounds_toArray, List.set_cons_zero, List.set_cons_succ]
          refine wpAnyH_ready (rs := [11]) (by kernel_rfl) (by simp) ?_
          refine AllReadyH.cons (o := { dst := some 74, op := Op.call { callee := Callee.value (Operand.func 122), args := #[Operand.tmp 65, Operand.tmp 69, Operand.tmp 73], argTypes := #[23, 5, 23] }, type := 23, pos := "solve.go:137", after := #[{ on := 2, ground := Ground.data }, { on := 6, ground := Ground.data }, { on := 10, ground := Ground.data }], guard := none }) rfl (fun K hK => ?_) AllReadyH.nil
          go_simp
          refine Calls.mono (addScaled_R _ _ _ c _ _ _ _ _ hc hro1.out.row8 hro2.out.row8) ?_
          rintro e w6 ⟨g6, rfl, hb6, hr6, hg6⟩
          have hS6 : wr.grownBy w6 (some M) := grown_below (grownBy_drew (World.grownBy.refl _ _)) hb6
          go_wp2_with fail
          refine hK.out _ _ ?_ (fun hHeld => ?_)
          · exact hS6
          clear hK K
          try simp only [Act.put, List.setIfInBounds_toArray, List.set_cons_zero, List.set_cons_succ]
          refine wpAnyH_take (i := 12) (oi := { dst := some 75, op := Op.indexAddr 49 (Operand.tmp 63) (Operand.tmp 64), type := 0, pos := "solve.go:137", after := #[{ on := 0, ground := Ground.data }, { on := 1, ground := Ground.data }, { on := 0, ground := Ground.phase }, { on := 1, ground := Ground.phase }, { on := 2, ground := Ground.phase }, { on := 3, ground := Ground.phase }, { on := 4, ground := Ground.phase }, { on := 5, ground := Ground.phase }, { on := 6, ground := Ground.phase }, { on := 7, ground := Ground.phase }, { on := 8, ground := Ground.phase }, { on := 9, ground := Ground.phase }, { on := 10, ground := Ground.phase }, { on := 11, ground := Ground.phase }], guard := none }) (v := ?_) rfl (by kernel_rfl) (by kernel_rfl) (by kernel_rfl) (fun _ _ _ h => h) (Or.inl ⟨by rfl, ?_⟩) hHeld ?_
          rotate_left
          · intro u hSw
            go_simp
            try with_reducible rfl
          try simp only [Act.put, List.setIfInBounds_toArray, List.set_cons_zero, List.set_cons_succ]
          have hRW6 : RowsW w6 M n c f5 _ := hRW.out.drew.below hb6
          have d8 : w6.frozen? ⟨M, k, none⟩ = false := frozen_of_row _ _ _ _ _ hRW6.blk
          have d9 : w6.cell? ⟨M, k, none⟩ = some (.slice (some ⟨bo, oo, none⟩) c mo) := by
            have := cellAt hRW6.blk k _ (slF_at hlt); rw [hfk.out] at this; exact this
          refine wpAnyH_ready (rs := [13]) (by kernel_rfl) (by simp) ?_
          refine AllReadyH.cons (o := { dst := none, op := Op.store 23 (Operand.tmp 75) (Operand.tmp 74), type := 0, pos := "solve.go:137", after := #[{ on := 12, ground := Ground.data }, { on := 11, ground := Ground.data }, { on := 11, ground := Ground.chain }, { on := 0, ground := Ground.phase }, { on := 1, ground := Ground.phase }, { on := 2, ground := Ground.phase }, { on := 3, ground := Ground.phase }, { on := 4, ground := Ground.phase }, { on := 5, ground := Ground.phase }, { on := 6, ground := Ground.phase }, { on := 7, ground := Ground.phase }, { on := 8, ground := Ground.phase }, { on := 9, ground := Ground.phase }, { on := 10, ground := Ground.phase }, { on := 11, ground := Ground.phase }], guard := none }) rfl (fun K hK => ?_) AllReadyH.nil
          go_simp
          refine hK.out _ _ ?_ (fun hHeld => ?_)
          · exact grownBy_setCell hS6 _
          clear hK K
          try simp only [Act.put, List.setIfInBounds_toArray, List.set_cons_zero, List.set_cons_succ]
          refine wpAnyH_done (by kernel_rfl) ?_ _
          refine NoPanic.normal ?_
          have hput := hRW6.put hlt hr6 (Nat.le_refl _) (by simp)
          rw [pivP_step R hka] at hput
          have HPUT : Hid _ := hput
          have HGR : Hid (w.grownBy (w6.setCell ⟨M, k, none⟩ (.slice (some ⟨g6, 0, none⟩) c c)) (some M)) := grownBy_setCell (grown_below (grownBy_drew HGB.out) hb6) _
          clear hput hRW6 hr6 hb6 hS6 d8 d9 hc9
          go_wp2
          exact ⟨⟨k + 1, _, by omega, by go_num, HGR.out, HPUT.out⟩, by simp [intOf]; omega⟩
    · obtain rfl : k = n := by omega
      go_wp2
      exact ⟨rfl, .tuple #[], by simp [results, Tryz.results150, go_sem], rfl, ⟨f5, hRW.out.congr fun x hx j hj => by simp [pivP, hx]⟩, HGB.out⟩
end Go.Proofs.YtkoakingmnjdoaaGreatDoor

/- Elimination in the program, eliminate: the labelled loops, of all lists of rows. -/
namespace Go.Proofs.YtkoakingmnjdoaaGreatDoor
open Go.RowKit Gf
set_option linter.unusedVariables false
set_option maxRecDepth 20000
def natV (p : List Nat) : List Value := p.map fun x => Value.int .i64 ((x : Nat) : Int)
theorem natV_snoc (p : List Nat) (k : Nat) : natV p ++ [.int .i64 (k : Int)] = natV (p ++ [k]) := by simp [natV]
set_option maxHeartbeats 8000000 in
theorem eliminate_F (M n c cn cols : Nat) (f : Nat → Option Addr × Nat) (R : Mt) (w : World) (hn : n ≤ 64) (hc : c ≤ 128) (hcols : cols ≤ c) (hR : RowsW w M n c f R) :
    Calls Tryz.prog 133 #[.slice (some ⟨M, 0, none⟩) n cn, .int .i64 cols] w fun e w' => ∃ a cap p f' R', e = .returned (.slice a p.length cap) ∧ w'.ownsRow w.heap.size 3 1 (.slice a p.length cap) p.length (natV p) ∧
      RowsW w' M n c f' R' ∧ Red R' p n cols ∧ RowsIn R' n R n c ∧ RowsIn R n R' n c ∧ w.grownBy w' (some M) := by
  have HR : Hid _ := hR
  clear hR
  go_enter Tryz.func133, Tryz.ntmps133
  go_wp2
  go_step3
  go_wp2
  go_step3
  go_wp2
  go_loopw [5, 9] (fun v i wr => ∃ (k : Nat) (p : List Nat) (f' : Nat → Option Addr × Nat) (R' : Mt), k ≤ cols ∧ i = .int .i64 k ∧ wr.ownsRow w.heap.size 3 1 v p.length (natV p) ∧
    RowsW wr M n c f' R' ∧ Red R' p n k ∧ RowsIn R' n R n c ∧ RowsIn R n R' n c ∧ w.grownBy wr (some M)) (fun _ i _ => cols - (intOf i).toNat)
  case atStart => exact ⟨0, [], f, R, by omega, rfl, ⟨rfl, .inl ⟨rfl, rfl⟩⟩, HR.out, Red.start _ _, RowsIn.refl _ _ _, RowsIn.refl _ _ _, World.grownBy.refl _ _⟩
  case round =>
    obtain ⟨k, p, f5, R5, hk, rfl, hown, hrw, hred, hin, hback, hgb⟩ := hrel
    obtain ⟨av, cv, rfl⟩ := own_shape hown
    have hpl := hred.len
    have HOWN : Hid _ := hown
    have HRW : Hid _ := hrw
    have HRED : Hid _ := hred
    have HIN : Hid _ := hin
    have HBACK : Hid _ := hback
    have HGB : Hid _ := hgb
    clear hown hrw hred hin hback hgb
    generalize wr = W5 at *
    by_cases hlt : k < cols
    · go_wp2
      go_loopw [5, 7] (fun v i wq => ∃ r0 : Nat, p.length ≤ r0 ∧ r0 ≤ n ∧ v = .slice av p.length cv ∧ i = .int .i64 r0 ∧ wq = W5 ∧ ∀ i, p.length ≤ i → i < r0 → R5 i k = 0) (fun _ i _ => n - (intOf i).toNat)
      case atStart => exact ⟨p.length, by omega, hpl, rfl, rfl, rfl, fun i h1 h2 => by omega⟩
      case round =>
        obtain ⟨r0, h1, h2, rfl, rfl, rfl, hz⟩ := hrel
        have HZ : Hid _ := hz
        clear hz
        by_cases hr : r0 < n
        · obtain ⟨b, off, m, hf, hm, hbM, hb, c1, c2⟩ := HRW.out.get hr (show k < c by omega)
          by_cases hzero : R5 r0 k = 0
          · rw [hzero] at c2
            clear hf
            go_wp2
            exact ⟨⟨r0 + 1, by omega, by omega, by first | rfl | trivial, by go_num, by first | rfl | trivial, fun i h3 h4 => by
              by_cases e : i = r0
              · rw [e]; exact hzero
              · exact HZ.out i h3 (by omega)⟩, by simp [intOf]; omega⟩
          · have hnz : ((R5 r0 k).toNat : Int) ≠ 0 := by
              intro e; exact hzero (F.val_eq_zero.1 (by omega))
            clear hf
            go_wp2_with fail
            refine Calls.mono (makePivot_F M n c cn r0 p.length k f5 R5 _ hn hc hr (by omega) (by omega) hzero HRW.out) ?_
            rintro e w2 ⟨rfl, ⟨f6, hrw2⟩, hg2⟩
            have hsz := HGB.out.size
            have hsz2 := hg2.size
            have ho2 := own_rows HOWN.out HRW.out.blk (by decide) hg2
            have ho := ho2.alloc (.cells #[.int .i64 k] 3)
            obtain ⟨g2, cap2, w6, hrun, ho3, hgr, hor, hlt2⟩ := appendI (b := w2.heap.size) (c := 1) (x := (k : Int)) 22 ho (cellAt (heap_alloc_last w2 (.cells #[.int .i64 k] 3)) 0 _ rfl) (by omega) (by simp; omega)
            rw [natV_snoc] at ho3
            have hrw3 := (hrw2.below ((Below.refl _ _).alloc (Nat.le_refl _) (.cells #[.int .i64 k] 3))).own ho (by decide) (by decide) hgr
            have hgA : w.grownBy (w2.alloc (.cells #[.int .i64 k] 3)) (some M) := grown_below (grown_trans HGB.out hg2 (fun j _ h => h)) ((Below.refl _ _).alloc (Nat.le_refl _) _)
            have hgB := grown_own hgA ho hgr
            have hredN := HRED.out.take h1 hr hzero
            have hinN := (pivF_in R5 k c hr (show p.length < n by omega)).trans HIN.out
            have hbackN := RowsIn.trans HBACK.out (pivF_back R5 k c hr (show p.length < n by omega) hzero)
            have hlen : (p ++ [k]).length = p.length + 1 := by simp
            rw [← hlen] at ho3
            have HRun : Hid _ := hrun
            have HO3 : Hid _ := ho3
            have HRW3 : Hid _ := hrw3
            have HGB3 : Hid _ := hgB
            have HRED3 : Hid _ := hredN
            have HIN3 : Hid _ := hinN
            have HBACK3 : Hid _ := hbackN
            have HLEN : Hid _ := hlen
            clear hrun ho3 hrw3 hgB hredN hinN hbackN hgA ho2 ho hrw2 hg2 hgr hor c1 c2 hlen hsz hsz2 hlt2 hb
            by_cases hfull : p.length + 1 = n
            · go_wp2_with (at_builtin; refine wpList_append_run rfl _ _ 22 rfl _ _ _ _ rfl rfl HRun.out ?_)
              rw [Exit.noGoto_ret]
              go_ret
              exact ⟨some ⟨g2, 0, none⟩, cap2, p ++ [k], f6, _, by rw [HLEN.out, hfull]; rfl, HO3.out, HRW3.out, HRED3.out.full (by rw [HLEN.out, hfull]) (by omega), HIN3.out, HBACK3.out, HGB3.out⟩
            · go_wp2_with (at_builtin; refine wpList_append_run rfl _ _ 22 rfl _ _ _ _ rfl rfl HRun.out ?_)
              exact ⟨⟨k + 1, p ++ [k], f6, _, by omega, by go_num, by have h := HO3.out; rw [HLEN.out] at h ⊢; exact h, HRW3.out, HRED3.out, HIN3.out, HBACK3.out, HGB3.out⟩, by simp [intOf]; omega⟩
        · obtain rfl : r0 = n := by omega
          go_wp2
          exact ⟨⟨k + 1, p, f5, R5, by omega, by go_num, HOWN.out, HRW.out, HRED.out.skip HZ.out, HIN.out, HBACK.out, HGB.out⟩, by simp [intOf]; omega⟩
    · obtain rfl : k = cols := by omega
      go_wp2
      rw [Exit.noGoto_ret]
      go_ret
      exact ⟨av, cv, p, f5, R5, rfl, HOWN.out, HRW.out, HRED.out, HIN.out, HBACK.out, HGB.out⟩
end Go.Proofs.YtkoakingmnjdoaaGreatDoor

/- slices.Concat of two lists of elements: a list of one's own, or none where both are empty. -/
namespace Go.Proofs.YtkoakingmnjdoaaGreatDoor
open Go.RowKit Gf
set_option linter.unusedVariables false
set_option maxRecDepth 20000
theorem append_none (a : Option Addr) (c : Nat) (w : World) (ty : TypeId) (hnil : a = none → c = 0) :
    (Builtin.append_ #[23, 23] ty #[.slice none 0 0, .slice a 0 c]).run Tryz.prog w = .ok (.slice none 0 0) w := by
  obtain ⟨i, hi, h1, h2, h3⟩ := info8
  cases a <;> simp [Builtin.append_, run_underlying Tryz.underlying23, sizeOf, typeInfo, hi, Builtin.lenOf, Builtin.firstCells, loadCells, loadCellsFrom]
theorem zeroCells_one (n : Nat) : Builtin.zeroCells (Value.int .u8 0).cells n = vfs (zeros n) := by
  apply Array.ext_getElem?
  intro i
  by_cases h : i < n <;> simp [Builtin.zeroCells, vfs, zeros, vf, Value.cells, h, Nat.mod_one]
theorem zeroCells8 (n m : Nat) : Builtin.zeroCells (Value.int .u8 0).cells n ++ Builtin.zeroCells (Value.int .u8 0).cells m = vfs (zeros (n + m)) := by
  rw [zeroCells_one, zeroCells_one]
  simp only [vfs, zeros, ← List.replicate_append_replicate, List.map_append, List.append_toArray]
theorem wpList_append_run2 {P : Program} {w : World} {ops : Array Oper} {rest : List Oper} {o : Oper} {a : Act} {Q : Exit → Act → World → Prop} (hgd : o.guard = none) (s x : Operand) (t t2 : TypeId)
    (ho : o.op = .call { callee := .builtin .append, args := #[s, x], argTypes := #[t, t2] }) (v u r : Value) (w' : World) (hs : a.eval s = v) (hx : a.eval x = u)
    (hr : (Builtin.append_ #[t, t2] o.type #[v, u]).run P w = .ok r w') (h : wpList P ops Q rest (a.put o.dst r) w') : wpList P ops Q (o :: rest) a w := by
  refine wpList_plain hgd fun K hK => ?_
  unfold Oper.wp execOp
  simp only [ho, resolve, invoke, builtin, Sem.run_bind, Sem.run_pure, Result.andThen_ok, List.map_toArray, List.map_cons, List.map_nil, hs, hx, hr]
  exact hK _ _ h
set_option maxHeartbeats 4000000 in
theorem grow_none (w : World) : Calls Tryz.prog 149 #[.slice none 0 0, .int .i64 0] w fun e w' => e = .returned (.slice none 0 0) ∧ w = w' := by
  go_enter Tryz.func149, Tryz.ntmps149
  go_wp2
  go_ret
  exact ⟨rfl, rfl⟩
set_option maxHeartbeats 4000000 in
theorem grow_some (n : Nat) (w : World) (h0 : 0 < n) (hn : n ≤ 4096) : Calls Tryz.prog 149 #[.slice none 0 0, .int .i64 n] w fun e w' =>
    ∃ G, n ≤ G ∧ e = .returned (.slice (some ⟨w.heap.size, 0, none⟩) 0 G) ∧ w' = w.drew.alloc (.cells (vfs (zeros G)) 5) := by
  obtain ⟨i, hi, h1, h2, h3⟩ := info8
  have hrun := fun ty => Lib.run_append_nil_zeros (P := Tryz.prog) w 23 3 ty 5 i _ .i64 .i64 Tryz.underlying23 Tryz.underlying3 hi h3 n h0 (by omega) (by omega) (by rw [h2]; omega)
  have hG : n ≤ grownCap w n 0 5 := grownCap_ge w _ _ _
  have hG2 := grownCap_le_maxLen w n 0 5 (by unfold maxLen; omega)
  obtain ⟨G, hGe⟩ : ∃ G, G = grownCap w n 0 5 := ⟨_, rfl⟩
  rw [← hGe] at hrun hG hG2
  have hz : n + (G - n) = G := by omega
  simp only [zeroCells8, hz] at hrun
  have HRun : Hid _ := hrun
  unfold maxLen at hG2
  clear hrun hGe hi h1 h2 h3 hz
  go_enter Tryz.func149, Tryz.ntmps149
  go_wp2_with (at_builtin; refine wpList_append_run2 rfl _ _ 23 3 rfl _ _ _ _ rfl rfl (HRun.out _) ?_)
  all_goals (go_ret; exact ⟨G, hG, rfl, rfl⟩)
/-- of two lengths: that of the first k -/
def two (la lb k : Nat) : Nat := if k = 0 then 0 else if k = 1 then la else la + lb
set_option maxHeartbeats 4000000 in
theorem concat_none (B : Nat) (a b : Option Addr) (ca cb : Nat) (w : World) (hB : w.heap[B]? = some (.cells #[.slice a 0 ca, .slice b 0 cb] 23 (0, 0))) (hna : a = none → ca = 0) (hnb : b = none → cb = 0) :
    Calls Tryz.prog 132 #[.slice (some ⟨B, 0, none⟩) 2 2] w fun e w' => e = .returned (.slice none 0 0) ∧ Below w.heap.size w w' := by
  have c1 := cellAt hB 0 _ rfl
  have c2 := cellAt hB 1 _ rfl
  have r1 := append_none a ca w 23 hna
  have r2 := append_none b cb w 23 hnb
  have R1 : Hid _ := r1
  have R2 : Hid _ := r2
  clear r1 r2 hB hna hnb
  go_enter Tryz.func132, Tryz.ntmps132
  go_wp2
  go_loopw [3, 11] (fun s i wr => ∃ k : Nat, k ≤ 2 ∧ i = .int .i64 k ∧ s = .int .i64 0 ∧ wr = w) (fun _ i _ => 2 - (intOf i).toNat)
  case atStart => exact ⟨0, by omega, rfl, rfl, rfl⟩
  case round =>
    obtain ⟨k, hk, rfl, rfl, rfl⟩ := hrel
    rcases (show k = 0 ∨ k = 1 ∨ k = 2 by omega) with rfl | rfl | rfl
    · go_wp2
      exact ⟨⟨1, by omega, by go_num, by first | rfl | trivial, by first | rfl | trivial⟩, by simp [intOf]⟩
    · go_wp2
      exact ⟨⟨2, by omega, by go_num, by first | rfl | trivial, by first | rfl | trivial⟩, by simp [intOf]⟩
    · go_wp2_with fail
      refine Calls.mono (grow_none _) ?_
      rintro e w2 ⟨rfl, hw2⟩
      subst hw2
      go_wp2
      go_loopw [6, 27] (fun s i wq => ∃ k : Nat, k ≤ 2 ∧ i = .int .i64 k ∧ s = .slice none 0 0 ∧ wq = wr) (fun _ i _ => 2 - (intOf i).toNat)
      case atStart => exact ⟨0, by omega, rfl, rfl, rfl⟩
      case round =>
        obtain ⟨k, hk, rfl, rfl, rfl⟩ := hrel
        rcases (show k = 0 ∨ k = 1 ∨ k = 2 by omega) with rfl | rfl | rfl
        · go_wp2_with (at_builtin; refine wpList_append_run rfl _ _ 23 rfl _ _ _ _ rfl rfl R1.out ?_)
          exact ⟨⟨1, by omega, by go_num, by first | rfl | trivial, by first | rfl | trivial⟩, by simp [intOf]⟩
        · go_wp2_with (at_builtin; refine wpList_append_run rfl _ _ 23 rfl _ _ _ _ rfl rfl R2.out ?_)
          exact ⟨⟨2, by omega, by go_num, by first | rfl | trivial, by first | rfl | trivial⟩, by simp [intOf]⟩
        · go_wp2
          go_ret
          exact ⟨rfl, Below.refl _ _⟩
set_option maxHeartbeats 4000000 in
theorem concat_some (B : Nat) (a b : Option Addr) (la ca lb cb : Nat) (xs ys : List F) (w : World) (hB : w.heap[B]? = some (.cells #[.slice a la ca, .slice b lb cb] 23 (0, 0))) (hna : a = none → ca = 0) (hnb : b = none → cb = 0)
    (hla : la = xs.length) (hlb : lb = ys.length) (h6 : la ≤ 64) (h7 : lb ≤ 64) (h0 : 0 < la + lb) (hX : Row8 w a xs) (hY : Row8 w b ys) :
    Calls Tryz.prog 132 #[.slice (some ⟨B, 0, none⟩) 2 2] w fun e w' => ∃ G, la + lb ≤ G ∧ e = .returned (.slice (some ⟨w.heap.size, 0, none⟩) (la + lb) G) ∧ Below w.heap.size w w' ∧ w'.heap[w.heap.size]? = some (.cells (vfs (xs ++ ys ++ zeros (G - (la + lb)))) 5 (0, 0)) := by
  have c1 := cellAt hB 0 _ rfl
  have c2 := cellAt hB 1 _ rfl
  have HB : Hid _ := hB
  have HNA : Hid _ := hna
  have HNB : Hid _ := hnb
  have HLA : Hid _ := hla
  have HLB : Hid _ := hlb
  have HX : Hid _ := hX
  have HY : Hid _ := hY
  clear hB hna hnb hla hlb hX hY
  go_enter Tryz.func132, Tryz.ntmps132
  go_wp2
  go_loopw [3, 11] (fun s i wr => ∃ k : Nat, k ≤ 2 ∧ i = .int .i64 k ∧ s = .int .i64 (two la lb k : Nat) ∧ wr = w) (fun _ i _ => 2 - (intOf i).toNat)
  case atStart => exact ⟨0, by omega, rfl, rfl, rfl⟩
  case round =>
    obtain ⟨k, hk, rfl, rfl, rfl⟩ := hrel
    rcases (show k = 0 ∨ k = 1 ∨ k = 2 by omega) with rfl | rfl | rfl
    · have e0 : ((two la lb 0 : Nat) : Int) = 0 := rfl
      rw [e0]
      clear e0
      go_wp2
      exact ⟨⟨1, by omega, by go_num, by first | (simp [two]; done) | trivial, by first | rfl | trivial⟩, by simp [intOf]⟩
    · have e0 : ((two la lb 1 : Nat) : Int) = (la : Int) := rfl
      rw [e0]
      clear e0
      go_wp2
      exact ⟨⟨2, by omega, by go_num, by first | (simp [two]; done) | trivial, by first | rfl | trivial⟩, by simp [intOf]⟩
    · have e0 : ((two la lb 2 : Nat) : Int) = ((la + lb : Nat) : Int) := rfl
      rw [e0]
      clear e0
      go_wp2_with fail
      refine Calls.mono (grow_some (la + lb) _ h0 (by omega)) ?_
      rintro e w2 ⟨G, hG, rfl, hw2⟩
      have hb2 : Below wr.heap.size wr w2 := by rw [hw2]; exact (Below.refl _ _).drew.alloc (Nat.le_refl _) _
      have hh2 : w2.heap[wr.heap.size]? = some (.cells (vfs (zeros G)) 5 (0, 0)) := by rw [hw2]; exact heap_alloc_last wr.drew _
      have r1 := run_append8_room (w := w2) (g := wr.heap.size) (n := 0) (cap := G) (xs := []) (old := zeros G) (ys := xs) (a := a) (m := la) (c := ca) 23 hh2 rfl (by omega) HLA.out (by rw [zeros_len, ← HLA.out]; omega) (row8_below HX.out hb2) HNA.out
      rw [List.nil_append, Nat.zero_add] at r1
      have hh3 := setRow_heap _ _ _ (vfs (xs ++ (zeros G).drop xs.length)) _ _ hh2
      have hb3 : Below wr.heap.size wr (w2.setRow wr.heap.size (vfs (xs ++ (zeros G).drop xs.length))) := below_row hb2 (Nat.le_refl _) _
      have r2 := run_append8_room (w := w2.setRow wr.heap.size (vfs (xs ++ (zeros G).drop xs.length))) (g := wr.heap.size) (n := la) (cap := G) (xs := xs) (old := (zeros G).drop xs.length) (ys := ys) (a := b) (m := lb) (c := cb) 23 hh3 HLA.out (by omega) HLB.out (by rw [zeros_drop, zeros_len, ← HLA.out, ← HLB.out]; omega) (row8_below HY.out hb3) HNB.out
      have hh4 := setRow_heap _ _ _ (vfs (xs ++ ys ++ ((zeros G).drop xs.length).drop ys.length)) _ _ hh3
      have hb4 : Below wr.heap.size wr ((w2.setRow wr.heap.size (vfs (xs ++ (zeros G).drop xs.length))).setRow wr.heap.size (vfs (xs ++ ys ++ ((zeros G).drop xs.length).drop ys.length))) := below_row hb3 (Nat.le_refl _) _
      have R1 : Hid _ := r1
      have R2 : Hid _ := r2
      have HH4 : Hid _ := hh4
      have HB4 : Hid _ := hb4
      have c3 := cellAt (heap_later HB.out hb2) 0 _ rfl
      have c4 := cellAt (heap_later HB.out hb3) 1 _ rfl
      clear r1 r2 hh2 hh3 hh4 hb2 hb3 hb4 hw2
      go_wp2
      go_loopw [6, 27] (fun s i wq => ∃ k : Nat, k ≤ 2 ∧ i = .int .i64 k ∧ s = .slice (some ⟨wr.heap.size, 0, none⟩) (two la lb k) G ∧ wq = if k = 0 then w2 else if k = 1 then (w2.setRow wr.heap.size (vfs (xs ++ (zeros G).drop xs.length))) else ((w2.setRow wr.heap.size (vfs (xs ++ (zeros G).drop xs.length))).setRow wr.heap.size (vfs (xs ++ ys ++ ((zeros G).drop xs.length).drop ys.length)))) (fun _ i _ => 2 - (intOf i).toNat)
      case atStart => exact ⟨0, by omega, rfl, rfl, rfl⟩
      case round =>
        obtain ⟨k, hk, rfl, rfl, hw⟩ := hrel
        rcases (show k = 0 ∨ k = 1 ∨ k = 2 by omega) with rfl | rfl | rfl
        · rw [if_pos rfl] at hw
          subst hw
          have e0 : two la lb 0 = 0 := rfl
          rw [e0]
          clear e0
          go_wp2_with (at_builtin; refine wpList_append_run rfl _ _ 23 rfl _ _ _ _ rfl rfl R1.out ?_)
          exact ⟨⟨1, by omega, by go_num, by first | rfl | trivial, rfl⟩, by simp [intOf]⟩
        · rw [if_neg (by omega), if_pos rfl] at hw
          have e0 : two la lb 1 = la := rfl
          rw [e0]
          clear e0
          rw [← hw] at c4 R2
          have HW : Hid _ := hw
          clear hw
          go_wp2_with (at_builtin; refine wpList_append_run rfl _ _ 23 rfl _ _ _ _ rfl rfl R2.out ?_)
          exact ⟨⟨2, by omega, by go_num, by first | rfl | trivial, by rw [if_neg (by omega), if_neg (by omega), HW.out, List.append_assoc xs ys, List.drop_drop]⟩, by simp [intOf]⟩
        · rw [if_neg (by omega), if_neg (by omega)] at hw
          have HW : Hid _ := hw
          clear hw
          have e0 : two la lb 2 = la + lb := rfl
          rw [e0]
          clear e0
          go_wp2
          go_ret
          refine ⟨G, hG, rfl, by rw [HW.out]; exact HB4.out, ?_⟩
          rw [HW.out]
          have e : ((zeros G).drop xs.length).drop ys.length = zeros (G - (la + lb)) := by rw [List.drop_drop, zeros_drop, ← HLA.out, ← HLB.out]
          rw [← e]
          exact HH4.out
/-- a row of a matrix and one of another, one behind the other -/
theorem concat_F (B : Nat) (a b : Option Addr) (la ca lb cb : Nat) (f g : Nat → F) (w : World) (hB : w.heap[B]? = some (.cells #[.slice a la ca, .slice b lb cb] 23 (0, 0))) (hna : a = none → ca = 0) (hnb : b = none → cb = 0)
    (h6 : la ≤ 64) (h7 : lb ≤ 64) (hX : Row8 w a (rowF la f)) (hY : Row8 w b (rowF lb g)) :
    Calls Tryz.prog 132 #[.slice (some ⟨B, 0, none⟩) 2 2] w fun e w' => ∃ q G, e = .returned (.slice q (la + lb) G) ∧ la + lb ≤ G ∧ (q = none → G = 0) ∧ Below w.heap.size w w' ∧
      Row8T w' q (rowF (la + lb) fun j => if j < la then f j else g (j - la)) := by
  by_cases h0 : la + lb = 0
  · obtain rfl : la = 0 := by omega
    obtain rfl : lb = 0 := by omega
    exact (concat_none B a b ca cb w hB hna hnb).mono fun e w' ⟨he, hb⟩ => ⟨none, 0, he, by omega, fun _ => rfl, hb, .inl rfl⟩
  · refine (concat_some B a b la ca lb cb _ _ w hB hna hnb (rowF_len _ _).symm (rowF_len _ _).symm h6 h7 (by omega) hX hY).mono fun e w' ⟨G, hG, he, hb, hh⟩ => ⟨_, G, he, hG, (fun h => by cases h), hb, ?_⟩
    have e1 : rowF (la + lb) (fun j => if j < la then f j else g (j - la)) = rowF la f ++ rowF lb g := (rowF_eq (by simp [rowF_len]) fun j hj => by
      by_cases h : j < la
      · rw [if_pos h, at8_left (by rw [rowF_len]; exact h), at8_rowF h]
      · rw [if_neg h, at8_right (by rw [rowF_len]; omega), rowF_len, at8_rowF (by omega)]).symm
    rw [e1]
    refine .inr ⟨w.heap.size, 0, _, _, rfl, hh, fun j hj => ?_⟩
    rw [Nat.zero_add, ← at8_left (ys := zeros (G - (la + lb))) hj]
    exact cellAt hh j _ (vfs_get _ _ (by rw [List.length_append]; omega))
end Go.Proofs.YtkoakingmnjdoaaGreatDoor

/- What eliminated answers, of all matrices in form with as many rows, and of all others. -/
namespace Go.Proofs.YtkoakingmnjdoaaGreatDoor
open Go.RowKit Gf
set_option linter.unusedVariables false
set_option maxRecDepth 20000
/-- two lists of cells, row beside row -/
def augL (c q : Nat) (xs ys : List F) : Mt := fun i j => if j < c then at8 xs (i * c + j) else at8 ys (i * q + (j - c))
/-- n slices, the first k of c elements each, the others none -/
def slP (n c k : Nat) (f : Nat → Option Addr × Nat) : Array Value := ((List.range n).map fun x => if x < k then Value.slice (f x).1 c (f x).2 else Value.slice none 0 0).toArray
theorem slP_size (n c k : Nat) (f : Nat → Option Addr × Nat) : (slP n c k f).size = n := by simp [slP]
theorem slP_at {n c k x : Nat} {f : Nat → Option Addr × Nat} (h : x < n) : (slP n c k f)[x]? = some (if x < k then Value.slice (f x).1 c (f x).2 else Value.slice none 0 0) := by simp [slP, h]
theorem slP_zero (n c : Nat) (f : Nat → Option Addr × Nat) : slV 0 [] n = slP n c 0 f := by
  apply Array.ext_getElem?
  intro i
  by_cases h : i < n <;> simp [slP, slV, h]
theorem slP_all (n c : Nat) (f : Nat → Option Addr × Nat) : slP n c n f = slF n c f := by
  apply Array.ext_getElem?
  intro i
  by_cases h : i < n
  · rw [slP_at h, slF_at h, if_pos h]
  · rw [Array.getElem?_eq_none (by rw [slP_size]; omega), Array.getElem?_eq_none (by rw [slF_size]; omega)]
theorem slP_set {n c k : Nat} {f : Nat → Option Addr × Nat} (a : Option Addr) (m : Nat) (h : k < n) : (slP n c k f).setIfInBounds k (.slice a c m) = slP n c (k + 1) (fun x => if x = k then (a, m) else f x) := by
  apply Array.ext_getElem?
  intro i
  rw [Array.getElem?_setIfInBounds]
  by_cases hi : i < n
  · rw [slP_at hi, slP_at hi, slP_size]
    by_cases e : k = i
    · subst e; simp [hi]
    · by_cases e2 : i < k
      · simp [e, e2, show ¬ i = k from fun h => e h.symm, show i < k + 1 by omega]
      · simp [e, e2, show ¬ i < k + 1 by omega]
  · rw [Array.getElem?_eq_none (by rw [slP_size]; omega), Array.getElem?_eq_none (by rw [slP_size]; omega), slP_size]
    simp; omega
set_option maxHeartbeats 8000000 in
theorem eliminated_F (r c q la ca lb cb : Nat) (a b : Option Addr) (xs ys : List F) (w : World) (hr : r ≤ 64) (hc : c ≤ 64) (hq : q ≤ 64) (hla : la = r * c) (hx : xs.length = r * c) (hca : la ≤ ca) (hX : Row8 w a xs) (hna : a = none → ca = 0)
    (hlb : lb = r * q) (hy : ys.length = r * q) (hcb : lb ≤ cb) (hY : Row8 w b ys) (hnb : b = none → cb = 0) :
    Calls Tryz.prog 126 #[.agg #[.int .i64 r, .int .i64 c, .slice a la ca], .agg #[.int .i64 r, .int .i64 q, .slice b lb cb]] w fun e w' => ∃ M av cv p f' R',
      e = .returned (.tuple #[.slice (some ⟨M, 0, none⟩) r r, .slice av p.length cv, .nilIface]) ∧ w.heap.size ≤ M ∧ w'.ownsRow w.heap.size 3 1 (.slice av p.length cv) p.length (natV p) ∧
      RowsW w' M r (c + q) f' R' ∧ Red R' p r c ∧ RowsIn R' r (augL c q xs ys) r (c + q) ∧ RowsIn (augL c q xs ys) r R' r (c + q) ∧ Below w.heap.size w w' := by
  have HLA : Hid _ := hla
  have HLB : Hid _ := hlb
  have HX : Hid _ := hx
  have HY : Hid _ := hy
  have HRX : Hid (Row8 w a xs) := hX
  have HRY : Hid (Row8 w b ys) := hY
  have HNA : Hid _ := hna
  have HNB : Hid _ := hnb
  clear hla hlb hx hy hX hY hna hnb
  have hmk := run_makeS r hr
  go_enter Tryz.func126, Tryz.ntmps126
  go_wp2_with fail
  refine Calls.mono (check_ok r c a la ca _ hr hc HLA.out) ?_
  rintro e w2 ⟨rfl, hb2⟩
  have hA := holds_later (holds_new (holds_new (holds_nil w) #[.int .i64 r, .int .i64 c, .slice a la ca] 73) #[.int .i64 r, .int .i64 q, .slice b lb cb] 73) hb2
  rw [World.size_alloc] at hA
  have hB2 : Below w.heap.size w w2 := (((Below.refl w.heap.size w).alloc (Nat.le_refl _) _).alloc (by simp) _).trans (hb2.mono (by simp; omega))
  have hz2 : w.heap.size + 2 ≤ w2.heap.size := by have := hb2.size; simpa using this
  have hA3 := holds_alloc hA (.cells (slV 0 [] r) 23)
  have hB3 : Below w.heap.size w (w2.alloc (.cells (slV 0 [] r) 23)) := hB2.alloc hB2.size _
  have hM3 := heap_alloc_last w2 (.cells (slV 0 [] r) 23)
  have c1 := cellAt (holds_at hA 1 rfl) 0 _ rfl
  have c2 := cellAt (holds_at hA 0 rfl) 0 _ rfl
  have HA3 : Hid _ := hA3
  have HB3 : Hid _ := hB3
  have HM3 : Hid _ := hM3
  clear hA hB2 hA3 hB3 hM3 hb2
  go_wp2
  generalize hM : w2.heap.size = M at *
  generalize (w2.alloc (.cells (slV 0 [] r) 23)) = W3 at *
  clear hM c1 c2 hmk
  go_loopw [28] (fun i wr => ∃ (k : Nat) (f : Nat → Option Addr × Nat), k ≤ r ∧ i = .int .i64 k ∧ W3.grownBy wr (some M) ∧ wr.heap[M]? = some (.cells (slP r (c + q) k f) 23 (0, 0)) ∧
    ∀ x, x < k → Row8T wr (f x).1 (rowF (c + q) (augL c q xs ys x)) ∧ c + q ≤ (f x).2 ∧ ((f x).1 = none → (f x).2 = 0)) (fun i _ => r - (intOf i).toNat)
  case atStart => exact ⟨0, fun _ => (none, 0), by omega, rfl, World.grownBy.refl _ _, by rw [← slP_zero]; exact HM3.out, fun x h => by omega⟩
  case round =>
    obtain ⟨k, f, hk, rfl, hgb, hs, hrows⟩ := hrel
    have k0 := grown_block hgb (holds_at HA3.out 1 rfl) (by omega)
    have k1 := grown_block hgb (holds_at HA3.out 0 rfl) (by omega)
    by_cases hlt : k < r
    · have c1 := cellAt k0 0 _ rfl
      have c2 := cellAt k0 1 _ rfl
      have c3 := cellAt k0 2 _ rfl
      have hbw := below_grown HB3.out hgb (by omega)
      have HBW : Hid _ := hbw
      have HS : Hid _ := hs
      have HR : Hid _ := hrows
      have HG : Hid _ := hgb
      have HK1 : Hid _ := k1
      clear hbw hs hrows hgb k0 k1
      go_wp2_with fail
      refine Calls.mono (row_F r c la ca k a xs _ hr hc HLA.out HX.out hca (row8_below HRX.out HBW.out) HNA.out hlt) ?_
      rintro e w4 ⟨a', cap', rfl, hr4, hn4, _, hb4⟩
      have k1 := heap_later HK1.out hb4
      have c4 := cellAt k1 0 _ rfl
      have c5 := cellAt k1 1 _ rfl
      have c6 := cellAt k1 2 _ rfl
      have hB4 : Below w.heap.size w w4 := HBW.out.trans (hb4.mono HBW.out.size)
      have HB4 : Hid _ := hB4
      have Hb4 : Hid _ := hb4
      have HR4 : Hid _ := hr4
      have HN4 : Hid _ := hn4
      clear k1 hB4 hb4 hr4 hn4 c1 c2 c3
      go_wp2_with fail
      refine Calls.mono (row_F r q lb cb k b ys _ hr hq HLB.out HY.out hcb (row8_below HRY.out HB4.out) HNB.out hlt) ?_
      rintro e w5 ⟨b', capb, rfl, hr5, hn5, _, hb5⟩
      have HR5 : Hid _ := hr5
      have HN5 : Hid _ := hn5
      have Hb5 : Hid _ := hb5
      clear hr5 hn5 hb5 c4 c5 c6
      go_wp2_with fail
      have hal : Below w5.heap.size w5 (w5.alloc (.cells #[.slice a' c cap', .slice b' q capb] 23)) := (Below.refl _ _).alloc (Nat.le_refl _) _
      have ex : rowF c (fun j => at8 xs (k * c + j)) = rowAt c xs k := (rowAt_rowF HX.out hlt).symm
      have ey : rowF q (fun j => at8 ys (k * q + j)) = rowAt q ys k := (rowAt_rowF HY.out hlt).symm
      refine Calls.mono (concat_F w5.heap.size a' b' c cap' q capb (fun j => at8 xs (k * c + j)) (fun j => at8 ys (k * q + j)) _ (heap_alloc_last w5 _) HN4.out HN5.out hc hq (by rw [ex]; exact row8_below (row8_below HR4.out Hb5.out) hal) (by rw [ey]; exact row8_below HR5.out hal)) ?_
      rintro e w6 ⟨g6, G6, rfl, hG6, hn6, hb6, hr6⟩
      have hB6 : Below wr.heap.size wr w6 := (Hb4.out.trans (Hb5.out.mono Hb4.out.size)).trans ((hal.trans (hb6.mono hal.size)).mono (Nat.le_trans Hb4.out.size Hb5.out.size))
      have hs6 := heap_later HS.out hB6
      have c7 := cellAt hs6 k _ (slP_at hlt)
      rw [if_neg (Nat.lt_irrefl k)] at c7
      have d7 : w6.frozen? ⟨M, k, none⟩ = false := frozen_of_row _ _ _ _ _ hs6
      have hgS : w6.grownBy (w6.setCell ⟨M, k, none⟩ (.slice g6 (c + q) G6)) (some M) := grownBy_setCell (World.grownBy.refl _ _) _
      have HS6 : Hid ((w6.setCell ⟨M, k, none⟩ (.slice g6 (c + q) G6)).heap[M]? = some (.cells (slP r (c + q) (k + 1) (fun x => if x = k then (g6, G6) else f x)) 23 (0, 0))) := by
        show _ = _
        rw [heap_setCell_same _ _ _ _ _ _ hs6, slP_set _ _ hlt]
      have HG6 : Hid (W3.grownBy (w6.setCell ⟨M, k, none⟩ (.slice g6 (c + q) G6)) (some M)) := grownBy_setCell (grown_below HG.out hB6) _
      have HR6 : Hid (∀ x, x < k + 1 → Row8T (w6.setCell ⟨M, k, none⟩ (.slice g6 (c + q) G6)) (if x = k then (g6, G6) else f x).1 (rowF (c + q) (augL c q xs ys x)) ∧ c + q ≤ (if x = k then (g6, G6) else f x).2 ∧ ((if x = k then (g6, G6) else f x).1 = none → (if x = k then (g6, G6) else f x).2 = 0)) := by
        intro x hx
        have hne : NoElems w6 (some M) := noElems_some hs6 (by decide)
        by_cases e : x = k
        · subst e
          rw [if_pos rfl]
          exact ⟨row8T_grown hr6 hgS hne, hG6, hn6⟩
        · rw [if_neg e]
          obtain ⟨h1, h2, h3⟩ := HR.out x (by omega)
          exact ⟨row8T_grown (row8T_below h1 hB6) hgS hne, h2, h3⟩
      clear hs6 hgS hr6 hb6 hB6 hal ex ey
      go_wp2
      exact ⟨⟨k + 1, _, by omega, by go_num, HG6.out, HS6.out, HR6.out⟩, by simp [intOf]; omega⟩
    · obtain rfl : k = r := by omega
      have hRW : RowsW wr M k (c + q) f (augL c q xs ys) := ⟨by rw [← slP_all]; exact hs, fun x hx => (hrows x hx).1, fun x hx => (hrows x hx).2.1, fun x hx => (hrows x hx).2.2⟩
      have hbw := below_grown HB3.out hgb (by omega)
      have c1 := cellAt k1 1 _ rfl
      have c2 := cellAt k0 1 _ rfl
      have HRW : Hid _ := hRW
      have HBW : Hid _ := hbw
      clear hs hrows hgb k0 k1 hRW hbw
      go_wp2_with fail
      refine Calls.mono (eliminate_F M k (c + q) k c f _ _ hr (by omega) (by omega) HRW.out) ?_
      rintro e w4 ⟨av, cv, p, f', R', rfl, hown, hrw, hred, hin, hback, hg4⟩
      have H1 : Hid _ := hown
      have H2 : Hid _ := hrw
      have H3 : Hid _ := hred
      have H4 : Hid _ := hin
      have H5 : Hid _ := hback
      have H6 : Hid _ := below_grown HBW.out hg4 (by omega)
      have hsz := HBW.out.size
      clear hown hrw hred hin hback hg4
      go_wp2
      refine bodyPost_ret (v := .tuple #[.slice (some ⟨M, 0, none⟩) k k, .slice av p.length cv, .nilIface]) (by simp [results, Tryz.results126, go_sem]) rfl ?_
      exact ⟨M, av, cv, p, f', R', rfl, by omega, own_lower H1.out hsz, H2.out, H3.out, H4.out, H5.out, H6.out⟩
end Go.Proofs.YtkoakingmnjdoaaGreatDoor

/- What Reduce, Rank and Basis of package solve answer, of all matrices. -/
namespace Go.Proofs.YtkoakingmnjdoaaGreatDoor
open Go.RowKit Gf
set_option linter.unusedVariables false
set_option maxRecDepth 20000
/-- the cells of a matrix of c columns -/
def cellF (c : Nat) (xs : List F) : Mt := fun i j => at8 xs (i * c + j)
theorem RowsIn.congr_left {A B B' : Mt} {n m c : Nat} (h : RowsIn B n A m c) (e : ∀ i, i < n → ∀ j, j < c → B' i j = B i j) : RowsIn B' n A m c := fun i hi => by
  obtain ⟨x, hx⟩ := h i hi
  exact ⟨x, fun j hj => (e i hi j hj).trans (hx j hj)⟩
theorem RowsIn.congr_right {A A' B : Mt} {n m c : Nat} (h : RowsIn B n A m c) (e : ∀ i, i < m → ∀ j, j < c → A' i j = A i j) : RowsIn B n A' m c := fun i hi => by
  obtain ⟨x, hx⟩ := h i hi
  exact ⟨x, fun j hj => (hx j hj).trans (sumF_congr fun k hk => by rw [e k hk j hj])⟩
/-- a matrix in form, as it comes -/
def FormOk (r c : Int) (l : Nat) : Prop := 0 ≤ r ∧ r ≤ 64 ∧ 0 ≤ c ∧ c ≤ 64 ∧ (l : Int) = r * c
set_option maxHeartbeats 1000000 in
theorem eliminated_bad (r c r2 q : Int) (l ca lb cb : Nat) (a b : Option Addr) (w : World) (s : Addr) (hs : w.cell? ⟨4, 0, none⟩ = some (errAt s)) (h : ¬ FormOk r c l) :
    Calls Tryz.prog 126 #[.agg #[.int .i64 r, .int .i64 c, .slice a l ca], .agg #[.int .i64 r2, .int .i64 q, .slice b lb cb]] w fun e w' =>
      e = .returned (.tuple #[.slice none 0 0, .slice none 0 0, errAt s]) ∧ Below w.heap.size w w' := by
  have H : Hid _ := h
  clear h
  have HS : Hid _ := cell?_alloc_old (.cells #[.int .i64 r2, .int .i64 q, .slice b lb cb] 73) (cell?_alloc_old (.cells #[.int .i64 r, .int .i64 c, .slice a l ca] 73) hs)
  clear hs
  unfold errAt at *
  go_enter Tryz.func126, Tryz.ntmps126
  go_wp2_with fail
  refine Calls.mono (check_bad r c a l ca _ _ HS.out H.out) ?_
  rintro e w1 ⟨rfl, hb1⟩
  have c9 := cell_later hb1 HS.out
  have HB1 : Hid (Below w.heap.size w w1) := (((Below.refl w.heap.size w).alloc (Nat.le_refl _) _).alloc (by simp) _).trans (hb1.mono (by simp; omega))
  clear hb1
  go_wp2
  go_region
  go_wp2
  refine bodyPost_ret (v := .tuple #[.slice none 0 0, .slice none 0 0, .iface 191 (.pointer (some s))]) (by simp [results, Tryz.results126, go_sem]) rfl ⟨rfl, HB1.out.drew⟩
set_option maxHeartbeats 1000000 in
theorem eliminated_odd (r c : Nat) (r2 q : Int) (l ca lb cb : Nat) (a b : Option Addr) (w : World) (s : Addr) (hs : w.cell? ⟨4, 0, none⟩ = some (errAt s)) (hr : r ≤ 64) (hc : c ≤ 64) (hl : l = r * c) (h : (r : Int) ≠ r2) :
    Calls Tryz.prog 126 #[.agg #[.int .i64 r, .int .i64 c, .slice a l ca], .agg #[.int .i64 r2, .int .i64 q, .slice b lb cb]] w fun e w' =>
      e = .returned (.tuple #[.slice none 0 0, .slice none 0 0, errAt s]) ∧ Below w.heap.size w w' := by
  have H : Hid _ := hl
  clear hl
  have HS : Hid _ := cell?_alloc_old (.cells #[.int .i64 r2, .int .i64 q, .slice b lb cb] 73) (cell?_alloc_old (.cells #[.int .i64 r, .int .i64 c, .slice a l ca] 73) hs)
  clear hs
  unfold errAt at *
  have hne : ((r : Int) != r2) = true := by simpa using h
  go_enter Tryz.func126, Tryz.ntmps126
  go_wp2_with fail
  refine Calls.mono (check_ok r c a l ca _ hr hc H.out) ?_
  rintro e w1 ⟨rfl, hb1⟩
  have hA := holds_later (holds_new (holds_new (holds_nil w) #[.int .i64 r, .int .i64 c, .slice a l ca] 73) #[.int .i64 r2, .int .i64 q, .slice b lb cb] 73) hb1
  rw [World.size_alloc] at hA
  have c1 := cellAt (holds_at hA 1 rfl) 0 _ rfl
  have c2 := cellAt (holds_at hA 0 rfl) 0 _ rfl
  have c9 := cell_later hb1 HS.out
  have HB1 : Hid (Below w.heap.size w w1) := (((Below.refl w.heap.size w).alloc (Nat.le_refl _) _).alloc (by simp) _).trans (hb1.mono (by simp; omega))
  clear hb1 hA
  go_wp2
  go_region
  go_wp2
  refine bodyPost_ret (v := .tuple #[.slice none 0 0, .slice none 0 0, .iface 191 (.pointer (some s))]) (by simp [results, Tryz.results126, go_sem]) rfl ⟨rfl, HB1.out.drew⟩
theorem rowsW_rows8 {w : World} {M n c : Nat} {f : Nat → Option Addr × Nat} {R : Mt} (h : RowsW w M n c f R) : Rows8 w (some ⟨M, 0, none⟩) ((List.range n).map fun k => rowF c (R k)) := by
  refine .inr ⟨M, 0, rfl, fun j x hx => ?_⟩
  simp only [List.getElem?_map, Option.map_eq_some_iff] at hx
  obtain ⟨i, hi, rfl⟩ := hx
  obtain ⟨hjk, hi2⟩ := List.getElem?_eq_some_iff.1 hi
  simp only [List.length_range] at hjk
  simp only [List.getElem_range] at hi2
  subst hi2
  refine ⟨(f j).1, (f j).2, ?_, (h.row j hjk).row8⟩
  rw [Nat.zero_add, rowF_len]
  exact cellAt h.blk j _ (slF_at hjk)
set_option maxHeartbeats 4000000 in
theorem reduce_F (r c l cap : Nat) (a : Option Addr) (xs : List F) (w : World) (hr : r ≤ 64) (hc : c ≤ 64) (hl : l = r * c) (hx : xs.length = r * c) (hcap : l ≤ cap) (hX : Row8 w a xs) (hnil : a = none → cap = 0) :
    Calls Tryz.prog 201 #[.agg #[.int .i64 r, .int .i64 c, .slice a l cap]] w fun e w' => ∃ g m av cv p R', e = .returned (.tuple #[.agg #[.int .i64 r, .int .i64 c, .slice (some ⟨g, 0, none⟩) m m], .slice av p.length cv, .nilIface]) ∧
      m = r * c ∧ w.heap.size ≤ g ∧ w'.heap[g]? = some (.cells (vfs (grid c R' r)) 5 (0, 0)) ∧ w'.ownsRow w.heap.size 3 1 (.slice av p.length cv) p.length (natV p) ∧
      Red R' p r c ∧ RowsIn R' r (cellF c xs) r c ∧ RowsIn (cellF c xs) r R' r c ∧ Below w.heap.size w w' := by
  have HL : Hid _ := hl
  have HX : Hid _ := hx
  have HRX : Hid (Row8 w a xs) := hX
  have HNA : Hid _ := hnil
  clear hl hx hX hnil
  go_enter Tryz.func201, Tryz.ntmps201
  go_wp2_with fail
  have hal := (((Below.refl w.heap.size w).alloc (Nat.le_refl _) (.cells #[.int .i64 r, .int .i64 c, .slice a l cap] 73)).alloc (by simp) (.cells #[.int .i64 0, .int .i64 0, .slice none 0 0] 73))
  refine Calls.mono (eliminated_F r c 0 l cap 0 0 a none xs [] _ hr hc (by omega) HL.out HX.out hcap (row8_below HRX.out hal) HNA.out (by omega) (by simp) (by omega) (.inl rfl) (fun _ => rfl)) ?_
  rintro e w2 ⟨M, av, cv, p, f', R', rfl, hM, hown, hrw, hred, hin, hback, hb2⟩
  have hA := holds_later (holds_new (holds_new (holds_nil w) #[.int .i64 r, .int .i64 c, .slice a l cap] 73) #[.int .i64 0, .int .i64 0, .slice none 0 0] 73) hb2
  rw [World.size_alloc] at hA
  have HW2 : Hid (Below w.heap.size w w2) := hal.trans (hb2.mono (by simp; omega))
  have c1 := cellAt (holds_at hA 1 rfl) 1 _ rfl
  have HA : Hid _ := hA
  have H1 : Hid _ := hown
  have H2 : Hid _ := hrw
  have H3 : Hid _ := hred
  have H4 : Hid _ := hin
  have H5 : Hid _ := hback
  clear hA hown hrw hred hin hback hb2 hM
  go_wp2_with fail
  refine Calls.mono (of_F c r r _ ((List.range r).map fun k => rowF c (R' k)) _ hc (by simp) hr (fun x hx => ?_) (rowsW_rows8 H2.out)) ?_
  · obtain ⟨i, _, rfl⟩ := List.mem_map.1 hx
    exact rowF_len _ _
  rintro e w3 ⟨g, m, rfl, hm, hg, hh, hb3⟩
  rw [← grid_flat] at hh
  have hA3 := holds_alloc (holds_cons (holds_later HA.out hb3) hh) (.cells #[.int .i64 r, .int .i64 c, .slice (some ⟨g, 0, none⟩) m m] 73)
  have hsz2 := HW2.out.size
  have HW3 : Hid (Below w.heap.size w (w3.alloc (.cells #[.int .i64 r, .int .i64 c, .slice (some ⟨g, 0, none⟩) m m] 73))) := (HW2.out.trans (hb3.mono HW2.out.size)).alloc (Nat.le_trans HW2.out.size hb3.size) _
  have z0 := ltHeap (holds_at HA.out 0 rfl)
  have k1 := holds_at hA3 1 rfl
  have c4 := cellAt k1 0 _ rfl
  have c5 := cellAt k1 1 _ rfl
  have c6 := cellAt k1 2 _ rfl
  have d4 : (w3.alloc (.cells #[.int .i64 r, .int .i64 c, .slice (some ⟨g, 0, none⟩) m m] 73)).frozen? ⟨w.heap.size + 1, 0, none⟩ = false := frozen_of_row _ _ _ _ _ k1
  have d5 : (w3.alloc (.cells #[.int .i64 r, .int .i64 c, .slice (some ⟨g, 0, none⟩) m m] 73)).frozen? ⟨w.heap.size + 1, 1, none⟩ = false := frozen_of_row _ _ _ _ _ k1
  have d6 : (w3.alloc (.cells #[.int .i64 r, .int .i64 c, .slice (some ⟨g, 0, none⟩) m m] 73)).frozen? ⟨w.heap.size + 1, 2, none⟩ = false := frozen_of_row _ _ _ _ _ k1
  have HH : Hid ((w3.alloc (.cells #[.int .i64 r, .int .i64 c, .slice (some ⟨g, 0, none⟩) m m] 73)).heap[g]? = some (.cells (vfs (grid c R' r)) 5 (0, 0))) := holds_at hA3 0 rfl
  have HM : Hid _ := hm
  have HO : Hid _ := (own_below H1.out hb3).alloc (.cells #[.int .i64 r, .int .i64 c, .slice (some ⟨g, 0, none⟩) m m] 73)
  clear hm hh hb3 hA3 k1 c1
  go_wp2
  refine bodyPost_ret (v := .tuple #[.agg #[.int .i64 r, .int .i64 c, .slice (some ⟨g, 0, none⟩) m m], .slice av p.length cv, .nilIface]) (by simp [results, Tryz.results201, go_sem, c4, c5, c6]) rfl ⟨g, m, av, cv, p, R', rfl, HM.out, by omega, ?_, ?_, H3.out, ?_, ?_, ?_⟩
  · rw [heap_setCell_other _ _ _ _ (by show g ≠ w.heap.size + 1; omega), heap_setCell_other _ _ _ _ (by show g ≠ w.heap.size + 1; omega), heap_setCell_other _ _ _ _ (by show g ≠ w.heap.size + 1; omega)]
    exact HH.out
  · refine own_lower (ownsRow_setCell_below (ownsRow_setCell_below (ownsRow_setCell_below HO.out ?_ _) ?_ _) ?_ _) ?_ <;> simp; omega
  · exact RowsIn.congr_right H4.out fun i hi j hj => by simp [cellF, augL, hj]
  · exact RowsIn.congr_left H5.out fun i hi j hj => by simp [cellF, augL, hj]
  · exact ((HW3.out.setCell (by simp) _).setCell (by simp) _).setCell (by simp) _
set_option maxHeartbeats 2000000 in
theorem reduce_bad (r c : Int) (l cap : Nat) (a : Option Addr) (w : World) (s : Addr) (hs : w.cell? ⟨4, 0, none⟩ = some (errAt s)) (h : ¬ FormOk r c l) :
    Calls Tryz.prog 201 #[.agg #[.int .i64 r, .int .i64 c, .slice a l cap]] w fun e w' => e = .returned (.tuple #[.agg #[.int .i64 0, .int .i64 0, .slice none 0 0], .slice none 0 0, errAt s]) ∧ Below w.heap.size w w' := by
  have H : Hid _ := h
  clear h
  have HS : Hid _ := cell?_alloc_old (.cells #[.int .i64 0, .int .i64 0, .slice none 0 0] 73) (cell?_alloc_old (.cells #[.int .i64 r, .int .i64 c, .slice a l cap] 73) hs)
  clear hs
  go_enter Tryz.func201, Tryz.ntmps201
  go_wp2_with fail
  refine Calls.mono (eliminated_bad r c r 0 l cap 0 0 a none _ s HS.out H.out) ?_
  rintro e w2 ⟨rfl, hb2⟩
  have hal := (((Below.refl w.heap.size w).alloc (Nat.le_refl _) (.cells #[.int .i64 r, .int .i64 c, .slice a l cap] 73)).alloc (by simp) (.cells #[.int .i64 0, .int .i64 0, .slice none 0 0] 73))
  have hA := holds_later (holds_new (holds_new (holds_nil w) #[.int .i64 r, .int .i64 c, .slice a l cap] 73) #[.int .i64 0, .int .i64 0, .slice none 0 0] 73) hb2
  rw [World.size_alloc] at hA
  have HW2 : Hid (Below w.heap.size w w2) := hal.trans (hb2.mono (by simp; omega))
  have k1 := holds_at hA 0 rfl
  have c4 := cellAt k1 0 _ rfl
  have c5 := cellAt k1 1 _ rfl
  have c6 := cellAt k1 2 _ rfl
  have d4 : w2.frozen? ⟨w.heap.size + 1, 0, none⟩ = false := frozen_of_row _ _ _ _ _ k1
  have d5 : w2.frozen? ⟨w.heap.size + 1, 1, none⟩ = false := frozen_of_row _ _ _ _ _ k1
  have d6 : w2.frozen? ⟨w.heap.size + 1, 2, none⟩ = false := frozen_of_row _ _ _ _ _ k1
  unfold errAt at *
  clear hA k1 hb2 hal
  go_wp2
  refine bodyPost_ret (v := .tuple #[.agg #[.int .i64 0, .int .i64 0, .slice none 0 0], .slice none 0 0, .iface 191 (.pointer (some s))]) (by simp [results, Tryz.results201, go_sem, c4, c5, c6]) rfl ⟨rfl, ?_⟩
  exact ((HW2.out.setCell (by simp) _).setCell (by simp) _).setCell (by simp) _
/-- the rank, as the program tells it -/
theorem rank_F (r c l cap : Nat) (a : Option Addr) (xs : List F) (w : World) (hr : r ≤ 64) (hc : c ≤ 64) (hl : l = r * c) (hx : xs.length = r * c) (hcap : l ≤ cap) (hX : Row8 w a xs) (hnil : a = none → cap = 0) :
    Calls Tryz.prog 198 #[.agg #[.int .i64 r, .int .i64 c, .slice a l cap]] w fun e w' => e = .returned (.tuple #[.int .i64 (pivL (cellF c xs) r c).length, .nilIface]) ∧ Below w.heap.size w w' := by
  have HL : Hid _ := hl
  have HX : Hid _ := hx
  have HRX : Hid (Row8 w a xs) := hX
  have HNA : Hid _ := hnil
  clear hl hx hX hnil
  go_enter Tryz.func198, Tryz.ntmps198
  go_wp2_with fail
  refine Calls.mono (reduce_F r c l cap a xs _ hr hc HL.out HX.out hcap (row8_alloc HRX.out _) HNA.out) ?_
  rintro e w2 ⟨g, m, av, cv, p, R', rfl, _, _, _, _, hred, hin, hback, hb2⟩
  have hp := hred.eq hin hback (Nat.le_refl _)
  have HP : Hid _ := hp
  have HW2 : Hid (Below w.heap.size w w2) := ((Below.refl w.heap.size w).alloc (Nat.le_refl _) _).trans (hb2.mono (by simp))
  clear hp hred hin hback hb2
  go_wp2
  go_ret2
  exact ⟨by rw [HP.out]; rfl, HW2.out.alloc HW2.out.size _⟩
theorem rank_bad (r c : Int) (l cap : Nat) (a : Option Addr) (w : World) (s : Addr) (hs : w.cell? ⟨4, 0, none⟩ = some (errAt s)) (h : ¬ FormOk r c l) :
    Calls Tryz.prog 198 #[.agg #[.int .i64 r, .int .i64 c, .slice a l cap]] w fun e w' => e = .returned (.tuple #[.int .i64 0, errAt s]) ∧ Below w.heap.size w w' := by
  have H : Hid _ := h
  have HS : Hid _ := cell?_alloc_old (.cells #[.int .i64 r, .int .i64 c, .slice a l cap] 73) hs
  clear h hs
  go_enter Tryz.func198, Tryz.ntmps198
  go_wp2_with fail
  refine Calls.mono (reduce_bad r c l cap a _ s HS.out H.out) ?_
  rintro e w2 ⟨rfl, hb2⟩
  have HW2 : Hid (Below w.heap.size w w2) := ((Below.refl w.heap.size w).alloc (Nat.le_refl _) _).trans (hb2.mono (by simp))
  unfold errAt at *
  clear hb2
  go_wp2
  go_ret2
  exact ⟨rfl, HW2.out.alloc HW2.out.size _⟩
theorem cellF_tr {r c : Nat} {xs : List F} : ∀ i, i < c → ∀ j, j < r → cellF r (trM r c xs) i j = tr (cellF c xs) i j := fun i hi j hj => by
  simp only [cellF, tr, trM]; exact at8_grid hi hj
end Go.Proofs.YtkoakingmnjdoaaGreatDoor

/- Plain algebra of stage 10: what a straight-line program makes of sums of inputs, and what its meaning says of all inputs; no program is spoken of. -/
namespace Go.Proofs.YtkoakingmnjdoaaGreatDoor
open Gf
set_option linter.unusedVariables false
set_option maxRecDepth 20000
def gaR (R S : Regs) : Regs := fun d b => ga (R d b) (S d b)
theorem ga4 (a b c d : F) : ga (ga a b) (ga c d) = ga (ga a c) (ga b d) := by
  rw [F.add_assoc, F.add_assoc, F.add_left_comm b c d]
theorem doR_1 {X : Int → Nat → F} {s : Stp} {R : Regs} (h : s.op = 1) : doR X s R = setR R s.dst (X s.src) := by rw [doR, if_pos h]
theorem doR_2 {X : Int → Nat → F} {s : Stp} {R : Regs} (h : s.op = 2) : doR X s R = setR R s.dst (fun _ => 0) := by rw [doR, if_neg (by omega), if_pos h]
theorem doR_3 {X : Int → Nat → F} {s : Stp} {R : Regs} (h : s.op = 3) : doR X s R = setR R s.dst (fun b => gm s.c (R s.dst b)) := by rw [doR, if_neg (by omega), if_neg (by omega), if_pos h]
theorem doR_4 {X : Int → Nat → F} {s : Stp} {R : Regs} (h : s.op = 4) : doR X s R = setR R s.dst (fun b => ga (R s.dst b) (gm s.c (R s.src b))) := by rw [doR, if_neg (by omega), if_neg (by omega), if_neg (by omega), if_pos h]
theorem doR_n {X : Int → Nat → F} {s : Stp} {R : Regs} (h1 : s.op ≠ 1) (h2 : s.op ≠ 2) (h3 : s.op ≠ 3) (h4 : s.op ≠ 4) : doR X s R = R := by rw [doR, if_neg h1, if_neg h2, if_neg h3, if_neg h4]
theorem gaR_setR (R S : Regs) (d : Int) (v u : Nat → F) : gaR (setR R d v) (setR S d u) = setR (gaR R S) d (fun b => ga (v b) (u b)) := by
  funext r b
  by_cases e : r = d
  · subst e; simp only [gaR, setR_same]
  · simp only [gaR, setR_other e]
theorem doR_add (X Y : Int → Nat → F) (s : Stp) (R S : Regs) : doR (gaR X Y) s (gaR R S) = gaR (doR X s R) (doR Y s S) := by
  by_cases h1 : s.op = 1
  · rw [doR_1 h1, doR_1 h1, doR_1 h1, gaR_setR]; rfl
  by_cases h2 : s.op = 2
  · rw [doR_2 h2, doR_2 h2, doR_2 h2, gaR_setR]; simp only [F.add_self]
  by_cases h3 : s.op = 3
  · rw [doR_3 h3, doR_3 h3, doR_3 h3, gaR_setR]; simp only [gaR, F.mul_add]
  by_cases h4 : s.op = 4
  · rw [doR_4 h4, doR_4 h4, doR_4 h4, gaR_setR]; simp only [gaR, F.mul_add]; congr 1; funext b; exact ga4 _ _ _ _
  · rw [doR_n h1 h2 h3 h4, doR_n h1 h2 h3 h4, doR_n h1 h2 h3 h4]
theorem doO_add (s : Stp) (R S O P : Regs) : doO s (gaR R S) (gaR O P) = gaR (doO s R O) (doO s S P) := by
  unfold doO
  by_cases h5 : s.op = 5
  · rw [if_pos h5, if_pos h5, if_pos h5, gaR_setR]; rfl
  · rw [if_neg h5, if_neg h5, if_neg h5]
theorem runO_add (X Y : Int → Nat → F) : ∀ (l : List Stp) (R S O P : Regs), runO (gaR X Y) l (gaR R S) (gaR O P) = gaR (runO X l R O) (runO Y l S P)
  | [], R, S, O, P => rfl
  | s :: l, R, S, O, P => by rw [runO, runO, runO, doR_add, doO_add]; exact runO_add X Y l _ _ _ _
def noR : Regs := fun _ _ => 0
theorem gaR_no : gaR noR noR = noR := by funext r b; exact F.add_self _
/-- of sums of inputs the sums of outputs -/
theorem run_sum (X Y : Int → Nat → F) (l : List Stp) : runO (gaR X Y) l noR noR = gaR (runO X l noR noR) (runO Y l noR noR) := by
  have := runO_add X Y l noR noR noR noR
  rwa [gaR_no] at this
/-- inputs that are alike where they are loaded make alike outputs -/
theorem run_alike {X Y : Int → Nat → F} {b : Nat} : ∀ {l : List Stp}, (∀ s ∈ l, s.op = 1 → X s.src b = Y s.src b) → ∀ (R S O P : Regs), (∀ r, R r b = S r b) → (∀ r, O r b = P r b) → ∀ r, runO X l R O r b = runO Y l S P r b
  | [], h, R, S, O, P, hR, hO, r => hO r
  | s :: l, h, R, S, O, P, hR, hO, r => by
    rw [runO, runO]
    refine run_alike (fun t ht => h t (List.mem_cons_of_mem _ ht)) _ _ _ _ (fun q => ?_) (fun q => ?_) r
    · have h1' := h s (List.mem_cons_self ..)
      by_cases h1 : s.op = 1
      · rw [doR_1 h1, doR_1 h1]
        by_cases e : q = s.dst
        · subst e; rw [setR_same, setR_same]; exact h1' h1
        · rw [setR_other e, setR_other e]; exact hR q
      by_cases h2 : s.op = 2
      · rw [doR_2 h2, doR_2 h2]
        by_cases e : q = s.dst
        · subst e; rw [setR_same, setR_same]
        · rw [setR_other e, setR_other e]; exact hR q
      by_cases h3 : s.op = 3
      · rw [doR_3 h3, doR_3 h3]
        by_cases e : q = s.dst
        · subst e; rw [setR_same, setR_same, hR]
        · rw [setR_other e, setR_other e]; exact hR q
      by_cases h4 : s.op = 4
      · rw [doR_4 h4, doR_4 h4]
        by_cases e : q = s.dst
        · subst e; rw [setR_same, setR_same, hR, hR]
        · rw [setR_other e, setR_other e]; exact hR q
      · rw [doR_n h1 h2 h3 h4, doR_n h1 h2 h3 h4]; exact hR q
    · unfold doO
      by_cases h5 : s.op = 5
      · rw [if_pos h5, if_pos h5]
        by_cases e : q = s.dst
        · subst e; rw [setR_same, setR_same]; exact hR _
        · rw [setR_other e, setR_other e]; exact hO q
      · rw [if_neg h5, if_neg h5]; exact hO q
/-- what a state is of the inputs, told by what it is of unit columns -/
def MeanR (X : Int → Nat → F) (n b : Nat) (R U : Regs) : Prop := ∀ r, R r b = sumF (fun i => gm (U r i) (X (i : Int) b)) n
theorem meanR_do {X : Int → Nat → F} {n b : Nat} {R U : Regs} {s : Stp} (h : MeanR X n b R U) (hs : s.op = 1 → 0 ≤ s.src ∧ s.src < n) : MeanR X n b (doR X s R) (doR unX s U) := by
  intro r
  by_cases h1 : s.op = 1
  · rw [doR_1 h1, doR_1 h1]
    by_cases e : r = s.dst
    · subst e
      rw [setR_same]
      simp only [setR_same]
      obtain ⟨ha, hb⟩ := hs h1
      obtain ⟨k, hk⟩ := Int.eq_ofNat_of_zero_le ha
      rw [sumF_pick (fun i => gm (unX s.src i) (X (i : Int) b)) k n (by omega) (fun l _ hl => by
        simp only [unX]; rw [if_neg (by omega), F.zero_mul])]
      simp only [unX]; rw [if_pos (by omega), F.one_mul, hk]
    · rw [setR_other e]; simp only [setR_other e]; exact h r
  by_cases h2 : s.op = 2
  · rw [doR_2 h2, doR_2 h2]
    by_cases e : r = s.dst
    · subst e; rw [setR_same]; simp only [setR_same]; exact (sumF_none fun l _ => F.zero_mul _).symm
    · rw [setR_other e]; simp only [setR_other e]; exact h r
  by_cases h3 : s.op = 3
  · rw [doR_3 h3, doR_3 h3]
    by_cases e : r = s.dst
    · subst e; rw [setR_same]; simp only [setR_same]; rw [h s.dst, sumF_mul_left]; exact sumF_congr fun l _ => (F.mul_assoc _ _ _).symm
    · rw [setR_other e]; simp only [setR_other e]; exact h r
  by_cases h4 : s.op = 4
  · rw [doR_4 h4, doR_4 h4]
    by_cases e : r = s.dst
    · subst e; rw [setR_same]; simp only [setR_same]; rw [h s.dst, h s.src, sumF_mul_left, ← sumF_add]; exact sumF_congr fun l _ => by rw [F.add_mul, F.mul_assoc]
    · rw [setR_other e]; simp only [setR_other e]; exact h r
  · rw [doR_n h1 h2 h3 h4, doR_n h1 h2 h3 h4]; exact h r
theorem meanO_do {X : Int → Nat → F} {n b : Nat} {R U O V : Regs} {s : Stp} (h : MeanR X n b R U) (k : MeanR X n b O V) : MeanR X n b (doO s R O) (doO s U V) := by
  intro r
  unfold doO
  by_cases h5 : s.op = 5
  · rw [if_pos h5, if_pos h5]
    by_cases e : r = s.dst
    · subst e; rw [setR_same]; simp only [setR_same]; exact h _
    · rw [setR_other e]; simp only [setR_other e]; exact k r
  · rw [if_neg h5, if_neg h5]; exact k r
theorem meanR_run {X : Int → Nat → F} {n b : Nat} : ∀ {l : List Stp}, (∀ s ∈ l, s.op = 1 → 0 ≤ s.src ∧ s.src < n) → ∀ {R U O V : Regs}, MeanR X n b R U → MeanR X n b O V → MeanR X n b (runO X l R O) (runO unX l U V)
  | [], _, R, U, O, V, h, k => k
  | s :: l, hs, R, U, O, V, h, k => by
    rw [runO, runO]
    exact meanR_run (fun t ht => hs t (List.mem_cons_of_mem _ ht)) (meanR_do h (hs s (List.mem_cons_self ..))) (meanO_do h k)
theorem meanR_no (X : Int → Nat → F) (n b : Nat) : MeanR X n b noR noR := fun r => (sumF_none fun l _ => F.zero_mul _).symm
/-- the outputs are the meaning's rows times the inputs -/
theorem run_mean (X : Int → Nat → F) (n b : Nat) {l : List Stp} (hs : ∀ s ∈ l, s.op = 1 → 0 ≤ s.src ∧ s.src < n) (d : Int) : runO X l noR noR d b = sumF (fun i => gm (runO unX l noR noR d i) (X (i : Int) b)) n := meanR_run hs (meanR_no X n b) (meanR_no X n b) d
end Go.Proofs.YtkoakingmnjdoaaGreatDoor

/- What Solve and Express of package solve answer, of all matrices and lists. -/
namespace Go.Proofs.YtkoakingmnjdoaaGreatDoor
open Go.RowKit Gf
set_option linter.unusedVariables false
set_option maxRecDepth 20000
/-- the solution of a reduced matrix, as far as the first k pivots go -/
def solX (c : Nat) (p : List Nat) (R : Mt) (k : Nat) : List F := rowF c (onF (p.getD · 0) (fun i => R i c) k)
theorem solX_len (c : Nat) (p : List Nat) (R : Mt) (k : Nat) : (solX c p R k).length = c := rowF_len _ _
theorem solX_zero (c : Nat) (p : List Nat) (R : Mt) : zeros c = solX c p R 0 := rowF_eq (zeros_len _) fun j _ => at8_zeros _ _
theorem solX_step {c k j : Nat} {p : List Nat} (R : Mt) (hp : p.Pairwise (· < ·)) (hk : p[k]? = some j) (hj : j < c) : (solX c p R k).set j (R k c) = solX c p R (k + 1) := by
  have hkl := (List.getElem?_eq_some_iff.1 hk).1
  have hg : p.getD k 0 = j := by simp [List.getD, hk]
  refine rowF_eq (by rw [List.length_set, solX_len]) fun l hl => ?_
  have h1 : at8 (solX c p R k) l = onF (p.getD · 0) (fun i => R i c) k l := at8_rowF hl
  have h2 : at8 ((solX c p R k).set j (R k c)) l = if l = j then R k c else at8 (solX c p R k) l := by
    simp only [at8, List.getD, List.getElem?_set, solX_len]
    by_cases e : j = l
    · subst e; simp [hl]
    · simp [e, show ¬ l = j from fun h => e h.symm]
  rw [h2, h1]
  simp only [onF, sumF, hg]
  by_cases e : l = j
  · subst e
    rw [if_pos rfl, if_pos rfl, sumF_none, F.zero_add]
    intro i hi
    have hil : i < p.length := by omega
    have := List.pairwise_iff_getElem.1 hp i k hil hkl hi
    have e1 : p[k] = l := by rw [List.getElem?_eq_getElem hkl] at hk; exact Option.some.inj hk
    rw [if_neg]
    simp only [List.getD, List.getElem?_eq_getElem hil, Option.getD_some]
    omega
  · rw [if_neg e, if_neg (fun h => e h.symm), F.add_zero]
theorem natV_at {p : List Nat} {k j : Nat} (h : p[k]? = some j) : (natV p)[k]? = some (.int .i64 j) := by simp [natV, h]
/-- what Solve tells where there is a solution: the only one that is 0 off the pivots -/
structure SolOf (A : Mt) (r c : Nat) (v x : Nat → F) : Prop where
  sol : ∀ i, i < r → v i = sumF (fun l => gm (A i l) (x l)) c
  off : ∀ l, l < c → l ∉ pivL A r c → x l = 0
theorem SolOf.same {A : Mt} {r c : Nat} {v x y : Nat → F} (h : SolOf A r c v x) (k : SolOf A r c v y) : ∀ l, l < c → x l = y l :=
  sols_eq h.off k.off fun i hi => (h.sol i hi).symm.trans (k.sol i hi)
theorem own_nat {w : World} {B cp k j : Nat} {av : Option Addr} {p : List Nat} (ho : w.ownsRow B 3 1 (.slice av p.length cp) p.length (natV p)) (hk : p[k]? = some j) : ∃ g, av = some ⟨g, 0, none⟩ ∧ g < w.heap.size ∧ w.cell? ⟨g, k, none⟩ = some (.int .i64 j) := by
  have hkl := (List.getElem?_eq_some_iff.1 hk).1
  rcases ho.2 with ⟨e, e0⟩ | ⟨g, cap, cur, e, h1, h2, h3⟩
  · omega
  · cases e
    refine ⟨g, rfl, ltHeap h2, ?_⟩
    rw [ho.cellAt k (by omega), natV_at hk]
set_option maxHeartbeats 8000000 in
theorem solve_F (r c l cap lv cv : Nat) (a b : Option Addr) (xs vs : List F) (w : World) (hr : r ≤ 64) (hc : c ≤ 64) (hl : l = r * c) (hx : xs.length = r * c) (hcap : l ≤ cap) (hX : Row8 w a xs) (hnil : a = none → cap = 0)
    (hlv : lv = r) (hv : vs.length = r) (hcv : lv ≤ cv) (hV : Row8 w b vs) (hnb : b = none → cv = 0) :
    Calls Tryz.prog 118 #[.agg #[.int .i64 r, .int .i64 c, .slice a l cap], .slice b lv cv] w fun e w' =>
      (∃ g x, e = .returned (.tuple #[.slice (some ⟨g, 0, none⟩) c c, .bool true, .nilIface]) ∧ w.heap.size ≤ g ∧ w'.heap[g]? = some (.cells (vfs (rowF c x)) 5 (0, 0)) ∧ SolOf (cellF c xs) r c (at8 vs) x ∧ Below w.heap.size w w') ∨
      (e = .returned (.tuple #[.slice none 0 0, .bool false, .nilIface]) ∧ ¬ Dep (cellF c xs) r c (at8 vs) ∧ Below w.heap.size w w') := by
  subst hlv
  have HL : Hid _ := hl
  have HX : Hid _ := hx
  have HV : Hid _ := hv
  have HRX : Hid (Row8 w a xs) := hX
  have HRV : Hid (Row8 w b vs) := hV
  have HNA : Hid _ := hnil
  have HNB : Hid _ := hnb
  clear hl hx hX hnil hv hV hnb
  go_enter Tryz.func118, Tryz.ntmps118
  go_wp2_with fail
  have hal := ((Below.refl w.heap.size w).alloc (Nat.le_refl _) (.cells #[.int .i64 lv, .int .i64 c, .slice a l cap] 73))
  refine Calls.mono (eliminated_F lv c 1 l cap lv cv a b xs vs _ hr hc (by omega) HL.out HX.out hcap (row8_below HRX.out hal) HNA.out (by omega) (by rw [HV.out]; omega) hcv (row8_below HRV.out hal) HNB.out) ?_
  rintro e w2 ⟨M, av, cp, p, f', R', rfl, hM, hown, hrw, hred, hin, hback, hb2⟩
  have hA := holds_later (holds_new (holds_nil w) #[.int .i64 lv, .int .i64 c, .slice a l cap] 73) hb2
  have HW2 : Hid (Below w.heap.size w w2) := hal.trans (hb2.mono (by simp))
  have eA : ∀ i, i < lv → ∀ j, j < c → augL c 1 xs vs i j = cellF c xs i j := fun i hi j hj => by simp [augL, cellF, hj]
  have eV : ∀ i, augL c 1 xs vs i c = at8 vs i := fun i => by simp [augL]
  have hp : p = pivL (cellF c xs) lv c := (hred.eq hin hback (by omega)).trans (pivL_congr eA)
  have hplen := hred.len
  have c1 := cellAt (holds_at hA 0 rfl) 1 _ rfl
  have HA : Hid _ := hA
  have H1 : Hid _ := hown
  have H2 : Hid _ := hrw
  have H3 : Hid _ := hred
  have H4 : Hid _ := hin
  have H5 : Hid _ := hback
  have HP : Hid _ := hp
  have EA : Hid _ := eA
  have EV : Hid _ := eV
  clear hA hown hrw hred hin hback hb2 hp eA eV hal
  have hmk := run_make8 c (by omega)
  by_cases hfull : p.length = lv
  · subst hfull
    have HZ : Hid (∀ i, p.length ≤ i → i < p.length → R' i c = 0) := fun i h1 h2 => by omega
    go_wp2
    go_loopw [33] (fun i wr => i = .int .i64 0 ∧ wr = w2) (fun _ _ => 0)
    case atStart => exact ⟨rfl, rfl⟩
    case round =>
      obtain ⟨rfl, hwr⟩ := hrel
      subst hwr
      have hA3 := holds_alloc HA.out (.cells (vfs (zeros c)) 5)
      have HA3 : Hid _ := hA3
      have HM3 : Hid ((wr.alloc (.cells (vfs (zeros c)) 5)).heap[wr.heap.size]? = some (.cells (vfs (solX c p R' 0)) 5 (0, 0))) := by
        show _ = _
        rw [← solX_zero c p R']; exact heap_alloc_last wr _
      have HW3 : Hid (Below w.heap.size w (wr.alloc (.cells (vfs (zeros c)) 5))) := HW2.out.alloc HW2.out.size _
      have HRW3 : Hid _ := H2.out.below ((Below.refl _ _).alloc (Nat.le_refl _) (.cells (vfs (zeros c)) 5))
      have HO3 : Hid _ := World.ownsRow.alloc H1.out (.cells (vfs (zeros c)) 5)
      have zM := ltHeap H2.out.blk
      have zB := ltHeap (holds_at HA.out 0 rfl)
      have zW := HW2.out.size
      have HGN : Hid (∀ (k j g : Nat), p[k]? = some j → av = some ⟨g, 0, none⟩ → g < wr.heap.size) := fun k j g h e => by
        obtain ⟨g', e', hg', _⟩ := own_nat H1.out h
        rw [e] at e'; cases e'; exact hg'
      have HBN : Hid (∀ (k bo oo mo : Nat), k < p.length → f' k = (some ⟨bo, oo, none⟩, mo) → bo < wr.heap.size) := fun k bo oo mo h e => by
        obtain ⟨bo', oo', mo', e', _, _, h', _, _⟩ := H2.out.get h (show c < c + 1 by omega)
        rw [e] at e'; cases e'; exact h'
      clear hA3
      go_wp2
      clear hmk
      generalize hN : wr.heap.size = N at *
      generalize (wr.alloc (.cells (vfs (zeros c)) 5)) = W3 at *
      clear hN c1
      go_loopw [49] (fun i wr => ∃ k : Nat, k ≤ p.length ∧ i = .int .i64 k ∧ W3.grownBy wr (some N) ∧ wr.heap[N]? = some (.cells (vfs (solX c p R' k)) 5 (0, 0))) (fun i _ => p.length - (intOf i).toNat)
      case atStart => exact ⟨0, by omega, rfl, World.grownBy.refl _ _, HM3.out⟩
      case round =>
        obtain ⟨k, hk, rfl, hgb, hs⟩ := hrel
        have HGB : Hid _ := hgb
        have HS : Hid _ := hs
        by_cases hlt : k < p.length
        · obtain ⟨j, hj⟩ : ∃ j, p[k]? = some j := ⟨_, List.getElem?_eq_getElem hlt⟩
          have hjc := H3.out.lt k j hj
          have HJ : Hid _ := hj
          obtain ⟨g, rfl, hg, c2⟩ := own_nat HO3.out hj
          obtain ⟨bo, oo, mo, hfo, hmo, hboM, hbo, c3, c4⟩ := HRW3.out.get (Nat.lt_of_lt_of_le hlt hplen) (show c < c + 1 by omega)
          have c5 := cellAt (grown_block hgb (holds_at HA3.out 0 rfl) (by omega)) 1 _ rfl
          have hgN : g ≠ N := Nat.ne_of_lt (HGN.out k j g hj rfl)
          have hboN : bo ≠ N := Nat.ne_of_lt (HBN.out k bo oo mo (Nat.lt_of_lt_of_le hlt hplen) hfo)
          have c2' : wr.cell? ⟨g, k, none⟩ = some (.int .i64 j) := by rw [← c2]; simp only [World.cell?, hgb.block g hg (by simpa using hgN)]
          have c3' : wr.cell? ⟨M, k, none⟩ = some (.slice (some ⟨bo, oo, none⟩) (c + 1) mo) := by rw [← c3]; simp only [World.cell?, hgb.block M (ltHeap HRW3.out.blk) (by simp; omega)]
          have c4' : wr.cell? ⟨bo, oo + c, none⟩ = some (.int .u8 ((R' k c).toNat : Int)) := by rw [← c4]; simp only [World.cell?, hgb.block bo hbo (by simpa using hboN)]
          have c6 : wr.cell? ⟨N, j, none⟩ = some (.int .u8 ((at8 (solX c p R' k) j).toNat : Int)) := cellAt hs j _ (vfs_get _ _ (by rw [solX_len]; exact hjc))
          have d6 : wr.frozen? ⟨N, j, none⟩ = false := frozen_of_row _ _ _ _ _ hs
          have HT : Hid _ := solX_step R' H3.out.up hj hjc
          clear hgb hs hj hfo c2 c3 c4 hg
          go_wp2
          go_region
          go_wp2
          refine ⟨⟨k + 1, by omega, by go_num, grownBy_drew (grownBy_setCell HGB.out _), ?_⟩, by simp [intOf]; omega⟩
          show (wr.setCell _ _).heap[N]? = _
          rw [heap_setCell_same _ _ _ _ _ _ HS.out, vfs_set, HT.out]
        · obtain rfl : k = p.length := by omega
          clear hgb hs
          go_wp2
          refine bodyPost_ret (v := .tuple #[.slice (some ⟨N, 0, none⟩) c c, .bool true, .nilIface]) (by simp [results, Tryz.results118, go_sem]) rfl (.inl ⟨N, _, rfl, by omega, HS.out, ⟨fun i hi => ?_, fun l hl hn => ?_⟩, below_grown HW3.out HGB.out (by omega)⟩)
          · have := H3.out.solve H5.out HZ.out i hi
            rw [EV.out] at this
            rw [this]
            exact sumF_congr fun j hj => by rw [EA.out i hi j hj]
          · rw [← HP.out] at hn
            exact onF_off (Nat.le_refl _) hn
  · go_wp2
    go_loopw [33] (fun i wr => ∃ k : Nat, p.length + k ≤ lv ∧ i = .int .i64 k ∧ wr = w2 ∧ ∀ i, p.length ≤ i → i < p.length + k → R' i c = 0) (fun i _ => lv - (intOf i).toNat)
    case atStart => exact ⟨0, by omega, rfl, rfl, fun i h1 h2 => by omega⟩
    case round =>
      obtain ⟨k0, hk0, rfl, hwr, hz⟩ := hrel
      subst hwr
      by_cases hlt0 : p.length + k0 < lv
      · obtain ⟨bo, oo, mo, hfo, hmo, hboM, hbo, c3, c4⟩ := H2.out.get hlt0 (show c < c + 1 by omega)
        have HZ0 : Hid _ := hz
        clear hz hfo
        by_cases hzero : R' (p.length + k0) c = 0
        · rw [hzero] at c4
          go_wp2
          exact ⟨⟨k0 + 1, by omega, by go_num, by first | rfl | trivial, fun i h1 h2 => by
            by_cases e : i = p.length + k0
            · rw [e]; exact hzero
            · exact HZ0.out i h1 (by omega)⟩, by simp [intOf]; omega⟩
        · have hnz : ((R' (p.length + k0) c).toNat : Int) ≠ 0 := by
            intro e; exact hzero (F.val_eq_zero.1 (by omega))
          go_wp2
          refine bodyPost_ret (v := .tuple #[.slice none 0 0, .bool false, .nilIface]) (by simp [results, Tryz.results118, go_sem]) rfl (.inr ⟨rfl, ?_, HW2.out⟩)
          have hno := H3.out.solve_no H4.out (Nat.le_add_right _ _) hlt0 hzero
          intro hd
          obtain ⟨x, hx⟩ := hd
          refine hno ⟨x, fun i hi => ?_⟩
          show augL c 1 xs vs i c = _
          rw [EV.out, hx i hi]
          exact sumF_congr fun j hj => by rw [EA.out i hi j hj]
      · have e0 : p.length + k0 = lv := by omega
        have HZ : Hid (∀ i, p.length ≤ i → i < lv → R' i c = 0) := fun i h1 h2 => hz i h1 (by omega)
        clear hz
        have hA3 := holds_alloc HA.out (.cells (vfs (zeros c)) 5)
        have HA3 : Hid _ := hA3
        have HM3 : Hid ((wr.alloc (.cells (vfs (zeros c)) 5)).heap[wr.heap.size]? = some (.cells (vfs (solX c p R' 0)) 5 (0, 0))) := by
          show _ = _
          rw [← solX_zero c p R']; exact heap_alloc_last wr _
        have HW3 : Hid (Below w.heap.size w (wr.alloc (.cells (vfs (zeros c)) 5))) := HW2.out.alloc HW2.out.size _
        have HRW3 : Hid _ := H2.out.below ((Below.refl _ _).alloc (Nat.le_refl _) (.cells (vfs (zeros c)) 5))
        have HO3 : Hid _ := World.ownsRow.alloc H1.out (.cells (vfs (zeros c)) 5)
        have zM := ltHeap H2.out.blk
        have zB := ltHeap (holds_at HA.out 0 rfl)
        have zW := HW2.out.size
        have HGN : Hid (∀ (k j g : Nat), p[k]? = some j → av = some ⟨g, 0, none⟩ → g < wr.heap.size) := fun k j g h e => by
          obtain ⟨g', e', hg', _⟩ := own_nat H1.out h
          rw [e] at e'; cases e'; exact hg'
        have HBN : Hid (∀ (k bo oo mo : Nat), k < lv → f' k = (some ⟨bo, oo, none⟩, mo) → bo < wr.heap.size) := fun k bo oo mo h e => by
          obtain ⟨bo', oo', mo', e', _, _, h', _, _⟩ := H2.out.get h (show c < c + 1 by omega)
          rw [e] at e'; cases e'; exact h'
        clear hA3
        go_wp2
        clear hmk
        generalize hN : wr.heap.size = N at *
        generalize (wr.alloc (.cells (vfs (zeros c)) 5)) = W3 at *
        clear hN c1
        go_loopw [49] (fun i wr => ∃ k : Nat, k ≤ p.length ∧ i = .int .i64 k ∧ W3.grownBy wr (some N) ∧ wr.heap[N]? = some (.cells (vfs (solX c p R' k)) 5 (0, 0))) (fun i _ => p.length - (intOf i).toNat)
        case atStart => exact ⟨0, by omega, rfl, World.grownBy.refl _ _, HM3.out⟩
        case round =>
          obtain ⟨k, hk, rfl, hgb, hs⟩ := hrel
          have HGB : Hid _ := hgb
          have HS : Hid _ := hs
          by_cases hlt : k < p.length
          · obtain ⟨j, hj⟩ : ∃ j, p[k]? = some j := ⟨_, List.getElem?_eq_getElem hlt⟩
            have hjc := H3.out.lt k j hj
            have HJ : Hid _ := hj
            obtain ⟨g, rfl, hg, c2⟩ := own_nat HO3.out hj
            obtain ⟨bo, oo, mo, hfo, hmo, hboM, hbo, c3, c4⟩ := HRW3.out.get (Nat.lt_of_lt_of_le hlt hplen) (show c < c + 1 by omega)
            have c5 := cellAt (grown_block hgb (holds_at HA3.out 0 rfl) (by omega)) 1 _ rfl
            have hgN : g ≠ N := Nat.ne_of_lt (HGN.out k j g hj rfl)
            have hboN : bo ≠ N := Nat.ne_of_lt (HBN.out k bo oo mo (Nat.lt_of_lt_of_le hlt hplen) hfo)
            have c2' : wr.cell? ⟨g, k, none⟩ = some (.int .i64 j) := by rw [← c2]; simp only [World.cell?, hgb.block g hg (by simpa using hgN)]
            have c3' : wr.cell? ⟨M, k, none⟩ = some (.slice (some ⟨bo, oo, none⟩) (c + 1) mo) := by rw [← c3]; simp only [World.cell?, hgb.block M (ltHeap HRW3.out.blk) (by simp; omega)]
            have c4' : wr.cell? ⟨bo, oo + c, none⟩ = some (.int .u8 ((R' k c).toNat : Int)) := by rw [← c4]; simp only [World.cell?, hgb.block bo hbo (by simpa using hboN)]
            have c6 : wr.cell? ⟨N, j, none⟩ = some (.int .u8 ((at8 (solX c p R' k) j).toNat : Int)) := cellAt hs j _ (vfs_get _ _ (by rw [solX_len]; exact hjc))
            have d6 : wr.frozen? ⟨N, j, none⟩ = false := frozen_of_row _ _ _ _ _ hs
            have HT : Hid _ := solX_step R' H3.out.up hj hjc
            clear hgb hs hj hfo c2 c3 c4 hg
            go_wp2
            go_region
            go_wp2
            refine ⟨⟨k + 1, by omega, by go_num, grownBy_drew (grownBy_setCell HGB.out _), ?_⟩, by simp [intOf]; omega⟩
            show (wr.setCell _ _).heap[N]? = _
            rw [heap_setCell_same _ _ _ _ _ _ HS.out, vfs_set, HT.out]
          · obtain rfl : k = p.length := by omega
            clear hgb hs
            go_wp2
            refine bodyPost_ret (v := .tuple #[.slice (some ⟨N, 0, none⟩) c c, .bool true, .nilIface]) (by simp [results, Tryz.results118, go_sem]) rfl (.inl ⟨N, _, rfl, by omega, HS.out, ⟨fun i hi => ?_, fun l hl hn => ?_⟩, below_grown HW3.out HGB.out (by omega)⟩)
            · have := H3.out.solve H5.out HZ.out i hi
              rw [EV.out] at this
              rw [this]
              exact sumF_congr fun j hj => by rw [EA.out i hi j hj]
            · rw [← HP.out] at hn
              exact onF_off (Nat.le_refl _) hn
end Go.Proofs.YtkoakingmnjdoaaGreatDoor

/- Plain algebra of stage 11: the program that sums up sources, what it makes, that it is in form; which halves determine which; no program of Go is spoken of. -/
namespace Go.Proofs.YtkoakingmnjdoaaGreatDoor
open Go.RowKit Gf
set_option linter.unusedVariables false
set_option maxRecDepth 20000
/-- the steps that add a source, which stands in register h, onto the first n outputs that it is in -/
def addsP (c : Nat → F) (h : Int) : Nat → List Stp
  | 0 => []
  | n + 1 => addsP c h n ++ (if c n = 0 then [] else [⟨4, (n : Int), h, c n⟩])
/-- how many of the first sources are in an output -/
def cntP (C : Mt) (no : Nat) : Nat → Nat
  | 0 => 0
  | s + 1 => cntP C no s + (if addsP (fun o => C o s) no no = [] then 0 else 1)
def stpP (C : Mt) (no : Nat) : Nat → List Stp
  | 0 => []
  | s + 1 => stpP C no s ++ (if addsP (fun o => C o s) no no = [] then [] else ⟨1, (no : Int), (cntP C no s : Int), 0⟩ :: addsP (fun o => C o s) no no)
def insP (C : Mt) (no : Nat) (L : List Nat) : Nat → List Nat
  | 0 => []
  | s + 1 => insP C no L s ++ (if addsP (fun o => C o s) no no = [] then [] else [L.getD s 0])
def outsP : Nat → List Stp
  | 0 => []
  | o + 1 => outsP o ++ [⟨5, (o : Int), (o : Int), 0⟩]
def prgP (C : Mt) (no ns : Nat) : List Stp := stpP C no ns ++ outsP no
theorem addsP_op {c : Nat → F} {h : Int} : ∀ {n : Nat} {s : Stp}, s ∈ addsP c h n → s.op = 4 ∧ (0 ≤ s.dst ∧ s.dst < n) ∧ s.src = h
  | 0, s, hs => by cases hs
  | n + 1, s, hs => by
    rw [addsP, List.mem_append] at hs
    rcases hs with hs | hs
    · obtain ⟨h1, ⟨h2, h3⟩, h4⟩ := addsP_op hs
      exact ⟨h1, ⟨h2, by omega⟩, h4⟩
    · split at hs
      · cases hs
      · rw [List.mem_singleton] at hs
        subst hs
        exact ⟨rfl, ⟨by simp, by simp; omega⟩, rfl⟩
theorem addsP_nil {c : Nat → F} {h : Int} : ∀ {n : Nat}, addsP c h n = [] ↔ ∀ o, o < n → c o = 0
  | 0 => by simp [addsP]
  | n + 1 => by
    rw [addsP, List.append_eq_nil_iff, addsP_nil]
    constructor
    · rintro ⟨h1, h2⟩ o ho
      by_cases e : o = n
      · subst e
        by_cases h3 : c o = 0
        · exact h3
        · rw [if_neg h3] at h2; cases h2
      · exact h1 o (by omega)
    · intro hc
      exact ⟨fun o ho => hc o (by omega), by rw [if_pos (hc n (by omega))]⟩
theorem addsP_len {c : Nat → F} {h : Int} : ∀ n : Nat, (addsP c h n).length ≤ n
  | 0 => Nat.le_refl _
  | n + 1 => by
    have := addsP_len (c := c) (h := h) n
    rw [addsP, List.length_append]
    split <;> simp <;> omega
theorem runO_quiet {X : Int → Nat → F} : ∀ {l : List Stp} {R O : Regs}, (∀ s ∈ l, s.op ≠ 5) → runO X l R O = O
  | [], R, O, _ => rfl
  | s :: l, R, O, h => by
    rw [runO, runO_quiet fun t ht => h t (List.mem_cons_of_mem _ ht)]
    unfold doO
    rw [if_neg (h s (List.mem_cons_self ..))]
theorem run_adds {X : Int → Nat → F} {c : Nat → F} {h : Int} {R : Regs} : ∀ {n : Nat}, (n : Int) ≤ h →
    (∀ o : Nat, o < n → runR X (addsP c h n) R (o : Int) = fun b => ga (R (o : Int) b) (gm (c o) (R h b))) ∧ (∀ r : Int, (∀ o : Nat, o < n → r ≠ (o : Int)) → runR X (addsP c h n) R r = R r)
  | 0, _ => ⟨fun o ho => absurd ho (Nat.not_lt_zero _), fun r _ => rfl⟩
  | n + 1, hn => by
    obtain ⟨i1, i2⟩ := run_adds (X := X) (c := c) (h := h) (R := R) (n := n) (by omega)
    have ih : runR X (addsP c h n) R h = R h := i2 h (fun o ho => by omega)
    rw [addsP, runR_app]
    by_cases h0 : c n = 0
    · rw [if_pos h0]
      refine ⟨fun o ho => ?_, fun r hr => ?_⟩
      · by_cases e : o = n
        · subst e
          rw [show runR X [] (runR X (addsP c h o) R) = runR X (addsP c h o) R from rfl, i2 _ (fun p hp => by omega), h0]
          funext b
          rw [F.zero_mul, F.add_zero]
        · exact i1 o (by omega)
      · exact i2 r (fun o ho => hr o (by omega))
    · rw [if_neg h0]
      have e1 : runR X [⟨4, (n : Int), h, c n⟩] (runR X (addsP c h n) R) = setR (runR X (addsP c h n) R) (n : Int) (fun b => ga (R (n : Int) b) (gm (c n) (R h b))) := by
        have := i2 (n : Int) (fun p hp => by omega)
        show doR X ⟨4, (n : Int), h, c n⟩ (runR X (addsP c h n) R) = _
        rw [doR_4 rfl]
        show setR _ (n : Int) (fun b => ga (runR X (addsP c h n) R (n : Int) b) (gm (c n) (runR X (addsP c h n) R h b))) = _
        rw [ih, this]
      rw [e1]
      refine ⟨fun o ho => ?_, fun r hr => ?_⟩
      · by_cases e : o = n
        · subst e; rw [setR_same]
        · rw [setR_other (by omega)]; exact i1 o (by omega)
      · rw [setR_other (hr n (by omega))]; exact i2 r (fun o ho => hr o (by omega))
/-- what stands in the outputs' registers behind the steps of the first sources -/
theorem run_stpP {X : Int → Nat → F} {C : Mt} {no : Nat} {Y : Mt} {b : Nat} : ∀ {s : Nat}, (∀ t, t < s → addsP (fun o => C o t) no no ≠ [] → X (cntP C no t : Int) b = Y t b) → ∀ o, o < no → runR X (stpP C no s) noR (o : Int) b = sumF (fun t => gm (C o t) (Y t b)) s
  | 0, _, o, _ => rfl
  | s + 1, h, o, ho => by
    have ih := run_stpP (s := s) (fun t ht => h t (by omega)) o ho
    rw [stpP, runR_app]
    by_cases h0 : addsP (fun o => C o s) no no = []
    · rw [if_pos h0]
      have hc := addsP_nil.1 h0 o ho
      show runR X (stpP C no s) noR (o : Int) b = _
      rw [ih, sumF, hc, F.zero_mul, F.add_zero]
    · rw [if_neg h0]
      have hx := h s (by omega) h0
      rw [runR]
      have e1 : doR X ⟨1, (no : Int), (cntP C no s : Int), 0⟩ (runR X (stpP C no s) noR) = setR (runR X (stpP C no s) noR) (no : Int) (X (cntP C no s : Int)) := doR_1 rfl
      rw [e1, (run_adds (Int.le_refl _)).1 o ho]
      show ga _ _ = _
      rw [setR_other (by omega), setR_same, ih, hx, sumF]
theorem stpP_op {C : Mt} {no : Nat} : ∀ {s : Nat} {t : Stp}, t ∈ stpP C no s → (t.op = 1 ∧ t.dst = no ∧ (0 ≤ t.src ∧ t.src < cntP C no s) ∧ t.c = 0) ∨ (t.op = 4 ∧ (0 ≤ t.dst ∧ t.dst < no) ∧ t.src = no)
  | 0, t, ht => by cases ht
  | s + 1, t, ht => by
    rw [stpP, List.mem_append] at ht
    rcases ht with ht | ht
    · rcases stpP_op ht with ⟨h1, h2, ⟨h3, h4⟩, h5⟩ | h1
      · refine .inl ⟨h1, h2, ⟨h3, ?_⟩, h5⟩
        rw [cntP]; omega
      · exact .inr h1
    · split at ht
      · cases ht
      · rename_i h0
        rcases List.mem_cons.1 ht with rfl | ht
        · refine .inl ⟨rfl, rfl, ⟨by simp, ?_⟩, rfl⟩
          rw [cntP, if_neg h0]; simp; omega
        · exact .inr (addsP_op ht)
theorem run_outsP {X : Int → Nat → F} : ∀ {n : Nat} {R O : Regs}, (∀ d : Nat, d < n → runO X (outsP n) R O (d : Int) = R (d : Int)) ∧ runR X (outsP n) R = R
  | 0, R, O => ⟨fun d hd => absurd hd (Nat.not_lt_zero _), rfl⟩
  | n + 1, R, O => by
    obtain ⟨h1, h2⟩ := run_outsP (X := X) (n := n) (R := R) (O := O)
    rw [outsP, runO_app, runR_app, h2]
    have e1 : doR X ⟨5, (n : Int), (n : Int), 0⟩ R = R := doR_n (show (5 : Int) ≠ 1 by decide) (show (5 : Int) ≠ 2 by decide) (show (5 : Int) ≠ 3 by decide) (show (5 : Int) ≠ 4 by decide)
    refine ⟨fun d hd => ?_, e1⟩
    show setR (runO X (outsP n) R O) (n : Int) (R (n : Int)) (d : Int) = _
    by_cases e : d = n
    · subst e; rw [setR_same]
    · rw [setR_other (by omega)]; exact h1 d (by omega)
/-- what the program makes -/
theorem run_prgP {X : Int → Nat → F} {C : Mt} {no ns : Nat} {Y : Mt} {b : Nat} (h : ∀ t, t < ns → addsP (fun o => C o t) no no ≠ [] → X (cntP C no t : Int) b = Y t b) {o : Nat} (ho : o < no) : runO X (prgP C no ns) noR noR (o : Int) b = sumF (fun t => gm (C o t) (Y t b)) ns := by
  rw [prgP, runO_app, run_outsP.1 o ho]
  exact run_stpP h o ho
theorem insP_len (C : Mt) (no : Nat) (L : List Nat) : ∀ s, (insP C no L s).length = cntP C no s
  | 0 => rfl
  | s + 1 => by
    rw [insP, cntP, List.length_append, insP_len C no L s]
    split <;> rfl
theorem cntP_le (C : Mt) (no : Nat) : ∀ s, cntP C no s ≤ s
  | 0 => Nat.le_refl _
  | s + 1 => by
    have := cntP_le C no s
    rw [cntP]
    split <;> omega
theorem insP_at {C : Mt} {no : Nat} {L : List Nat} : ∀ {s t : Nat}, t < s → addsP (fun o => C o t) no no ≠ [] → (insP C no L s)[cntP C no t]? = some (L.getD t 0)
  | s + 1, t, ht, h => by
    rw [insP]
    by_cases e : t = s
    · subst e
      rw [if_neg h, List.getElem?_append_right (by rw [insP_len]; omega), insP_len, Nat.sub_self]; rfl
    · have ih := insP_at (C := C) (no := no) (L := L) (show t < s by omega) h
      rw [List.getElem?_append_left (List.getElem?_eq_some_iff.1 ih).1]
      exact ih
theorem insP_sub {C : Mt} {no : Nat} {L : List Nat} : ∀ {s : Nat}, s ≤ L.length → (insP C no L s).Sublist (L.take s)
  | 0, _ => by simp [insP]
  | s + 1, h => by
    have ih := insP_sub (C := C) (no := no) (L := L) (s := s) (by omega)
    rw [insP, List.take_succ_eq_append_getElem (show s < L.length by omega)]
    have e : L.getD s 0 = L[s] := by simp [List.getD, show s < L.length by omega]
    rw [e]
    refine List.Sublist.append ih ?_
    split
    · exact List.nil_sublist _
    · exact List.Sublist.refl _
theorem insP_subl {C : Mt} {no : Nat} (L : List Nat) : (insP C no L L.length).Sublist L := by
  have := insP_sub (C := C) (no := no) (L := L) (Nat.le_refl _)
  rwa [List.take_length] at this
theorem stpP_len (C : Mt) (no : Nat) : ∀ s, (stpP C no s).length ≤ s * (no + 1)
  | 0 => Nat.zero_le _
  | s + 1 => by
    have := stpP_len C no s
    have h2 := addsP_len (c := fun o => C o s) (h := (no : Int)) no
    rw [stpP, List.length_append, Nat.succ_mul]
    split
    · simp; omega
    · simp; omega
theorem outsP_len : ∀ n, (outsP n).length = n
  | 0 => rfl
  | n + 1 => by rw [outsP, List.length_append, outsP_len n]; rfl
theorem outsP_op : ∀ {n : Nat} {s : Stp}, s ∈ outsP n → s.op = 5 ∧ (0 ≤ s.dst ∧ s.dst < n) ∧ s.src = s.dst ∧ s.c = 0
  | 0, s, h => by cases h
  | n + 1, s, h => by
    rw [outsP, List.mem_append] at h
    rcases h with h | h
    · obtain ⟨h1, ⟨h2, h3⟩, h4⟩ := outsP_op h
      exact ⟨h1, ⟨h2, by omega⟩, h4⟩
    · rw [List.mem_singleton] at h
      subst h
      exact ⟨rfl, ⟨by simp, by simp; omega⟩, rfl, rfl⟩
theorem cntO_outsP (d : Nat) : ∀ n, cntO (outsP n) d = if d < n then 1 else 0
  | 0 => by simp [outsP, cntO]
  | n + 1 => by
    have ih := cntO_outsP d n
    unfold cntO at ih ⊢
    rw [outsP, List.countP_append, ih]
    by_cases e : d = n
    · subst e; simp
    · have e2 : ¬ (n : Int) = (d : Int) := by omega
      by_cases h : d < n
      · simp [h, e2, show d < n + 1 by omega]
      · simp [h, e2, show ¬ d < n + 1 by omega]
theorem cntO_quiet {l : List Stp} {d : Nat} (h : ∀ s ∈ l, s.op ≠ 5) : cntO l d = 0 := by
  unfold cntO
  rw [List.countP_eq_zero]
  intro s hs
  have := h s hs
  simp [this]
theorem pairJ {ns : List Nat} (h1 : ns.Pairwise (· < ·)) (h2 : ∀ x ∈ ns, x < 32) : GoodH 32 (natJ8 ns) := goodH_of h1 h2
/-- the program is in form -/
theorem prgP_form {C : Mt} {L W : List Nat} (hL : L.Pairwise (· < ·)) (hL2 : ∀ x ∈ L, x < 32) (hW : W.Pairwise (· < ·)) (hW2 : ∀ x ∈ W, x < 32) :
    InF (natJ8 (insP C W.length L L.length)) (natJ8 W) ((W.length : Int) + 1) (prgP C W.length L.length) := by
  have hs := insP_subl (C := C) (no := W.length) L
  have l1 := pair_len hL hL2
  have l2 := pair_len hW hW2
  refine ⟨goodH_of (hL.sublist hs) fun x hx => hL2 x (hs.subset hx), goodH_of hW hW2, by omega, ?_, fun s hs => ?_, fun d hd => ?_⟩
  · have h1 := stpP_len C W.length L.length
    have h2 := outsP_len W.length
    rw [prgP, List.length_append, h2]
    have h3 : L.length * (W.length + 1) ≤ 32 * 33 := Nat.mul_le_mul l1 (by omega)
    omega
  · rw [natJ8_len, natJ8_len, insP_len]
    unfold OkS
    rcases List.mem_append.1 hs with hs | hs
    · rcases stpP_op hs with ⟨a1, a2, ⟨a3, a4⟩, a5⟩ | ⟨a1, ⟨a2, a3⟩, a4⟩
      · refine .inl ⟨a1, by omega, by omega, by rw [a5]; rfl⟩
      · refine .inr (.inr (.inr (.inl ⟨a1, by omega, by omega⟩)))
    · obtain ⟨a1, ⟨a2, a3⟩, a4, a5⟩ := outsP_op hs
      exact .inr (.inr (.inr (.inr ⟨a1, by omega, by omega, by rw [a5]; rfl⟩)))
  · rw [natJ8_len] at hd
    have e := cntO_outsP d W.length
    rw [if_pos hd] at e
    have q : cntO (stpP C W.length L.length) d = 0 := cntO_quiet fun s hs h5 => by
      rcases stpP_op hs with ⟨a1, _⟩ | ⟨a1, _⟩ <;> omega
    unfold cntO at e q ⊢
    rw [prgP, List.countP_append, e, q]
/-- what is in no output isn't read -/
theorem cntP_off {C : Mt} {no : Nat} {P : List Nat} (h : ∀ o, o < no → ∀ t, t ∉ P → C o t = 0) : ∀ s, cntP C no s ≤ (P.filter fun t => decide (t < s)).length
  | 0 => Nat.zero_le _
  | s + 1 => by
    have ih := cntP_off h s
    rw [cntP]
    by_cases h0 : addsP (fun o => C o s) no no = []
    · rw [if_pos h0]
      refine Nat.le_trans ih ?_
      rw [← List.countP_eq_length_filter, ← List.countP_eq_length_filter]
      exact List.countP_mono_left fun x _ hx => by simp at hx ⊢; omega
    · rw [if_neg h0]
      have hm : s ∈ P := by
        by_cases hm : s ∈ P
        · exact hm
        · exact absurd (addsP_nil.2 fun o ho => h o ho s hm) h0
      rw [← List.countP_eq_length_filter] at ih ⊢
      have hlt : P.countP (fun t => decide (t < s)) + 1 ≤ P.countP (fun t => decide (t < s + 1)) := by
        clear ih h h0
        induction P with
        | nil => cases hm
        | cons x P ihp =>
          rw [List.countP_cons, List.countP_cons]
          by_cases e : s ∈ P
          · have := ihp e
            by_cases hx : x < s
            · simp [hx, show x < s + 1 by omega]; omega
            · by_cases hx2 : x < s + 1 <;> simp [hx, hx2] <;> omega
          · rcases List.mem_cons.1 hm with rfl | hm
            · have := List.countP_mono_left (l := P) (p := fun t => decide (t < s)) (q := fun t => decide (t < s + 1)) fun y _ hy => by simp at hy ⊢; omega
              simp; omega
            · exact absurd hm e
      omega
theorem cntP_most {C : Mt} {no : Nat} {P : List Nat} (h : ∀ o, o < no → ∀ t, t ∉ P → C o t = 0) (s : Nat) : cntP C no s ≤ P.length := Nat.le_trans (cntP_off h s) (List.length_filter_le _ _)
theorem cntP_none (C : Mt) : ∀ s, cntP C 0 s = 0
  | 0 => rfl
  | s + 1 => by rw [cntP, cntP_none C s]; rfl
/-- what every null vector of some rows is null of is a combination of them -/
theorem dep_dual {A : Mt} {n c : Nat} {b : Nat → F} (h : ∀ v : Nat → F, (∀ i, i < n → sumF (fun j => gm (A i j) (v j)) c = 0) → sumF (fun j => gm (b j) (v j)) c = 0) : Dep (tr A) c n b := by
  obtain ⟨R, hR, h1, h2⟩ := red_ex A n c
  obtain ⟨p, hp⟩ : ∃ p, p = pivL A n c := ⟨_, rfl⟩
  rw [← hp] at hR
  have hpc : ∀ k, k < p.length → p.getD k 0 < c := fun k hk => by
    have : p.getD k 0 ∈ p := by rw [List.getD, List.getElem?_eq_getElem hk]; exact List.getElem_mem hk
    rw [hp] at this
    exact (mem_pivL.1 (by rw [← hp]; rw [← hp] at this; exact this) ).1
  have hb : ∀ j, j < c → b j = sumF (fun k => gm (b (p.getD k 0)) (R k j)) p.length := fun j hj => by
    have h3 := h (nullJ R p j) (RowsIn.null h2 (fun i hi => hR.nulls hj i hi))
    rw [sum_nullJ b R hj hpc] at h3
    exact F.add_eq_zero.1 h3
  have hpn : p.length ≤ n := hR.1
  -- b is a combination of the rows of R, these of A
  have hB : RowsIn (fun _ => b) 1 R n c := fun i _ => ⟨fun k => if k < p.length then b (p.getD k 0) else 0, fun j hj => by
    show b j = _
    rw [hb j hj, sumF_short hpn (f := fun k => gm (if k < p.length then b (p.getD k 0) else 0) (R k j)) fun l hl _ => by rw [if_neg (by omega), F.zero_mul]]
    exact sumF_congr fun k hk => by rw [if_pos hk]⟩
  obtain ⟨e, he⟩ := (hB.trans h1) 0 (by decide)
  exact ⟨e, fun j hj => (he j hj).trans (sumF_congr fun l _ => F.mul_comm _ _)⟩
end Go.Proofs.YtkoakingmnjdoaaGreatDoor

/- What the statements' own choice of numbers answers: so many numbers, rising, all below the bound; nothing that was there turns. -/
namespace Go.Proofs.YtkoakingmnjdoaaGreatDoor
open Go.RowKit Gf
set_option linter.unusedVariables false
set_option maxRecDepth 20000
/-- marks in memory -/
def bvs (n : Nat) (f : Nat → Bool) : Array Value := ((List.range n).map fun i => Value.bool (f i)).toArray
theorem bvs_size (n : Nat) (f : Nat → Bool) : (bvs n f).size = n := by simp [bvs]
theorem bvs_get {n i : Nat} {f : Nat → Bool} (h : i < n) : (bvs n f)[i]? = some (.bool (f i)) := by simp [bvs, h]
def upB (f : Nat → Bool) (i : Nat) : Nat → Bool := fun j => f j || decide (j = i)
theorem bvs_set {n i : Nat} {f : Nat → Bool} : (bvs n f).setIfInBounds i (.bool true) = bvs n (upB f i) := by
  apply Array.ext_getElem?
  intro j
  simp only [bvs, Array.getElem?_setIfInBounds, List.size_toArray, List.length_map, List.length_range, List.getElem?_toArray, List.getElem?_map, upB]
  by_cases h : i = j
  · subst h; by_cases h2 : i < n <;> simp [h2]
  · rw [if_neg h]
    by_cases h2 : j < n <;> simp [h2, Ne.symm h]
theorem madeB (n : Nat) : madeCells (Value.bool false).cells n = bvs n (fun _ => false) := by
  apply Array.ext_getElem?
  intro i
  by_cases h : i < n <;> simp [madeCells, bvs, Value.cells, h, Nat.mod_one]
theorem run_makeB (n : Nat) (hn : n ≤ 65536) (w : World) :
    (Instr.makeSlice 160 (.int .i64 (n : Int)) (.int .i64 (n : Int))).run Tryz.prog w = .ok (.slice (some ⟨w.heap.size, 0, none⟩) n n) (w.alloc (.cells (bvs n (fun _ => false)) 4)) := by
  have hi : (Tryz.prog.info? 4).map (fun i => (i.size, i.bytes, i.zero)) = some (1, 1, some (.bool false)) := by kernel_rfl
  cases hq : Tryz.prog.info? 4 with
  | none => simp [hq] at hi
  | some i =>
    simp only [hq, Option.map_some, Option.some.injEq, Prod.mk.injEq] at hi
    have := run_make (P := Tryz.prog) w 160 4 i _ Tryz.underlying160 hq hi.2.2 .i64 .i64 n n (by omega) (by omega) (by rw [hi.2.1]; omega) (by omega)
    rw [this, hi.1]
    simp only [Int.toNat_natCast, Nat.mul_one, madeB]
/-- how many are marked -/
def cntB (f : Nat → Bool) (n : Nat) : Nat := ((List.range n).filter f).length
theorem cntB_le (f : Nat → Bool) (n : Nat) : cntB f n ≤ n := by have := List.length_filter_le f (List.range n); simpa [cntB] using this
theorem cntB_succ (f : Nat → Bool) (n : Nat) : cntB f (n + 1) = cntB f n + if f n then 1 else 0 := by
  simp only [cntB, List.range_succ, List.filter_append, List.length_append, List.filter_cons, List.filter_nil]
  split <;> rfl
theorem cntB_same {f g : Nat → Bool} : ∀ {n : Nat}, (∀ i, i < n → f i = g i) → cntB f n = cntB g n
  | 0, _ => rfl
  | n + 1, h => by rw [cntB_succ, cntB_succ, cntB_same (n := n) (fun i hi => h i (by omega)), h n (by omega)]
theorem cntB_up {f : Nat → Bool} {i : Nat} (hf : f i = false) : ∀ {n : Nat}, i < n → cntB (upB f i) n = cntB f n + 1
  | 0, h => absurd h (Nat.not_lt_zero _)
  | n + 1, h => by
    rw [cntB_succ, cntB_succ]
    by_cases e : i = n
    · subst e
      rw [cntB_same (f := upB f i) (g := f) (fun j hj => by simp [upB, Nat.ne_of_lt hj]), hf]
      simp [upB]
    · rw [cntB_up hf (n := n) (by omega)]
      have : upB f i n = f n := by simp [upB, Ne.symm e]
      rw [this]; omega
theorem cntB_all {f : Nat → Bool} : ∀ {n : Nat}, (∀ i, i < n → f i = true) → cntB f n = n
  | 0, _ => rfl
  | n + 1, h => by rw [cntB_succ, cntB_all (n := n) (fun i hi => h i (by omega)), h n (by omega)]; rfl
theorem cntB_none (n : Nat) : cntB (fun _ => false) n = 0 := by simp [cntB]
/-- the marked numbers -/
def pickB (f : Nat → Bool) (n : Nat) : List Nat := (List.range n).filter f
theorem pickB_same {f g : Nat → Bool} {n : Nat} (h : ∀ i, i < n → f i = g i) : pickB f n = pickB g n := List.filter_congr fun i hi => h i (by simpa using hi)
theorem pickB_yes {f : Nat → Bool} {n : Nat} (h : f n = true) : pickB f (n + 1) = pickB f n ++ [n] := by simp [pickB, List.range_succ, h]
theorem pickB_no {f : Nat → Bool} {n : Nat} (h : f n = false) : pickB f (n + 1) = pickB f n := by simp [pickB, List.range_succ, h]
theorem pickB_up {f : Nat → Bool} {n : Nat} : pickB (upB f n) n = pickB f n := pickB_same fun i hi => by simp [upB, Nat.ne_of_lt hi]
theorem pickB_sorted (f : Nat → Bool) (n : Nat) : (pickB f n).Pairwise (· < ·) := List.pairwise_lt_range.filter _
theorem pickB_lt {f : Nat → Bool} {n : Nat} : ∀ x ∈ pickB f n, x < n := fun x hx => by simpa using (List.mem_filter.1 hx).1
/-- numbers as values -/
def nvs (L : List Nat) : List Value := L.map fun i => Value.int .i64 ((i : Nat) : Int)
theorem nvs_snoc (L : List Nat) (i : Nat) : nvs L ++ [.int .i64 (i : Int)] = nvs (L ++ [i]) := by simp [nvs]
theorem own_setCell {w : World} {B n g i : Nat} {v x : Value} {e : TypeId} {s : Nat} {xs : List Value} (h : w.ownsRow B e s v n xs) (hg : g < B) : (w.setCell ⟨g, i, none⟩ x).ownsRow B e s v n xs := by
  refine ⟨h.1, h.2.imp id fun ⟨b, cap, cur, h1, h2, h3, h4⟩ => ⟨b, cap, cur, h1, h2, (heap_setCell_other _ _ _ _ (by show b ≠ g; omega)).trans h3, h4⟩⟩
theorem mod_place (x : Int) {n : Nat} (hn : 1 ≤ n) : (-(n : Int) < x.tmod n ∧ x.tmod n < n) ∧ ∃ j : Nat, j < n ∧ x.tmod n % (n : Int) = j := by
  have h1 : -(n : Int) < x.tmod n := by
    rcases Int.le_total 0 x with h | h
    · have := Int.tmod_nonneg n h; omega
    · have h2 := Int.neg_tmod (a := -x) (b := (n : Int))
      have h3 := Int.tmod_lt_of_pos (-x) (show (0 : Int) < n by omega)
      rw [Int.neg_neg] at h2; omega
  have h2 := Int.tmod_lt_of_pos x (show (0 : Int) < n by omega)
  have h3 : 0 ≤ x.tmod n % (n : Int) := Int.emod_nonneg _ (by omega)
  have h4 := Int.emod_lt_of_pos (x.tmod n) (show (0 : Int) < n by omega)
  exact ⟨⟨h1, h2⟩, (x.tmod n % (n : Int)).toNat, by omega, by omega⟩
end Go.Proofs.YtkoakingmnjdoaaGreatDoor

/- What Carried of package half answers, at all numbers; nothing that was there turns. -/
namespace Go.Proofs.YtkoakingmnjdoaaGreatDoor
open Go.RowKit Gf
set_option linter.unusedVariables false
set_option maxRecDepth 20000
/-- what a parity carries -/
def carL (k g i : Nat) : List Nat := pickB (fun x => decide (carN g x = i)) k
def castL (L : List Nat) : List Int := L.map fun x => ((x : Nat) : Int)
theorem castL_len (L : List Nat) : (castL L).length = L.length := by simp [castL]
theorem nvs_cast (L : List Nat) : nvs L = (castL L).map (Value.int .i64) := by simp [nvs, castL]
theorem ownI_slice {w : World} {B n : Nat} {v : Value} {L : List Nat} (ho : w.ownsRow B 3 1 v n (nvs L)) : ∃ a cap, v = .slice a n cap ∧ RowI w a (castL L) ∧ n = L.length ∧ (a = none → cap = 0) := by
  have hl := ho.1
  rw [nvs, List.length_map] at hl
  rcases ho.2 with ⟨rfl, e⟩ | ⟨g, cap, cur, rfl, h2⟩
  · exact ⟨none, 0, by rw [e], .inl (by rw [List.eq_nil_of_length_eq_zero (l := L) (by omega)]; rfl), by omega, fun _ => rfl⟩
  · rw [nvs_cast] at ho
    exact ⟨_, _, rfl, rowI_own ho, by omega, fun h => by cases h⟩
set_option maxHeartbeats 4000000 in
theorem hcarried_F (k r i : Nat) (w : World) (h1 : 1 ≤ k) (h2 : 2 ≤ r) (h3 : k + r ≤ 16) (hi : i < r) :
    Calls Tryz.prog 170 #[.int .i64 k, .int .i64 r, .int .i64 i] w fun e w' => ∃ a n cap, e = .returned (.tuple #[.slice a n cap, .nilIface]) ∧ n = (carL k (groupN k r) i).length ∧ RowI w' a (castL (carL k (groupN k r) i)) ∧ (a = none → cap = 0) ∧ Below w.heap.size w w' := by
  obtain ⟨g1, _, _, g2⟩ := groupN_least h1 h2 h3
  have HG : Hid _ := fun w => bgroup_ok k r w h1 h2 h3
  generalize groupN k r = g at *
  have HCF : Hid _ := fun j w (hj : j ≤ 1000) => carrier_F g j w g1 (by omega) hj
  obtain ⟨f, hf⟩ : ∃ f : Nat → Bool, f = fun x => decide (carN g x = i) := ⟨_, rfl⟩
  have hcl : carL k g i = pickB f k := by rw [hf]; rfl
  have hft : Hid (∀ x, carN g x = i → f x = true) := fun x h => by rw [hf]; exact decide_eq_true h
  have hff : Hid (∀ x, ¬ carN g x = i → f x = false) := fun x h => by rw [hf]; exact decide_eq_false h
  rw [hcl]
  generalize carN g = car at *
  have i1 : (i : Int) < r := by omega
  have HI : Hid _ := i1
  clear hf hcl i1
  go_enter Tryz.func170, Tryz.ntmps170
  go_wp2_with fail
  refine (HG.out _).mono ?_
  rintro e w1 ⟨rfl, rfl⟩
  go_wp2_with fail
  refine (hthere_yes _ _ _ (by omega) HI.out).mono ?_
  rintro e w1 ⟨rfl, rfl⟩
  go_wp2
  go_loopw [10, 27] (fun v t wr => ∃ j : Nat, j ≤ k ∧ t = .int .i64 j ∧ Below w.heap.size w wr ∧ wr.ownsRow w.heap.size 3 1 v (pickB f j).length (nvs (pickB f j))) (fun _ t _ => k - (intOf t).toNat)
  case atStart => exact ⟨0, by omega, rfl, Below.refl _ _, World.ownsRow_nil _ _ _ _⟩
  case round =>
    obtain ⟨j, hj, rfl, hb, ho⟩ := hrel
    have HB : Hid _ := hb
    have HO : Hid _ := ho
    obtain ⟨av, cv, rfl, hv, hn, hnil⟩ := ownI_slice ho
    have HV : Hid _ := hv
    have HNN : Hid _ := hnil
    have hl : (pickB f j).length ≤ 16 := by have := cntB_le f j; show cntB f j ≤ 16; omega
    clear hb ho hv hn hnil
    by_cases hlt : j < k
    · go_wp2_with fail
      refine (HCF.out j _ (by omega)).mono ?_
      rintro e w2 ⟨rfl, rfl⟩
      by_cases hc : car j = i
      · have hci : (car j : Int) = i := by omega
        have ho := World.ownsRow.alloc HO.out (.cells #[.int .i64 j] 3)
        obtain ⟨g2, cap2, w6, hrun, ho2, hgr, hor, hlt2⟩ := appendI (b := wr.heap.size) (c := 1) (x := (j : Int)) 22 ho (cellAt (heap_alloc_last wr (.cells #[.int .i64 j] 3)) 0 _ rfl) (by omega) (by have := HB.out.size; simp; omega)
        rw [nvs_snoc, ← pickB_yes (hft.out j hc)] at ho2
        have hb6 := below_own (B := w.heap.size) (HB.out.alloc HB.out.size (.cells #[.int .i64 j] 3)) ho hgr (by have := HB.out.size; simp; omega)
        have hlen : (pickB f j).length + 1 = (pickB f (j + 1)).length := by rw [pickB_yes (hft.out j hc)]; simp
        have HRun : Hid _ := hrun
        have HO2 : Hid _ := ho2
        have HB6 : Hid _ := hb6
        have HL : Hid _ := hlen
        clear ho hrun ho2 hb6 hgr hor hlt2 hlen hc
        go_wp2_with (at_builtin; refine wpList_append_run rfl _ _ 22 rfl _ _ _ _ rfl rfl HRun.out ?_)
        have ho9 := HO2.out
        rw [HL.out] at ho9
        rw [HL.out]
        exact ⟨⟨j + 1, by omega, by go_num, HB6.out, ho9⟩, by simp [intOf]; omega⟩
      · have hci : ¬ (car j : Int) = i := by omega
        have hpk := pickB_no (hff.out j hc)
        have HPK : Hid _ := hpk
        clear hc hpk
        go_wp2
        have ho9 := HO.out
        exact ⟨⟨j + 1, by omega, by go_num, HB.out, by rw [HPK.out]; exact ho9⟩, by simp [intOf]; omega⟩
    · obtain rfl : j = k := by omega
      go_wp2
      go_ret2
      exact ⟨av, _, cv, rfl, rfl, HV.out, HNN.out, HB.out⟩
theorem hcarried_bad (k r x : Int) (w : World) (s : Addr) (hs : w.cell? ⟨0, 0, none⟩ = some (errAt s)) (hk0 : -9223372036854775808 ≤ k) (hk1 : k ≤ 9223372036854775807) (hr0 : -9223372036854775808 ≤ r) (hr1 : r ≤ 9223372036854775807) (hL : ¬ LegalP k r) :
    Calls Tryz.prog 170 #[.int .i64 k, .int .i64 r, .int .i64 x] w fun e w' => e = .returned (.tuple #[.slice none 0 0, errAt s]) ∧ w = w' := by
  have HS : Hid _ := hs
  have H : Hid _ := hL
  clear hs hL
  go_enter Tryz.func170, Tryz.ntmps170
  go_wp2_with fail
  refine (bgroup_bad k r _ s HS.out hk0 hk1 hr0 hr1 H.out).mono ?_
  unfold errAt
  rintro e w' ⟨rfl, rfl⟩
  go_wp2
  go_ret2
  exact ⟨rfl, rfl⟩
theorem hcarried_no (k r : Nat) (x : Int) (w : World) (s : Addr) (hs : w.cell? ⟨3, 0, none⟩ = some (errAt s)) (h1 : 1 ≤ k) (h2 : 2 ≤ r) (h3 : k + r ≤ 16) (hx : ¬ (0 ≤ x ∧ x < r)) :
    Calls Tryz.prog 170 #[.int .i64 k, .int .i64 r, .int .i64 x] w fun e w' => e = .returned (.tuple #[.slice none 0 0, errAt s]) ∧ Below w.heap.size w w' := by
  have hlt := World.block_lt_of_cell? w _ hs
  simp at hlt
  have HX : Hid _ := hx
  unfold errAt at *
  clear hx
  go_enter Tryz.func170, Tryz.ntmps170
  go_wp2_with fail
  refine (bgroup_ok _ _ _ h1 h2 h3).mono ?_
  rintro e w' ⟨rfl, rfl⟩
  go_wp2_with fail
  refine (hthere_no _ _ _ HX.out).mono ?_
  rintro e w' ⟨rfl, rfl⟩
  go_wp2
  go_region
  go_wp2
  go_ret2
  exact ⟨rfl, (Below.refl _ _).drew⟩
end Go.Proofs.YtkoakingmnjdoaaGreatDoor

/- Which halves make one lost data shard, and that what is left makes all where a stripe is not gone; no program of Go is spoken of. -/
namespace Go.Proofs.YtkoakingmnjdoaaGreatDoor
open Go.RowKit Gf
set_option linter.unusedVariables false
set_option maxRecDepth 20000
/-- of all vectors that these rows make 0, this row makes 0 -/
def NullsIn (k : Nat) (car : Nat → Nat) (L : List Nat) (h : Nat) : Prop := ∀ v : Nat → F, (∀ x ∈ L, sumF (fun j => gm (halfF k car x j) (v j)) (2 * k) = 0) → sumF (fun j => gm (halfF k car h j) (v j)) (2 * k) = 0
theorem nulls_dep {k : Nat} {car : Nat → Nat} {L : List Nat} {h : Nat} (hn : NullsIn k car L h) : Dep (tr fun i j => halfF k car (L.getD i 0) j) (2 * k) L.length (halfF k car h) :=
  dep_dual fun v hv => hn v fun x hx => by
    obtain ⟨i, hi, rfl⟩ := mem_getD hx
    exact hv i hi
theorem odd_row2 {k s : Nat} {car : Nat → Nat} (v : Nat → F) : sumF (fun j => gm (halfF k car (2 * s + 1) j) (v j)) (2 * k) = ga (sumF (fun j => gm (genF k s j) (v (2 * j + 1))) k) (sumF (fun j => if k ≤ s ∧ car j = s - k then v (2 * j) else 0) k) := by
  rw [sumF_two, ← sumF_add]
  refine sumF_congr fun j hj => ?_
  have h1 : halfF k car (2 * s + 1) (2 * j + 1) = genF k s j := by
    simp only [halfF]
    rw [if_pos (by omega), show (2 * s + 1) / 2 = s by omega, show (2 * j + 1) / 2 = j by omega]
  have h2 : halfF k car (2 * s + 1) (2 * j) = if k ≤ s ∧ car j = s - k then 1 else 0 := by
    simp only [halfF]
    rw [if_neg (by omega), show (2 * s + 1) / 2 = s by omega, show 2 * j / 2 = j by omega]
    by_cases e : k ≤ s ∧ car j = s - k
    · rw [if_pos ⟨by omega, e.1, e.2⟩, if_pos e]
    · rw [if_neg (fun h => e h.2), if_neg e]
  rw [h1, h2, F.add_comm]
  congr 1
  split <;> simp
theorem gen_unit {k s : Nat} (hs : s < k) (v : Nat → F) : sumF (fun j => gm (genF k s j) (v j)) k = v s := by
  rw [sumF_pick _ s k hs (fun l _ hl => by simp only [genF]; rw [if_pos hs, if_neg (fun e => hl e.symm), F.zero_mul])]
  simp only [genF, if_pos hs, if_true, F.one_mul]
/-- the halves of which a data shard s is made over the parity p that carries it among G, in the order in which they are listed -/
def cheapB (k s p : Nat) (G : List Nat) : List Nat := ((List.range (k + 1)).filter fun t => !decide (t = s)).map (2 * · + 1) ++ [2 * (k + p) + 1] ++ (G.filter fun t => !decide (t = s)).map (2 * ·)
/-- the same, rising -/
def cheapL (m k s p : Nat) (G : List Nat) : List Nat := (List.range m).filter fun x => decide (x ∈ cheapB k s p G)
theorem mem_cheapB {k s p x : Nat} {G : List Nat} : x ∈ cheapB k s p G ↔ (∃ t, (t < k + 1 ∧ t ≠ s) ∧ 2 * t + 1 = x) ∨ x = 2 * (k + p) + 1 ∨ ∃ t, (t ∈ G ∧ t ≠ s) ∧ 2 * t = x := by
  simp [cheapB]
theorem cheapB_nodup {k s p : Nat} {G : List Nat} (hp : 1 ≤ p) (hG : G.Nodup) : (cheapB k s p G).Nodup := by
  unfold cheapB
  rw [List.nodup_append, List.nodup_append]
  refine ⟨⟨?_, by simp, ?_⟩, ?_, ?_⟩
  · exact List.Pairwise.map _ (fun a b (h : a ≠ b) (e : 2 * a + 1 = 2 * b + 1) => h (by omega)) (List.nodup_range.filter _)
  · intro a ha b hb
    simp at ha hb
    obtain ⟨t, ⟨h1, _⟩, rfl⟩ := ha
    omega
  · exact List.Pairwise.map _ (fun a b (h : a ≠ b) (e : 2 * a = 2 * b) => h (by omega)) (hG.filter _)
  · intro a ha b hb
    simp at ha hb
    obtain ⟨u, _, rfl⟩ := hb
    rcases ha with ⟨t, _, rfl⟩ | rfl <;> omega
theorem filter_ne_len {s : Nat} : ∀ {l : List Nat}, l.Nodup → s ∈ l → (l.filter fun t => !decide (t = s)).length + 1 = l.length
  | [], _, h => by cases h
  | a :: l, hn, h => by
    obtain ⟨h1, h2⟩ := List.nodup_cons.1 hn
    by_cases e : a = s
    · subst e
      have : (l.filter fun t => !decide (t = a)) = l := List.filter_eq_self.2 fun x hx => by
        have : x ≠ a := fun e => h1 (e ▸ hx)
        simp [this]
      simp [this]
    · have hm : s ∈ l := by
        rcases List.mem_cons.1 h with h | h
        · exact absurd h.symm e
        · exact h
      have := filter_ne_len h2 hm
      simp [e]; omega
theorem cheapB_len {k s p : Nat} {G : List Nat} (hs : s < k) (hG : G.Nodup) (hm : s ∈ G) : (cheapB k s p G).length = k + G.length := by
  have h1 := filter_ne_len (List.nodup_range (n := k + 1)) (show s ∈ List.range (k + 1) by simp; omega)
  have h2 := filter_ne_len hG hm
  rw [List.length_range] at h1
  unfold cheapB
  simp only [List.length_append, List.length_map, List.length_cons, List.length_nil]
  omega
theorem cheapL_up (m k s p : Nat) (G : List Nat) : (cheapL m k s p G).Pairwise (· < ·) := List.pairwise_lt_range.filter _
theorem cheapL_perm {m k s p : Nat} {G : List Nat} (hp : 1 ≤ p) (hG : G.Nodup) (hb : ∀ x ∈ cheapB k s p G, x < m) : (cheapL m k s p G).Perm (cheapB k s p G) := by
  refine (List.perm_ext_iff_of_nodup (List.nodup_range.filter _) (cheapB_nodup hp hG)).2 fun x => ?_
  simp only [List.mem_filter, List.mem_range, decide_eq_true_eq]
  exact ⟨fun h => h.2, fun h => ⟨hb x h, h⟩⟩
theorem mem_cheapL {m k s p x : Nat} {G : List Nat} : x ∈ cheapL m k s p G ↔ x < m ∧ x ∈ cheapB k s p G := by simp [cheapL]
theorem carL_mem {k g i x : Nat} : x ∈ carL k g i ↔ x < k ∧ carN g x = i := by simp [carL, pickB]
theorem cheapB_lt {k r s p g : Nat} (hp : p < r) (h2 : 2 ≤ r) : ∀ x ∈ cheapB k s p (carL k g p), x < 2 * (k + r) := fun x hx => by
  rcases mem_cheapB.1 hx with ⟨t, ⟨h1, _⟩, rfl⟩ | rfl | ⟨t, ⟨h1, _⟩, rfl⟩
  · omega
  · omega
  · have := (carL_mem.1 h1).1; omega
theorem cheapB_off {k s p : Nat} {G : List Nat} (hs : s < k) (hp : 1 ≤ p) : ∀ x ∈ cheapB k s p G, x ≠ 2 * s ∧ x ≠ 2 * s + 1 := fun x hx => by
  rcases mem_cheapB.1 hx with ⟨t, ⟨h1, h2⟩, rfl⟩ | rfl | ⟨t, ⟨h1, h2⟩, rfl⟩ <;> omega
/-- both halves of the shard are made of these -/
theorem cheap_nulls {k g s p m h : Nat} {L : List Nat} (hs : s < k) (hk : k < 256) (hc : carN g s = p) (hL : ∀ x, x ∈ L ↔ x ∈ cheapB k s p (carL k g p)) (hh : h = 2 * s ∨ h = 2 * s + 1) : NullsIn k (carN g) L h := by
  intro v hv
  have hp : 1 ≤ p := by rw [← hc]; exact Nat.succ_pos _
  have r1 : ∀ t, t < k + 1 → t ≠ s → sumF (fun j => gm (halfF k (carN g) (2 * t + 1) j) (v j)) (2 * k) = 0 := fun t h1 h2 => hv _ ((hL _).2 (mem_cheapB.2 (.inl ⟨t, ⟨h1, h2⟩, rfl⟩)))
  have r2 := hv _ ((hL _).2 (mem_cheapB.2 (.inr (.inl rfl))))
  have r3 : ∀ t, t < k → t ≠ s → carN g t = p → v (2 * t) = 0 := fun t h1 h2 h3 => by
    have := hv _ ((hL _).2 (mem_cheapB.2 (.inr (.inr ⟨t, ⟨carL_mem.2 ⟨h1, h3⟩, h2⟩, rfl⟩))))
    rw [even_row, gen_unit h1 (fun j => v (2 * j))] at this
    exact this
  have hodd : ∀ j, j < k → v (2 * j + 1) = 0 := by
    refine gen_any (S := (List.range (k + 1)).filter fun t => !decide (t = s)) (n := k + 1) (List.nodup_range.filter _) ?_ (fun x hx => by simp at hx; omega) (by omega) (fun j => v (2 * j + 1)) fun t ht => ?_
    · have := filter_ne_len (List.nodup_range (n := k + 1)) (show s ∈ List.range (k + 1) by simp; omega)
      rw [List.length_range] at this
      omega
    · simp at ht
      have h9 := r1 t ht.1 ht.2
      rw [odd_row2, sumF_none (f := fun j => if k ≤ t ∧ carN g j = t - k then v (2 * j) else 0) (fun j hj => by rw [if_neg]; rintro ⟨e1, e2⟩; have h7 : 1 ≤ carN g j := Nat.succ_pos _; omega), F.add_zero] at h9
      exact h9
  rcases hh with rfl | rfl
  · rw [even_row, gen_unit hs (fun j => v (2 * j))]
    rw [odd_row2, sumF_none (f := fun j => gm (genF k (k + p) j) (v (2 * j + 1))) (fun j hj => by rw [hodd j hj, F.mul_zero]), F.zero_add,
      sumF_pick _ s k hs (fun l hl hne => by
        by_cases e : carN g l = p
        · rw [r3 l hl hne e]; simp
        · rw [if_neg]; rintro ⟨_, e2⟩; exact e (by omega))] at r2
    rw [if_pos ⟨by omega, by omega⟩] at r2
    exact r2
  · rw [odd_row2, gen_unit hs (fun j => v (2 * j + 1)), hodd s hs, F.zero_add]
    exact sumF_none fun j hj => by rw [if_neg]; rintro ⟨e1, e2⟩; omega
theorem full_null {A : Mt} {n c : Nat} (h : c ≤ (pivL A n c).length) {v : Nat → F} (hv : ∀ i, i < n → sumF (fun j => gm (A i j) (v j)) c = 0) : ∀ j, j < c → v j = 0 := by
  have hr := range_of (pivL_up A n c) (fun x hx => (mem_pivL.1 hx).1) (Nat.le_antisymm (pivL_le A n c) h)
  -- from the last one on
  have key : ∀ d, d ≤ c → ∀ j, c - d ≤ j → j < c → v j = 0 := by
    intro d
    induction d with
    | zero => intro _ j h1 h2; omega
    | succ d ih =>
      intro hd j h1 h2
      by_cases e : c - d ≤ j
      · exact ih (by omega) j e h2
      · have hj : j = c - d - 1 := by omega
        by_cases h0 : v j = 0
        · exact h0
        · exfalso
          have hp : isPiv A n j := (mem_pivL.1 (by rw [hr]; simp; exact h2 : j ∈ pivL A n c)).2
          refine hp ⟨fun l => gm (inv (v j)) (v l), fun i hi => ?_⟩
          have h3 := hv i hi
          rw [sumF_short (show j + 1 ≤ c by omega) (fun l hl1 hl2 => by rw [ih (by omega) l (by omega) hl2, F.mul_zero]), sumF] at h3
          have h4 := F.eq_of_add_eq_zero h3
          have h5 : sumF (fun l => gm (A i l) (gm (inv (v j)) (v l))) j = gm (inv (v j)) (sumF (fun l => gm (A i l) (v l)) j) := by
            rw [sumF_mul_left]; exact sumF_congr fun l _ => by rw [F.mul_left_comm]
          rw [h5, h4, F.mul_left_comm, F.inv_mul h0, F.mul_one]
  exact fun j hj => key c (Nat.le_refl _) j (by omega) hj
/-- what is left of a stripe that is not gone makes every half -/
theorem left_nulls {k n : Nat} {car : Nat → Nat} {ns : List Nat} (hg : goneB k n car ns = false) (h : Nat) : NullsIn k car (leftL n ns) h := by
  intro v hv
  have hr : 2 * k ≤ (pivL (fun i => halfF k car ((leftL n ns).getD i 0)) (leftL n ns).length (2 * k)).length := by
    have := of_decide_eq_false hg
    unfold rankL at this
    omega
  have hz := full_null hr (v := v) fun i hi => hv _ (getD_mem hi)
  exact sumF_none fun j hj => by rw [hz j hj, F.mul_zero]
theorem nulls_mem {k : Nat} {car : Nat → Nat} {L : List Nat} {h : Nat} (hm : h ∈ L) : NullsIn k car L h := fun v hv => hv h hm
end Go.Proofs.YtkoakingmnjdoaaGreatDoor

/- What the program's gathering of what is asked for does at one step. -/
namespace Go.Proofs.YtkoakingmnjdoaaGreatDoor
open Go.RowKit Gf
set_option linter.unusedVariables false
set_option maxRecDepth 20000
set_option linter.unusedSimpArgs false
theorem cell_setCell_other9 (w : World) (p q : Addr) (v : Value) (h : q.block ≠ p.block) : (w.setCell p v).cell? q = w.cell? q := by
  simp only [World.cell?]
  rw [heap_setCell_other _ _ _ _ h]
def askN (A : Int → Bool) : List Bool := (List.range 64).map fun (r : Nat) => A (r : Int)
theorem askN_get {A : Int → Bool} {q : Nat} (h : q < 64) : (askN A)[q]? = some (A q) := by simp [askN, h]
theorem askN_set {A : Int → Bool} {q : Nat} (v : Bool) (h : q < 64) : (askN A).set q v = askN (fun r => if r = q then v else A r) := by
  apply List.ext_getElem?
  intro i
  rw [List.getElem?_set]
  by_cases hi : i < 64
  · rw [askN_get hi]
    by_cases e : q = i
    · subst e; rw [if_pos rfl]; simp [askN, h]
    · have e2 : ¬ (i : Int) = (q : Int) := by omega
      rw [if_neg e, askN_get hi, if_neg e2]
  · have h1 : (askN A).length = 64 := by simp [askN]
    rw [List.getElem?_eq_none (by simp [askN]; omega), List.getElem?_eq_none (by simp [askN]; omega)]
    split
    · rw [if_neg (by rw [h1]; omega)]
    · rfl
end Go.Proofs.YtkoakingmnjdoaaGreatDoor

/- Steps turned round in place, lists of numbers copied. -/
namespace Go.Proofs.YtkoakingmnjdoaaGreatDoor
open Go.RowKit Gf
set_option linter.unusedVariables false
set_option maxRecDepth 20000
set_option linter.unusedSimpArgs false
theorem stpsL_set : ∀ (ys : List Stp) (i : Nat) (s : Stp), ((((stpsL ys).set (i * 4) (.int .i64 s.op)).set (i * 4 + 1) (.int .i64 s.dst)).set (i * 4 + 2) (.int .i64 s.src)).set (i * 4 + 3) (.int .u8 (s.c.toNat : Int)) = if i < ys.length then stpsL (ys.set i s) else stpsL ys
  | [], i, s => by simp [stpsL]
  | y :: ys, 0, s => by simp [stpsL, stpL, vf]
  | y :: ys, i + 1, s => by
    have ih := stpsL_set ys i s
    have e : stpsL (y :: ys) = stpL y ++ stpsL ys := rfl
    have h4 : (stpL y).length = 4 := rfl
    rw [e, List.set_append_right _ _ (by rw [h4]; omega), List.set_append_right _ _ (by rw [h4]; omega), List.set_append_right _ _ (by rw [h4]; omega), List.set_append_right _ _ (by rw [h4]; omega), h4,
      show (i + 1) * 4 - 4 = i * 4 by omega, show (i + 1) * 4 + 1 - 4 = i * 4 + 1 by omega, show (i + 1) * 4 + 2 - 4 = i * 4 + 2 by omega, show (i + 1) * 4 + 3 - 4 = i * 4 + 3 by omega, ih]
    by_cases h : i < ys.length
    · rw [if_pos h, if_pos (by rw [List.length_cons]; omega), List.set_cons_succ]; try rfl
    · rw [if_neg h, if_neg (by rw [List.length_cons]; omega)]; try rfl
def put4 (w : World) (g i : Nat) (s : Stp) : World := (((w.setCell ⟨g, i * 4, none⟩ (.int .i64 s.op)).setCell ⟨g, i * 4 + 1, none⟩ (.int .i64 s.dst)).setCell ⟨g, i * 4 + 2, none⟩ (.int .i64 s.src)).setCell ⟨g, i * 4 + 3, none⟩ (.int .u8 (s.c.toNat : Int))
theorem ownT_put {w : World} {B n g cap i : Nat} {ys : List Stp} (s : Stp) (ho : w.ownsRow B 105 4 (.slice (some ⟨g, 0, none⟩) n cap) n (stpsL ys)) (hi : i < n) : (put4 w g i s).ownsRow B 105 4 (.slice (some ⟨g, 0, none⟩) n cap) n (stpsL (ys.set i s)) := by
  have hl := ho.1
  rw [stpsL_len] at hl
  have hin : i < ys.length := by omega
  refine ⟨by rw [stpsL_len, List.length_set]; omega, ?_⟩
  rcases ho.2 with ⟨e, _⟩ | ⟨g', cap', cur, e, hB, hg, hle, h5, h6, h7⟩
  · cases e
  · cases e
    have h1 : (w.setCell ⟨g, i * 4, none⟩ (.int .i64 s.op)).heap[g]? = some (.cells (cur.setIfInBounds (i * 4) (.int .i64 s.op)) 105 (0, 0)) := heap_setCell_same _ _ _ _ _ _ hg
    have h2 : ((w.setCell ⟨g, i * 4, none⟩ (.int .i64 s.op)).setCell ⟨g, i * 4 + 1, none⟩ (.int .i64 s.dst)).heap[g]? = some (.cells _ 105 (0, 0)) := heap_setCell_same _ _ _ _ _ _ h1
    have h3 : (((w.setCell ⟨g, i * 4, none⟩ (.int .i64 s.op)).setCell ⟨g, i * 4 + 1, none⟩ (.int .i64 s.dst)).setCell ⟨g, i * 4 + 2, none⟩ (.int .i64 s.src)).heap[g]? = some (.cells _ 105 (0, 0)) := heap_setCell_same _ _ _ _ _ _ h2
    have h4 : (put4 w g i s).heap[g]? = some (.cells _ 105 (0, 0)) := heap_setCell_same _ _ _ _ _ _ h3
    refine .inr ⟨g, cap, _, rfl, hB, h4, hle, h5, by simp [h6], ?_⟩
    simp only [Array.toList_setIfInBounds, List.take_set, h7]
    rw [stpsL_set, if_pos hin]
theorem grown_put4 {w W : World} {g : Nat} (h : W.grownBy w (some g)) (i : Nat) (s : Stp) : W.grownBy (put4 w g i s) (some g) := grownBy_setCell (grownBy_setCell (grownBy_setCell (grownBy_setCell h _) _) _) _
/-- the list with k steps at either end turned round -/
def revK (z : Stp) (xs : List Stp) (k : Nat) : List Stp := (List.range xs.length).map fun i => if i < k ∨ xs.length ≤ i + k then xs.getD (xs.length - 1 - i) z else xs.getD i z
theorem revK_len (z : Stp) (xs : List Stp) (k : Nat) : (revK z xs k).length = xs.length := by simp [revK]
theorem revK_get {z : Stp} {xs : List Stp} {k i : Nat} (h : i < xs.length) : (revK z xs k)[i]? = some (if i < k ∨ xs.length ≤ i + k then xs.getD (xs.length - 1 - i) z else xs.getD i z) := by simp [revK, h]
theorem revK_zero (z : Stp) (xs : List Stp) : revK z xs 0 = xs := by
  apply List.ext_getElem?
  intro i
  by_cases h : i < xs.length
  · rw [revK_get h, if_neg (by omega)]; simp [List.getD, h]
  · rw [List.getElem?_eq_none (by rw [revK_len]; omega), List.getElem?_eq_none (by omega)]
theorem revK_step {z : Stp} {xs : List Stp} {k j : Nat} (hk : k < j) (hj : j + 1 + k = xs.length) : ((revK z xs k).set k (xs.getD j z)).set j (xs.getD k z) = revK z xs (k + 1) := by
  apply List.ext_getElem?
  intro i
  rw [List.getElem?_set, List.length_set, revK_len, List.getElem?_set, revK_len]
  by_cases h : i < xs.length
  · rw [revK_get h, revK_get h]
    by_cases e1 : j = i
    · subst e1
      rw [if_pos rfl, if_pos h, if_pos (by omega), show xs.length - 1 - j = k by omega]
    · rw [if_neg e1]
      by_cases e2 : k = i
      · subst e2
        rw [if_pos rfl, if_pos h, if_pos (by omega), show xs.length - 1 - k = j by omega]
      · rw [if_neg e2]
        by_cases e3 : i < k ∨ xs.length ≤ i + k
        · rw [if_pos e3, if_pos (by omega)]
        · rw [if_neg e3, if_neg (by omega)]
  · rw [List.getElem?_eq_none (by rw [revK_len]; omega), List.getElem?_eq_none (by rw [revK_len]; omega)]
    repeat' split
    all_goals first | rfl | omega
theorem revK_done {z : Stp} {xs : List Stp} {k : Nat} (h : xs.length ≤ 2 * k + 1) : revK z xs k = xs.reverse := by
  apply List.ext_getElem?
  intro i
  by_cases hi : i < xs.length
  · rw [revK_get hi, List.getElem?_reverse hi]
    by_cases e : i < k ∨ xs.length ≤ i + k
    · rw [if_pos e]; simp [List.getD, show xs.length - 1 - i < xs.length by omega]
    · rw [if_neg e, show xs.length - 1 - i = i by omega]; simp [List.getD, hi]
  · rw [List.getElem?_eq_none (by rw [revK_len]; omega), List.getElem?_eq_none (by rw [List.length_reverse]; omega)]
theorem ownT_cells {w : World} {B n g cap : Nat} {ys : List Stp} (ho : w.ownsRow B 105 4 (.slice (some ⟨g, 0, none⟩) n cap) n (stpsL ys)) {i : Nat} {s : Stp} (hs : ys[i]? = some s) : w.cell? ⟨g, i * 4, none⟩ = some (.int .i64 s.op) ∧ w.cell? ⟨g, i * 4 + 1, none⟩ = some (.int .i64 s.dst) ∧ w.cell? ⟨g, i * 4 + 2, none⟩ = some (.int .i64 s.src) ∧ w.cell? ⟨g, i * 4 + 3, none⟩ = some (.int .u8 (s.c.toNat : Int)) ∧ (∀ q, w.frozen? ⟨g, q, none⟩ = false) := by
  have hl := ho.1
  rw [stpsL_len] at hl
  have hi : i < ys.length := (List.getElem?_eq_some_iff.1 hs).1
  rcases ho.2 with ⟨e, _⟩ | ⟨g', cap', cur, e, hB, hg, hle, h5, h6, h7⟩
  · cases e
  · cases e
    have H : ∀ q, q < 4 → cur[i * 4 + q]? = (stpL s)[q]? := fun q hq => by
      rw [← Array.getElem?_toList, ← List.getElem?_take_of_lt (show i * 4 + q < n * 4 by omega), h7, stpsL_at ys i q hq, hs]; rfl
    exact ⟨cellAt hg _ _ (H 0 (by omega)), cellAt hg _ _ (H 1 (by omega)), cellAt hg _ _ (H 2 (by omega)), cellAt hg _ _ (H 3 (by omega)), fun q => frozen_of_row _ _ _ _ _ hg⟩
end Go.Proofs.YtkoakingmnjdoaaGreatDoor

/- Lists of numbers and of steps copied behind an empty list of one's own; Clone of the library at numbers. -/
namespace Go.Proofs.YtkoakingmnjdoaaGreatDoor
open Go.RowKit Gf
set_option linter.unusedVariables false
set_option maxRecDepth 20000
set_option linter.unusedSimpArgs false
theorem appendI_zero (w : World) (p : Addr) (a : Option Addr) (ca : Nat) (ty : TypeId) :
    (Builtin.append_ #[22, 22] ty #[.slice (some p) 0 0, .slice a 0 ca]).run Tryz.prog w = .ok (.slice (some p) 0 0) w := by
  obtain ⟨i, hi, h1, h2, h3⟩ := infoI
  cases a <;> simp [Builtin.append_, run_underlying Tryz.underlying22, sizeOf, typeInfo, hi, Builtin.lenOf, Builtin.firstCells, loadCells, loadCellsFrom, storeCells]
theorem appendT_zero (w : World) (p : Addr) (a : Option Addr) (ca : Nat) (ty : TypeId) :
    (Builtin.append_ #[28, 28] ty #[.slice (some p) 0 0, .slice a 0 ca]).run Tryz.prog w = .ok (.slice (some p) 0 0) w := by
  obtain ⟨i, hi, h1, h2, h3⟩ := infoT4
  cases a <;> simp [Builtin.append_, run_underlying Tryz.underlying28, sizeOf, typeInfo, hi, Builtin.lenOf, Builtin.firstCells, loadCells, loadCellsFrom, storeCells]
theorem own_empty {w : World} {g : Nat} {e : TypeId} {size : Nat} (h : w.heap[g]? = some (.cells #[] e (0, 0))) {B : Nat} (hB : B ≤ g) : w.ownsRow B e size (.slice (some ⟨g, 0, none⟩) 0 0) 0 [] :=
  ⟨by simp, .inr ⟨g, 0, _, rfl, hB, h, Nat.le_refl _, Nat.zero_le _, by simp, by simp⟩⟩
/-- numbers copied behind an empty list -/
theorem copyI {w : World} {B g0 l ca : Nat} {a : Option Addr} {xs : List Int} (ty : TypeId) (ho : w.ownsRow B 3 1 (.slice (some ⟨g0, 0, none⟩) 0 0) 0 []) (hl : l = xs.length) (hl9 : l * 8 ≤ 140737488355328) (hx : RowI w a xs) (hB : B ≤ w.heap.size) :
    ∃ g cap w', (Builtin.append_ #[22, 22] ty #[.slice (some ⟨g0, 0, none⟩) 0 0, .slice a l ca]).run Tryz.prog w = .ok (.slice (some ⟨g, 0, none⟩) l cap) w' ∧
      w'.ownsRow B 3 1 (.slice (some ⟨g, 0, none⟩) l cap) l (xs.map (Value.int .i64)) ∧ w.grownBy w' (some g0) ∧ (g = g0 ∨ g = w.heap.size) := by
  by_cases h0 : l = 0
  · subst h0
    obtain rfl : xs = [] := List.eq_nil_of_length_eq_zero hl.symm
    exact ⟨g0, 0, w, appendI_zero _ _ _ _ _, ho, World.grownBy.refl _ _, .inl rfl⟩
  · rcases hx with rfl | ⟨b, off, rfl, hc⟩
    · exact absurd hl h0
    obtain ⟨i, hi, h2, h3, h4⟩ := infoI
    obtain ⟨g, cap, w', h1, h5, h6, h7, h8⟩ := run_append_lies (P := Tryz.prog) w 22 ty B 3 i _ 1 8 Tryz.underlying22 hi h4 h2 h3 rfl (by decide) _ 0 [] ho ⟨b, off, none⟩ l ca (xs.map (Value.int .i64)) (by rw [List.length_map, Nat.mul_one, hl]) (fun j u hu => by
      have ha : (⟨b, off, none⟩ : Addr).add j = ⟨b, off + j, none⟩ := by unfold Addr.add; split <;> simp_all
      rw [ha]
      rw [List.getElem?_map, Option.map_eq_some_iff] at hu
      obtain ⟨x, hx, rfl⟩ := hu
      exact hc j x hx) (fun u hu => by obtain ⟨x, _, rfl⟩ := List.mem_map.1 hu; rfl) (by omega) (by simp only [maxLen]; omega) (by omega) hB _ rfl
    rw [Nat.zero_add] at h1 h5
    rw [List.nil_append] at h5
    refine ⟨g, cap, w', h1, h5, h6, h7.imp (fun e => ?_) id⟩
    exact (Option.some.inj e).symm
theorem copyT {w : World} {B g0 l ca : Nat} {a : Option Addr} {ss : List Stp} (ty : TypeId) (ho : w.ownsRow B 105 4 (.slice (some ⟨g0, 0, none⟩) 0 0) 0 []) (hl : l = ss.length) (hl9 : l * 32 ≤ 140737488355328) (hx : StpW w a ss) (hB : B ≤ w.heap.size) :
    ∃ g cap w', (Builtin.append_ #[28, 28] ty #[.slice (some ⟨g0, 0, none⟩) 0 0, .slice a l ca]).run Tryz.prog w = .ok (.slice (some ⟨g, 0, none⟩) l cap) w' ∧
      w'.ownsRow B 105 4 (.slice (some ⟨g, 0, none⟩) l cap) l (stpsL ss) ∧ w.grownBy w' (some g0) ∧ (g = g0 ∨ g = w.heap.size) := by
  by_cases h0 : l = 0
  · subst h0
    obtain rfl : ss = [] := List.eq_nil_of_length_eq_zero hl.symm
    exact ⟨g0, 0, w, appendT_zero _ _ _ _ _, ho, World.grownBy.refl _ _, .inl rfl⟩
  · obtain ⟨b, off, rfl⟩ : ∃ b off, a = some ⟨b, off, none⟩ := by
      rcases hx with rfl | ⟨b, off, e, _⟩
      · exact absurd hl h0
      · exact ⟨b, off, e⟩
    have h0' : 0 < l := by omega
    have h32 : (0 + l) * 32 ≤ 140737488355328 := by rw [Nat.zero_add]; exact hl9
    obtain ⟨g, cap, w', h1, h5, h6, h7, h8⟩ := appendT (xs := []) (c := ca) ty ho hx hl h0' h32 hB
    rw [Nat.zero_add] at h1 h5
    exact ⟨g, cap, w', h1, h5, h6, h7.imp (fun e => (Option.some.inj e).symm) id⟩
theorem ownI_row {w : World} {B l g cap : Nat} {xs : List Int} (ho : w.ownsRow B 3 1 (.slice (some ⟨g, 0, none⟩) l cap) l (xs.map (Value.int .i64))) : RowI w (some ⟨g, 0, none⟩) xs ∧ l ≤ cap ∧ cap ≤ maxLen := by
  refine ⟨rowI_own ho, ?_⟩
  rcases ho.2 with ⟨e, _⟩ | ⟨g', cap', cur, e, hB, hg, hle, h5, _⟩
  · cases e
  · cases e; exact ⟨hle, h5⟩
theorem ownT_row {w : World} {B l g cap : Nat} {ss : List Stp} (hl : l = ss.length) (ho : w.ownsRow B 105 4 (.slice (some ⟨g, 0, none⟩) l cap) l (stpsL ss)) : StpW w (some ⟨g, 0, none⟩) ss ∧ l ≤ cap ∧ cap ≤ maxLen := by
  obtain ⟨a, c, e, _, _, h⟩ := stpW_own hl ho
  rcases ho.2 with ⟨e2, _⟩ | ⟨g', cap', cur, e2, hB, hg, hle, h5, _⟩
  · cases e2
  · cases e2; cases e; exact ⟨h, hle, h5⟩
theorem ownI_facts {w : World} {B l c : Nat} {a : Option Addr} {xs : List Int} (ho : w.ownsRow B 3 1 (.slice a l c) l (xs.map (Value.int .i64))) : RowI w a xs ∧ l ≤ c ∧ (a = none → c = 0) ∧ l = xs.length ∧ ∀ p, a = some p → p.block < w.heap.size ∧ B ≤ p.block := by
  have hl : l = xs.length := by have := ho.1; rw [List.length_map] at this; omega
  rcases ho.2 with ⟨e, h0⟩ | ⟨g, cap, cur, e, hB, hg, hle, h5, h6, h7⟩
  · cases e
    exact ⟨.inl (List.eq_nil_of_length_eq_zero (by omega)), by omega, fun _ => rfl, hl, fun p e => by cases e⟩
  · cases e
    exact ⟨rowI_own ho, hle, fun e => (by cases e), hl, fun p e => by cases e; exact ⟨ltHeap hg, hB⟩⟩
set_option maxHeartbeats 4000000 in
theorem cloneI_F (l cap : Nat) (a : Option Addr) (xs : List Int) (w : World) (hl : l = xs.length) (hl9 : l ≤ 1000) (hcap : l ≤ cap) (hnil : a = none → cap = 0) (hX : RowI w a xs) :
    Calls Tryz.prog 91 #[.slice a l cap] w fun e w' => ∃ a' c', e = .returned (.slice a' l c') ∧ w'.ownsRow w.heap.size 3 1 (.slice a' l c') l (xs.map (Value.int .i64)) ∧ Below w.heap.size w w' := by
  have q22 : ∀ (w : World) (a : Option Addr) (n c n' c' : Nat), (binOp .eql 22 (.slice a n c) (.slice none n' c')).run Tryz.prog w = .ok (.bool a.isNone) w := fun w a n c n' c' => Lib.run_eql_slice_nil w _ _ a n c n' c' Tryz.underlying22
  cases a with
  | none =>
    obtain rfl := hnil rfl
    obtain rfl : l = 0 := by omega
    obtain rfl : xs = [] := List.eq_nil_of_length_eq_zero hl.symm
    have HX : Hid (w.ownsRow w.heap.size 3 1 (.slice none 0 0) 0 (([] : List Int).map (Value.int .i64))) := World.ownsRow_nil _ _ _ _
    clear hX hl
    go_enter Tryz.func91, Tryz.ntmps91
    go_wp2
    go_ret
    exact ⟨none, 0, rfl, HX.out, Below.refl _ _⟩
  | some p =>
    have hb := (Below.refl w.heap.size w).alloc (Nat.le_refl _) (.cells #[] 3)
    have ho := own_empty (size := 1) (B := w.heap.size) (heap_alloc_last w (.cells #[] 3)) (Nat.le_refl _)
    obtain ⟨g, cp, w', h1, h2, h3, h4⟩ := copyI (ca := cap) 22 ho hl (by omega) (rowI_below hX hb) hb.size
    have HAP : Hid _ := h1
    have HR : Hid (w'.ownsRow w.heap.size 3 1 (.slice (some ⟨g, 0, none⟩) l cp) l (xs.map (Value.int .i64))) := h2
    have HB : Hid (Below w.heap.size w w') := below_own hb ho h3 hb.size
    clear hX hl hb ho h1 h2 h3 h4
    go_enter Tryz.func91, Tryz.ntmps91
    go_wp2_with (at_builtin; refine wpList_append_run rfl _ _ 22 rfl _ _ _ _ rfl rfl HAP.out ?_)
    go_ret
    exact ⟨some ⟨g, 0, none⟩, cp, rfl, HR.out, HB.out⟩
end Go.Proofs.YtkoakingmnjdoaaGreatDoor

/- What Check of package prog answers, of all programs. -/
namespace Go.Proofs.YtkoakingmnjdoaaGreatDoor
open Go.RowKit Gf
set_option linter.unusedVariables false
set_option maxRecDepth 20000
set_option linter.unusedSimpArgs false
theorem inF_iff {ins outs : List Int} {rg : Int} {ss : List Stp} (h1 : GoodH 32 ins) (h2 : GoodH 32 outs) (h3 : 0 ≤ rg ∧ rg ≤ 64) (h4 : ss.length ≤ 4096) : InF ins outs rg ss ↔ FitA ins.length outs.length rg ss :=
  ⟨fun h => ⟨h.2.2.2.2.1, h.2.2.2.2.2⟩, fun h => ⟨h1, h2, h3, h4, h.1, h.2⟩⟩
set_option maxRecDepth 100000 in
set_option maxHeartbeats 8000000 in
theorem pcheck_F (ia oa sa : Option Addr) (il ic ol oc sl sc : Nat) (ins outs : List Int) (rg : Int) (ss : List Stp) (w : World) (s : Addr) (hP : PrgW w ia oa sa il ic ol oc sl sc ins outs ss) (hs : w.cell? ⟨7, 0, none⟩ = some (errAt s)) :
    Calls Tryz.prog 78 #[.agg #[.slice ia il ic, .slice oa ol oc, .int .i64 rg, .slice sa sl sc]] w fun e w' => ((InF ins outs rg ss ∧ e = .returned .nilIface) ∨ (¬ InF ins outs rg ss ∧ e = .returned (errAt s))) ∧ Below w.heap.size w w' := by
  have HP0 : Hid _ := hP
  have hI := hP.eil
  have hO := hP.eol
  have hS := hP.esl
  have hi9 := hP.i9; have ho9 := hP.o9; have hs9 := hP.s9
  have hcil := hP.cil; have hcol := hP.col; have hcsl := hP.csl
  have HIL : Hid (il = ins.length) := hI
  have HOL : Hid (ol = outs.length) := hO
  have HSL : Hid (sl = ss.length) := hS
  have HP : Hid (PrgW (w.alloc (.cells #[.slice ia il ic, .slice oa ol oc, .int .i64 rg, .slice sa sl sc] 30)) ia oa sa il ic ol oc sl sc ins outs ss) := hP.below ((Below.refl _ _).alloc (Nat.le_refl _) _)
  have HA0 : Hid (Below w.heap.size w (w.alloc (.cells #[.slice ia il ic, .slice oa ol oc, .int .i64 rg, .slice sa sl sc] 30))) := (Below.refl w.heap.size w).alloc (Nat.le_refl _) _
  have hs1 := cell?_alloc_old (.cells #[.slice ia il ic, .slice oa ol oc, .int .i64 rg, .slice sa sl sc] 30) hs
  unfold errAt at hs1
  have k0 := heap_alloc_last w (.cells #[.slice ia il ic, .slice oa ol oc, .int .i64 rg, .slice sa sl sc] 30)
  have HK0 : Hid _ := k0
  have HS1 : Hid _ := hs1
  clear hP hs hI hO hS HP0 k0
  go_enter Tryz.func78, Tryz.ntmps78
  go_wp2_with fail
  refine Calls.mono (halves_F il ic ia ins _ HIL.out (by omega) hcil HP.out.I) ?_
  by_cases h1 : GoodH 32 ins
  rotate_left
  · have HF : Hid (¬ InF ins outs rg ss) := fun h => h1 h.1
    rw [Prg.goodB_no h1]
    rintro e w1 ⟨rfl, rfl⟩
    clear h1
    go_wp2
    go_ret
    exact ⟨.inr ⟨HF.out, rfl⟩, HA0.out⟩
  rw [Prg.goodB_yes h1]
  rintro e w1 ⟨rfl, rfl⟩
  have H1 : Hid (GoodH 32 ins) := h1
  clear h1
  go_wp2_with fail
  refine Calls.mono (halves_F ol oc oa outs _ HOL.out (by omega) hcol HP.out.O) ?_
  by_cases h2 : GoodH 32 outs
  rotate_left
  · have HF : Hid (¬ InF ins outs rg ss) := fun h => h2 h.2.1
    rw [Prg.goodB_no h2]
    rintro e w1 ⟨rfl, rfl⟩
    clear h2
    go_wp2
    go_ret
    exact ⟨.inr ⟨HF.out, rfl⟩, HA0.out⟩
  rw [Prg.goodB_yes h2]
  rintro e w1 ⟨rfl, rfl⟩
  have H2 : Hid (GoodH 32 outs) := h2
  have hol32 : ol ≤ 32 := by rw [HOL.out]; exact goodH_len h2
  clear h2
  go_wp2_with fail
  refine Calls.mono (pthere_F rg 65 _) ?_
  by_cases h3 : 0 ≤ rg ∧ rg < 65
  rotate_left
  · have HF : Hid (¬ InF ins outs rg ss) := fun h => h3 (by have := h.2.2.1; omega)
    rw [decide_eq_false h3]
    rintro e w1 ⟨rfl, rfl⟩
    clear h3
    go_wp2
    go_ret
    exact ⟨.inr ⟨HF.out, rfl⟩, HA0.out⟩
  rw [decide_eq_true h3]
  rintro e w1 ⟨rfl, rfl⟩
  by_cases n3 : 4096 < sl
  · have HF : Hid (¬ InF ins outs rg ss) := fun h => by have := h.2.2.2.1; rw [← HSL.out] at this; omega
    go_wp2
    go_ret
    exact ⟨.inr ⟨HF.out, rfl⟩, HA0.out⟩
  have HEQ : Hid (InF ins outs rg ss ↔ FitA il ol rg ss) := by
    rw [HIL.out, HOL.out]; exact inF_iff H1.out H2.out (by omega) (by rw [← HSL.out]; omega)
  have h3a : 0 ≤ rg := h3.1
  clear h3
  go_wp2_with fail
  refine Calls.mono (stepsFit_F ia oa sa il ic ol oc sl sc ins outs rg ss _ HP.out hol32 (by omega)) ?_
  rintro e w2 ⟨rfl, hb2⟩
  have HB2 : Hid (Below w.heap.size w w2) := HA0.out.trans (hb2.mono (by simp))
  have hs2 := cell_later hb2 HS1.out
  clear hb2
  by_cases hf : FitA il ol rg ss
  · rw [fitB_yes hf]
    have HF : Hid (InF ins outs rg ss) := HEQ.out.2 hf
    clear hf
    go_wp2
    go_ret
    exact ⟨.inl ⟨HF.out, rfl⟩, HB2.out⟩
  · rw [fitB_no hf]
    have HF : Hid (¬ InF ins outs rg ss) := fun h => hf (HEQ.out.1 h)
    clear hf
    go_wp2
    go_ret
    exact ⟨.inr ⟨HF.out, rfl⟩, HB2.out⟩
theorem pcheck_ok (ia oa sa : Option Addr) (il ic ol oc sl sc : Nat) (ins outs : List Int) (rg : Int) (ss : List Stp) (w : World) (s : Addr) (hP : PrgW w ia oa sa il ic ol oc sl sc ins outs ss) (hs : w.cell? ⟨7, 0, none⟩ = some (errAt s)) (h : InF ins outs rg ss) :
    Calls Tryz.prog 78 #[.agg #[.slice ia il ic, .slice oa ol oc, .int .i64 rg, .slice sa sl sc]] w fun e w' => e = .returned .nilIface ∧ Below w.heap.size w w' :=
  (pcheck_F ia oa sa il ic ol oc sl sc ins outs rg ss w s hP hs).mono fun e w' ⟨h1, h2⟩ => ⟨h1.elim (fun q => q.2) (fun q => absurd h q.1), h2⟩
theorem pcheck_bad (ia oa sa : Option Addr) (il ic ol oc sl sc : Nat) (ins outs : List Int) (rg : Int) (ss : List Stp) (w : World) (s : Addr) (hP : PrgW w ia oa sa il ic ol oc sl sc ins outs ss) (hs : w.cell? ⟨7, 0, none⟩ = some (errAt s)) (h : ¬ InF ins outs rg ss) :
    Calls Tryz.prog 78 #[.agg #[.slice ia il ic, .slice oa ol oc, .int .i64 rg, .slice sa sl sc]] w fun e w' => e = .returned (errAt s) ∧ Below w.heap.size w w' :=
  (pcheck_F ia oa sa il ic ol oc sl sc ins outs rg ss w s hP hs).mono fun e w' ⟨h1, h2⟩ => ⟨h1.elim (fun q => absurd q.1 h) (fun q => q.2), h2⟩
end Go.Proofs.YtkoakingmnjdoaaGreatDoor

/- What Meaning of package prog answers of programs in form. -/
namespace Go.Proofs.YtkoakingmnjdoaaGreatDoor
open Go.RowKit Gf
set_option linter.unusedVariables false
set_option maxRecDepth 20000
set_option linter.unusedSimpArgs false
/-- outputs, from the first step on, as registers of unit columns -/
def meanR (ss : List Stp) (d : Int) : Nat → F := runO unX ss (fun _ _ => 0) (fun _ _ => 0) d
def meanRows (n no : Nat) (ss : List Stp) : List (List F) := (List.range no).map fun (d : Nat) => rowF n (meanR ss (d : Int))
def meanL (n no : Nat) (ss : List Stp) : List F := (meanRows n no ss).flatten
theorem meanRows_len (n no : Nat) (ss : List Stp) : (meanRows n no ss).length = no := by simp [meanRows]
theorem meanL_len (n no : Nat) (ss : List Stp) : (meanL n no ss).length = no * n := by
  rw [meanL, flat_len (c := n) (fun xs h => by obtain ⟨d, _, rfl⟩ := List.mem_map.1 h; exact rowF_len _ _), meanRows_len]
theorem run_makeN (n c : Nat) (hn : n ≤ 64) (w : World) :
    (Instr.makeSlice 49 (.int .i64 (n : Int)) (.int .i64 (n : Int))).run Tryz.prog w = .ok (.slice (some ⟨w.heap.size, 0, none⟩) n n) (w.alloc (.cells (slO n c (fun _ => none)) 23)) := by
  obtain ⟨i, hi, h1, h2, h3⟩ := infoS
  have := run_make (P := Tryz.prog) w 49 23 i _ Tryz.underlying49 hi h3 .i64 .i64 n n (by omega) (by omega) (by rw [h2]; omega) (by omega)
  have e : madeCells (Value.slice none 0 0).cells n = slO n c (fun _ => none) := by
    apply Array.ext_getElem?
    intro i
    by_cases h : i < n <;> simp [madeCells, slO, svO, Value.cells, h, Nat.mod_one]
  rw [this, h1]
  simp only [Int.toNat_natCast, Nat.mul_one, e]
/-- what a step does, whichever it is -/
theorem does_F (B cb M Q n rg no : Nat) (f : Nat → Option Addr × Nat) (g : Nat → Option (Option Addr × Nat)) (R O : Regs) (s : Stp) (m : Nat) (w : World) (hn : n ≤ 64) (hrg : rg ≤ 64) (hno : no ≤ 64) (hBw : B ≤ w.heap.size) (h : CmbW B w cb M Q n rg no f g R O)
    (hok : OkS n no rg s) (hm : m = (if s.op = 1 then 140 else if s.op = 2 then 142 else if s.op = 3 then 144 else if s.op = 4 then 146 else 148)) :
    Calls Tryz.prog m #[.pointer (some ⟨cb, 0, none⟩), .agg #[.int .i64 s.op, .int .i64 s.dst, .int .i64 s.src, .int .u8 (s.c.toNat : Int)]] w fun e w' => e = .returned (.tuple #[]) ∧ (∃ f' g', CmbW B w' cb M Q n rg no f' g' (doR unX s R) (doO s R O) ∧ ∀ d, (g' d).isSome = ((g d).isSome || (s.op == 5 && s.dst == (d : Int)))) ∧ Below B w w' := by
  obtain ⟨op, dst, src, c⟩ := s
  unfold OkS at hok
  simp only at hok hm ⊢
  rcases hok with ⟨rfl, h1, h2, h3⟩ | ⟨rfl, h1, h2, h3⟩ | ⟨rfl, h1, h2⟩ | ⟨rfl, h1, h2⟩ | ⟨rfl, h1, h2, h3⟩
  · obtain ⟨dst, rfl⟩ := Int.eq_ofNat_of_zero_le h1.1
    obtain ⟨src, rfl⟩ := Int.eq_ofNat_of_zero_le h2.1
    subst hm
    exact (does_load B cb M Q n rg no f g R O 1 dst src c.toNat (by omega) (by omega) w hn hrg hno hBw h).mono fun e w' ⟨a, ⟨f', g', k, hg⟩, b⟩ => ⟨a, ⟨f', g', k, fun d => by rw [hg]; simp⟩, b⟩
  · obtain ⟨dst, rfl⟩ := Int.eq_ofNat_of_zero_le h1.1
    subst hm
    exact (does_zero B cb M Q n rg no f g R O 2 dst src c.toNat (by omega) w hn hrg hno hBw h).mono fun e w' ⟨a, ⟨f', g', k, hg⟩, b⟩ => ⟨a, ⟨f', g', k, fun d => by rw [hg]; simp⟩, b⟩
  · obtain ⟨dst, rfl⟩ := Int.eq_ofNat_of_zero_le h1.1
    subst hm
    exact (does_mul B cb M Q n rg no f g R O 3 dst src c (by omega) w hn hrg hno hBw h).mono fun e w' ⟨a, ⟨f', g', k, hg⟩, b⟩ => ⟨a, ⟨f', g', k, fun d => by rw [hg]; simp⟩, b⟩
  · obtain ⟨dst, rfl⟩ := Int.eq_ofNat_of_zero_le h1.1
    obtain ⟨src, rfl⟩ := Int.eq_ofNat_of_zero_le h2.1
    subst hm
    exact (does_add B cb M Q n rg no f g R O 4 dst src c (by omega) (by omega) w hn hrg hno hBw h).mono fun e w' ⟨a, ⟨f', g', k, hg⟩, b⟩ => ⟨a, ⟨f', g', k, fun d => by rw [hg]; simp⟩, b⟩
  · obtain ⟨dst, rfl⟩ := Int.eq_ofNat_of_zero_le h1.1
    obtain ⟨src, rfl⟩ := Int.eq_ofNat_of_zero_le h2.1
    subst hm
    exact (does_out B cb M Q n rg no f g R O 5 dst src c.toNat (by omega) (by omega) w hn hrg hno hBw h).mono fun e w' ⟨a, ⟨f', g', k, hg⟩, b⟩ => ⟨a, ⟨f', g', k, fun d => by
      rw [hg]
      by_cases e : d = dst
      · subst e; simp
      · simp [e, show ¬ (dst : Int) = (d : Int) by omega]⟩, b⟩
/-- the machine while its registers are laid -/
structure IniW (B : Nat) (w : World) (cb M Q n rg no k : Nat) (g : Nat → Option (Option Addr × Nat)) : Prop where
  blk : w.heap[cb]? = some (.cells #[.int .i64 n, .slice (some ⟨M, 0, none⟩) rg rg, .slice (some ⟨Q, 0, none⟩) no no] 190 (0, 0))
  regs : w.heap[M]? = some (.cells (slO rg n g) 23 (0, 0))
  outs : w.heap[Q]? = some (.cells (slO no n (fun _ => none)) 23 (0, 0))
  row : ∀ x, x < k → ∃ p, g x = some p ∧ Row8T w p.1 (rowF n (fun _ => 0)) ∧ n ≤ p.2 ∧ (p.1 = none → p.2 = 0)
  hb : B ≤ cb
  hM : B ≤ M
  hQ : B ≤ Q
  hMQ : M ≠ Q
  hcM : cb ≠ M
  hcQ : cb ≠ Q
theorem IniW.below {B : Nat} {w w' : World} {cb M Q n rg no k : Nat} {g : Nat → Option (Option Addr × Nat)} (h : IniW B w cb M Q n rg no k g) (hb : Below w.heap.size w w') : IniW B w' cb M Q n rg no k g :=
  { h with blk := heap_later h.blk hb, regs := heap_later h.regs hb, outs := heap_later h.outs hb, row := fun x hx => by obtain ⟨p, h1, h2, h3⟩ := h.row x hx; exact ⟨p, h1, row8T_below h2 hb, h3⟩ }
theorem IniW.drew {B : Nat} {w : World} {cb M Q n rg no k : Nat} {g : Nat → Option (Option Addr × Nat)} (h : IniW B w cb M Q n rg no k g) : IniW B w.drew cb M Q n rg no k g :=
  { h with blk := h.blk, regs := h.regs, outs := h.outs, row := h.row }
theorem IniW.put {B : Nat} {w : World} {cb M Q n rg no k : Nat} {g : Nat → Option (Option Addr × Nat)} (h : IniW B w cb M Q n rg no k g) (hk : k < rg) {a : Option Addr} {m : Nat} (ha : Row8T w a (rowF n (fun _ => 0))) (hm : n ≤ m) (hn : a = none → m = 0) :
    IniW B (w.setCell ⟨M, k, none⟩ (.slice a n m)) cb M Q n rg no (k + 1) (fun x => if x = k then some (a, m) else g x) := by
  have hg : w.grownBy (w.setCell ⟨M, k, none⟩ (.slice a n m)) (some M) := grownBy_setCell (World.grownBy.refl _ _) _
  have hne : NoElems w (some M) := noElems_some h.regs (by decide)
  refine { h with blk := ?_, regs := ?_, outs := ?_, row := fun x hx => ?_ }
  · exact (heap_setCell_other _ _ _ _ h.hcM).trans h.blk
  · rw [heap_setCell_same _ _ _ _ _ _ h.regs, slO_set (a, m) hk]
  · exact (heap_setCell_other _ _ _ _ (fun e => h.hMQ e.symm)).trans h.outs
  · by_cases e : x = k
    · exact ⟨(a, m), by simp [e], row8T_grown ha hg hne, hm, hn⟩
    · obtain ⟨p, h1, h2, h3⟩ := h.row x (by omega)
      exact ⟨p, by simp [e, h1], row8T_grown h2 hg hne, h3⟩
theorem IniW.done {B : Nat} {w : World} {cb M Q n rg no : Nat} {g : Nat → Option (Option Addr × Nat)} (h : IniW B w cb M Q n rg no rg g) : CmbW B w cb M Q n rg no (fun x => (g x).getD (none, 0)) (fun _ => none) (fun _ _ => 0) (fun _ _ => 0) := by
  refine { h with blk := h.blk, regs := ⟨?_, fun x hx => ?_, fun x hx => ?_, fun x hx => ?_⟩, outs := h.outs, out := fun d hd p hp => by cases hp }
  · rw [h.regs]
    congr 2
    apply Array.ext_getElem?
    intro i
    by_cases hi : i < rg
    · obtain ⟨p, h1, _⟩ := h.row i hi
      rw [slO_at hi, slF_at hi, svO, h1]; rfl
    · rw [Array.getElem?_eq_none (by rw [slO_size]; omega), Array.getElem?_eq_none (by rw [slF_size]; omega)]
  · obtain ⟨p, h1, h2, h3⟩ := h.row x hx
    simp only [h1, Option.getD_some]; exact h2
  · obtain ⟨p, h1, h2, h3⟩ := h.row x hx
    simp only [h1, Option.getD_some]; exact h3.1
  · obtain ⟨p, h1, h2, h3⟩ := h.row x hx
    simp only [h1, Option.getD_some]; exact h3.2
theorem outs_rows8 {B : Nat} {w : World} {cb M Q n rg no : Nat} {f : Nat → Option Addr × Nat} {g : Nat → Option (Option Addr × Nat)} {R O : Regs} (h : CmbW B w cb M Q n rg no f g R O) (hg : ∀ d, d < no → (g d).isSome = true) : Rows8 w (some ⟨Q, 0, none⟩) ((List.range no).map fun (d : Nat) => rowF n (O (d : Int))) := by
  refine .inr ⟨Q, 0, rfl, fun j x hx => ?_⟩
  simp only [List.getElem?_map, Option.map_eq_some_iff] at hx
  obtain ⟨i, hi, rfl⟩ := hx
  obtain ⟨hjk, hi2⟩ := List.getElem?_eq_some_iff.1 hi
  simp only [List.length_range] at hjk
  simp only [List.getElem_range] at hi2
  subst hi2
  obtain ⟨p, hp⟩ := Option.isSome_iff_exists.1 (hg j hjk)
  refine ⟨p.1, p.2, ?_, (h.out j hjk p hp).1.row8⟩
  rw [Nat.zero_add, rowF_len]
  have := cellAt h.outs j _ (slO_at hjk)
  rwa [svO, hp] at this
end Go.Proofs.YtkoakingmnjdoaaGreatDoor

/- Copies of lists of bytes in blocks of one's own; nothing of the program is proved here. -/
namespace Go.Proofs.YtkoakingmnjdoaaGreatDoor
open Go.RowKit Gf
set_option linter.unusedVariables false
set_option maxRecDepth 20000
theorem has8_laterE {w w' : World} {g cap : Nat} {xs : List F} (h : Has8 w g xs cap) (hb : Below w.heap.size w w') : Has8 w' g xs cap := by
  obtain ⟨cur, h1, h2⟩ := h
  exact ⟨cur, heap_later h1 hb, h2⟩
theorem has8_set_otherE {w : World} {g cap M j : Nat} {xs : List F} {v : Value} (h : Has8 w g xs cap) (hne : g ≠ M) : Has8 (w.setCell ⟨M, j, none⟩ v) g xs cap := by
  obtain ⟨cur, h1, h2⟩ := h
  exact ⟨cur, (heap_setCell_other _ _ _ _ hne).trans h1, h2⟩
theorem append8_zeroE (w : World) (p : Addr) (a : Option Addr) (ca : Nat) (ty : TypeId) :
    (Builtin.append_ #[23, 23] ty #[.slice (some p) 0 0, .slice a 0 ca]).run Tryz.prog w = .ok (.slice (some p) 0 0) w := by
  obtain ⟨i, hi, h1, h2, h3⟩ := info8
  cases a <;> simp [Builtin.append_, run_underlying Tryz.underlying23, sizeOf, typeInfo, hi, Builtin.lenOf, Builtin.firstCells, loadCells, loadCellsFrom, storeCells]
/-- a copy in a block of one's own -/
theorem copy8E {w : World} {a : Option Addr} {la ca : Nat} {xs : List F} (ty : TypeId) (hla : la = xs.length) (hl : la ≤ 140737488355328) (hx : Row8 w a xs) :
    ∃ g cap w', (Builtin.append_ #[23, 23] ty #[.slice (some ⟨w.heap.size, 0, none⟩) 0 0, .slice a la ca]).run Tryz.prog (w.alloc (.cells #[] 5)) = .ok (.slice (some ⟨g, 0, none⟩) la cap) w' ∧
      Has8 w' g xs cap ∧ w.heap.size ≤ g ∧ Below w.heap.size w w' := by
  have hB : Below w.heap.size w (w.alloc (.cells #[] 5)) := (Below.refl _ _).alloc (Nat.le_refl _) _
  by_cases h0 : la = 0
  · subst h0
    obtain rfl : xs = [] := List.eq_nil_of_length_eq_zero hla.symm
    exact ⟨w.heap.size, 0, _, append8_zeroE _ _ _ _ _, has8_full (xs := []) (heap_alloc_last w _) (by simp [maxLen]), Nat.le_refl _, hB⟩
  · have hx' := row8_below hx hB
    obtain ⟨b, off, rfl, _, hc⟩ := row8_get hx' (show 0 < xs.length by omega)
    obtain ⟨g', cap', w', h1, h2, h3, h4⟩ := append8_grows (w := w.alloc (.cells #[] 5)) (g := w.heap.size) (n := 0) (cap := 0) (xs := []) (ys := xs) (ad := ⟨b, off, none⟩) (m := la) (c := ca) ty (.inl rfl) rfl hla (by omega) (by omega) (fun j hj => by
      have : (⟨b, off, none⟩ : Addr).add j = ⟨b, off + j, none⟩ := by unfold Addr.add; split <;> simp_all
      rw [this]; exact hc j hj)
    refine ⟨g', cap', w', by rw [h1]; simp, by simpa using h2, by simp at h4; omega, ?_⟩
    exact hB.trans ⟨h3.os, h3.tape, h3.output, h3.size, fun k hk => h3.block k (by simp; omega) (by simp)⟩
theorem own_set9E {w : World} {B n g : Nat} {v u : Value} {xs : List Value} {e : TypeId} {size i : Nat} (ho : w.ownsRow B e size v n xs) (hg : g < B) : (w.setCell ⟨g, i, none⟩ u).ownsRow B e size v n xs :=
  ⟨ho.1, ho.2.imp id fun ⟨g', cap, cur, h1, h2, h3, h4⟩ => ⟨g', cap, cur, h1, h2, (heap_setCell_other _ _ _ _ (by show g' ≠ g; omega)).trans h3, h4⟩⟩
theorem own_mono9E {w : World} {B B' size n : Nat} {v : Value} {e : TypeId} {xs : List Value} (h : w.ownsRow B e size v n xs) (hb : B' ≤ B) : w.ownsRow B' e size v n xs :=
  ⟨h.1, h.2.imp id fun ⟨g, cap, cur, h1, h2, h3⟩ => ⟨g, cap, cur, h1, Nat.le_trans hb h2, h3⟩⟩
end Go.Proofs.YtkoakingmnjdoaaGreatDoor

/- The registers and outputs of the document's own Run in memory. -/
namespace Go.Proofs.YtkoakingmnjdoaaGreatDoor
open Go.RowKit Gf
set_option linter.unusedVariables false
set_option maxRecDepth 20000
/-- the inputs as columns -/
def inX (L : List (List F)) : Int → Nat → F := fun i j => at8 (L.getD i.toNat []) j
theorem inX_at {L : List (List F)} {i : Nat} {xs : List F} (h : L[i]? = some xs) (j : Nat) : inX L (i : Int) j = at8 xs j := by
  simp [inX, List.getD_eq_getElem?_getD, h]
def madeX (X : Int → Nat → F) (ss : List Stp) (no h : Nat) : List (List F) := (List.range no).map fun (d : Nat) => rowF h (runO X ss noR noR (d : Int))
theorem madeL_len (X : Int → Nat → F) (ss : List Stp) (no h : Nat) : (madeX X ss no h).length = no := by simp [madeX]
theorem madeL_at {X : Int → Nat → F} {ss : List Stp} {no h d : Nat} (hd : d < no) : (madeX X ss no h)[d]? = some (rowF h (runO X ss noR noR (d : Int))) := by simp [madeX, hd]
/-- a step done for the first b bytes alone -/
def upTo (X : Int → Nat → F) (s : Stp) (R : Regs) (b : Nat) : Regs := fun r j => if j < b then doR X s R r j else R r j
theorem upTo_zero (X : Int → Nat → F) (s : Stp) (R : Regs) : upTo X s R 0 = R := by funext r j; simp [upTo]
theorem upTo_idle {X : Int → Nat → F} {s : Stp} {R : Regs} {b : Nat} (h : s.op = 5) : upTo X s R b = R := by
  funext r j
  show (if j < b then doR X s R r j else R r j) = R r j
  rw [doR_n (by omega) (by omega) (by omega) (by omega), ite_self]
/-- one cell of one register put -/
def pokeR (R : Regs) (k b : Nat) (x : F) : Regs := fun r j => if r = (k : Int) ∧ j = b then x else R r j
theorem upTo_next {X : Int → Nat → F} {s : Stp} {R : Regs} {b k : Nat} {x : F} (hk : s.dst = (k : Int)) (h5 : s.op ≠ 5) (hx : doR X s R (k : Int) b = x) : upTo X s R (b + 1) = pokeR (upTo X s R b) k b x := by
  funext r j
  show (if j < b + 1 then doR X s R r j else R r j) = (if r = (k : Int) ∧ j = b then x else (if j < b then doR X s R r j else R r j))
  by_cases e : j = b
  · subst e
    rw [if_pos (Nat.lt_succ_self _)]
    by_cases e2 : r = (k : Int)
    · rw [if_pos ⟨e2, rfl⟩, ← hx, e2]
    · rw [if_neg (fun h => e2 h.1), if_neg (Nat.lt_irrefl _)]
      have e3 : r ≠ s.dst := by rw [hk]; exact e2
      by_cases h1 : s.op = 1
      · rw [doR_1 h1, setR_other e3]
      by_cases h2 : s.op = 2
      · rw [doR_2 h2, setR_other e3]
      by_cases h3 : s.op = 3
      · rw [doR_3 h3, setR_other e3]
      by_cases h4 : s.op = 4
      · rw [doR_4 h4, setR_other e3]
      · rw [doR_n h1 h2 h3 h4]
  · rw [if_neg (c := r = (k : Int) ∧ j = b) (fun h => e h.2)]
    by_cases e3 : j < b
    · rw [if_pos (by omega), if_pos e3]
    · rw [if_neg (by omega), if_neg e3]
theorem upTo_at {X : Int → Nat → F} {s : Stp} {R : Regs} {b : Nat} (r : Int) : upTo X s R b r b = R r b := by unfold upTo; rw [if_neg (Nat.lt_irrefl b)]
structure RunW (B : Nat) (w : World) (M F0 Q rg no h : Nat) (g : Nat → Option (Nat × Nat)) (R O : Regs) : Prop where
  regs : w.heap[M]? = some (.cells (slF rg h (fun k => (some ⟨F0 + k, 0, none⟩, h))) 23 (0, 0))
  row : ∀ k, k < rg → w.heap[F0 + k]? = some (.cells (vfs (rowF h (R (k : Int)))) 5 (0, 0))
  outs : w.heap[Q]? = some (.cells (slO no h (fun d => (g d).map fun p => (some ⟨p.1, 0, none⟩, p.2))) 23 (0, 0))
  out : ∀ d, d < no → ∀ p, g d = some p → Has8 w p.1 (rowF h (O (d : Int))) p.2 ∧ Q < p.1
  hM : B ≤ M
  hMF : M < F0
  hFQ : F0 + rg ≤ Q
theorem RunW.below {B : Nat} {w w' : World} {M F0 Q rg no h : Nat} {g : Nat → Option (Nat × Nat)} {R O : Regs} (hr : RunW B w M F0 Q rg no h g R O) (hb : Below w.heap.size w w') : RunW B w' M F0 Q rg no h g R O :=
  { hr with regs := heap_later hr.regs hb, row := fun k hk => heap_later (hr.row k hk) hb, outs := heap_later hr.outs hb, out := fun d hd p hp => ⟨has8_below (hr.out d hd p hp).1 hb, (hr.out d hd p hp).2⟩ }
theorem RunW.drew {B : Nat} {w : World} {M F0 Q rg no h : Nat} {g : Nat → Option (Nat × Nat)} {R O : Regs} (hr : RunW B w M F0 Q rg no h g R O) : RunW B w.drew M F0 Q rg no h g R O :=
  { hr with regs := hr.regs, row := hr.row, outs := hr.outs, out := hr.out }
theorem RunW.poke {B : Nat} {w : World} {M F0 Q rg no h : Nat} {g : Nat → Option (Nat × Nat)} {R O : Regs} (hr : RunW B w M F0 Q rg no h g R O) {k b : Nat} (hk : k < rg) (hb : b < h) (x : F) : RunW B (w.setCell ⟨F0 + k, b, none⟩ (.int .u8 (x.toNat : Int))) M F0 Q rg no h g (pokeR R k b x) O := by
  have h1 := hr.hMF
  have h2 := hr.hFQ
  refine { hr with regs := ?_, row := fun j hj => ?_, outs := ?_, out := fun d hd p hp => ?_ }
  · exact (heap_setCell_other _ _ _ _ (by show M ≠ F0 + k; omega)).trans hr.regs
  · by_cases e : j = k
    · subst e
      rw [heap_setCell_same _ _ _ _ _ _ (hr.row j hj)]
      have e9 := vfs_set (rowF h (R (j : Int))) b x
      have : (vfs (rowF h (R (j : Int)))).setIfInBounds b (.int .u8 (x.toNat : Int)) = vfs (rowF h (pokeR R j b x (j : Int))) := by
        rw [e9, rowF_set]
        congr 1
        exact rowF_congr fun i hi => by simp [pokeR]
      rw [this]
    · rw [heap_setCell_other _ _ _ _ (by show F0 + j ≠ F0 + k; omega), hr.row j hj]
      congr 3
      exact rowF_congr fun i hi => by simp only [pokeR]; rw [if_neg (fun hh => e (by omega))]
  · exact (heap_setCell_other _ _ _ _ (by show Q ≠ F0 + k; omega)).trans hr.outs
  · obtain ⟨h3, h4⟩ := hr.out d hd p hp
    exact ⟨has8_set_otherE h3 (by omega), h4⟩
theorem RunW.congr {B : Nat} {w : World} {M F0 Q rg no h : Nat} {g : Nat → Option (Nat × Nat)} {R R' O : Regs} (hr : RunW B w M F0 Q rg no h g R O) (e : ∀ r : Nat, r < rg → ∀ j, j < h → R (r : Int) j = R' (r : Int) j) : RunW B w M F0 Q rg no h g R' O :=
  { hr with row := fun k hk => by rw [hr.row k hk, rowF_congr (e k hk)] }
theorem RunW.full {B : Nat} {w : World} {M F0 Q rg no h : Nat} {g : Nat → Option (Nat × Nat)} {X : Int → Nat → F} {s : Stp} {R O : Regs} (hr : RunW B w M F0 Q rg no h g (upTo X s R h) O) : RunW B w M F0 Q rg no h g (doR X s R) O :=
  hr.congr fun r _ j hj => by unfold upTo; rw [if_pos hj]
/-- an output made -/
theorem RunW.putO {B : Nat} {w : World} {M F0 Q rg no h q c d k : Nat} {g : Nat → Option (Nat × Nat)} {R O : Regs} (hr : RunW B w M F0 Q rg no h g R O) (hd : d < no) (h8 : Has8 w q (rowF h (R (k : Int))) c) (hq : Q < q) :
    RunW B (w.setCell ⟨Q, d, none⟩ (.slice (some ⟨q, 0, none⟩) h c)) M F0 Q rg no h (fun x => if x = d then some (q, c) else g x) R (setR O d (R k)) := by
  have h1 := hr.hMF
  have h2 := hr.hFQ
  refine { hr with regs := ?_, row := fun j hj => ?_, outs := ?_, out := fun x hx p hp => ?_ }
  · exact (heap_setCell_other _ _ _ _ (by show M ≠ Q; omega)).trans hr.regs
  · exact (heap_setCell_other _ _ _ _ (by show F0 + j ≠ Q; omega)).trans (hr.row j hj)
  · rw [heap_setCell_same _ _ _ _ _ _ hr.outs, slO_set (some ⟨q, 0, none⟩, c) hd]
    congr 3
    funext x
    by_cases e : x = d <;> simp [e]
  · by_cases e : x = d
    · subst e
      simp only [if_true, Option.some.injEq] at hp
      subst hp
      rw [setR_same]
      exact ⟨has8_set_otherE h8 (by show q ≠ Q; omega), hq⟩
    · simp only [e, if_false] at hp
      rw [setR_other (show (x : Int) ≠ (d : Int) by omega)]
      obtain ⟨h3, h4⟩ := hr.out x hx p hp
      exact ⟨has8_set_otherE h3 (by show p.1 ≠ Q; omega), h4⟩
/-- while the registers are laid -/
structure RunI (B : Nat) (w : World) (M F0 rg h k : Nat) : Prop where
  regs : w.heap[M]? = some (.cells (slO rg h (fun j => if j < k then some (some ⟨F0 + j, 0, none⟩, h) else none)) 23 (0, 0))
  row : ∀ j, j < k → w.heap[F0 + j]? = some (.cells (vfs (zeros h)) 5 (0, 0))
  size : w.heap.size = F0 + k
  hM : B ≤ M
  hMF : M < F0
theorem RunI.next {B : Nat} {w : World} {M F0 rg h k : Nat} (hr : RunI B w M F0 rg h k) (hk : k < rg) : RunI B ((w.alloc (.cells (vfs (zeros h)) 5)).setCell ⟨M, k, none⟩ (.slice (some ⟨w.heap.size, 0, none⟩) h h)) M F0 rg h (k + 1) := by
  have hb : Below w.heap.size w (w.alloc (.cells (vfs (zeros h)) 5)) := (Below.refl _ _).alloc (Nat.le_refl _) _
  have h1 := hr.hMF
  have h2 := hr.size
  refine { hr with regs := ?_, row := fun j hj => ?_, size := ?_ }
  · rw [heap_setCell_same _ _ _ _ _ _ (heap_later hr.regs hb), slO_set (some ⟨w.heap.size, 0, none⟩, h) hk]
    congr 3
    funext x
    by_cases e : x = k
    · subst e; simp [h2]
    · by_cases e2 : x < k
      · rw [if_neg e, if_pos e2, if_pos (by omega)]
      · rw [if_neg e, if_neg e2, if_neg (by omega)]
  · rw [heap_setCell_other _ _ _ _ (by show F0 + j ≠ M; omega)]
    by_cases e : j = k
    · subst e; rw [← h2]; exact heap_alloc_last _ _
    · exact heap_later (hr.row j (by omega)) hb
  · simp [h2]; omega
theorem RunI.done {B : Nat} {w : World} {M F0 rg no h : Nat} (hr : RunI B w M F0 rg h rg) : RunW B (w.alloc (.cells (slO no h (fun _ => none)) 23)) M F0 w.heap.size rg no h (fun _ => none) noR noR := by
  have hb : Below w.heap.size w (w.alloc (.cells (slO no h (fun _ => none)) 23)) := (Below.refl _ _).alloc (Nat.le_refl _) _
  refine { hM := hr.hM, hMF := hr.hMF, hFQ := by rw [hr.size]; exact Nat.le_refl _, regs := ?_, row := fun k hk => ?_, outs := heap_alloc_last _ _, out := fun d hd p hp => by cases hp }
  · rw [heap_later hr.regs hb]
    congr 2
    apply Array.ext_getElem?
    intro i
    by_cases hi : i < rg
    · rw [slO_at hi, slF_at hi, svO, if_pos hi]
    · rw [Array.getElem?_eq_none (by rw [slO_size]; omega), Array.getElem?_eq_none (by rw [slF_size]; omega)]
  · rw [heap_later (hr.row k hk) hb, zeros_rowF]; rfl
theorem has8_U {w : World} {g cap : Nat} {xs : List F} (h : Has8 w g xs cap) : Row8T w (some ⟨g, 0, none⟩) xs := by
  have h2 := row8_has h
  obtain ⟨cur, hg, _⟩ := h
  rcases h2 with e | ⟨b, off, e, h2⟩
  · exact .inl e
  · cases e
    exact .inr ⟨g, 0, _, _, rfl, hg, h2⟩
/-- what is made, row by row -/
def OutsW (w : World) (Q ol h : Nat) (X : Int → Nat → F) (ss : List Stp) : Prop := ∀ d, d < ol → ∃ q c, w.cell? ⟨Q, d, none⟩ = some (.slice (some ⟨q, 0, none⟩) h c) ∧ Row8 w (some ⟨q, 0, none⟩) (rowF h (runO X ss noR noR (d : Int)))
theorem OutsW.below {w w' : World} {Q ol h : Nat} {X : Int → Nat → F} {ss : List Stp} (ho : OutsW w Q ol h X ss) (hb : Below w.heap.size w w') : OutsW w' Q ol h X ss := fun d hd => by
  obtain ⟨q, c, h1, h2⟩ := ho d hd
  exact ⟨q, c, cell_later hb h1, row8_below h2 hb⟩
theorem OutsW.rows {w : World} {Q ol h : Nat} {X : Int → Nat → F} {ss : List Stp} (ho : OutsW w Q ol h X ss) : Rows8 w (some ⟨Q, 0, none⟩) (madeX X ss ol h) := by
  refine .inr ⟨Q, 0, rfl, fun j x hx => ?_⟩
  have hj : j < ol := by have := (List.getElem?_eq_some_iff.1 hx).1; rwa [madeL_len] at this
  rw [madeL_at hj] at hx
  obtain rfl := Option.some.inj hx
  obtain ⟨q, c, h1, h2⟩ := ho j hj
  exact ⟨_, c, by rw [Nat.zero_add, rowF_len]; exact h1, h2⟩
theorem RunW.made {B : Nat} {w : World} {M F0 Q rg no h : Nat} {g : Nat → Option (Nat × Nat)} {X : Int → Nat → F} {ss : List Stp} {R : Regs} (hr : RunW B w M F0 Q rg no h g R (runO X ss noR noR)) (hg : ∀ d, d < no → (g d).isSome = true) : OutsW w Q no h X ss := fun j hj => by
  obtain ⟨p, hp⟩ := Option.isSome_iff_exists.1 (hg j hj)
  refine ⟨p.1, p.2, ?_, (has8_U (hr.out j hj p hp).1).row8⟩
  have := cellAt hr.outs j _ (slO_at hj)
  simp only [svO, hp, Option.map_some] at this
  exact this
end Go.Proofs.YtkoakingmnjdoaaGreatDoor

/- What the document's own Run makes of inputs, of programs in form. -/
namespace Go.Proofs.YtkoakingmnjdoaaGreatDoor
open Go.RowKit Gf
set_option linter.unusedVariables false
set_option maxRecDepth 20000
set_option linter.unusedSimpArgs false
theorem cell_lt9 {w : World} {b o : Nat} {v : Value} (h : w.cell? ⟨b, o, none⟩ = some v) : b < w.heap.size := by
  by_cases hb : b < w.heap.size
  · exact hb
  · rw [World.cell?, Array.getElem?_eq_none (by show w.heap.size ≤ b; omega)] at h
    cases h
theorem cell_grown9 {w u : World} {r b o : Nat} {v : Value} (hu : w.grownBy u (some r)) (h : w.cell? ⟨b, o, none⟩ = some v) (hne : b ≠ r) : u.cell? ⟨b, o, none⟩ = some v := by
  have hb := hu.block b (cell_lt9 h) (fun e => hne (Option.some.inj e))
  rw [World.cell?] at h ⊢
  rw [hb]
  exact h
set_option maxRecDepth 100000 in
set_option maxHeartbeats 16000000 in
theorem rrun_F (ia oa sa xa : Option Addr) (il ic ol oc sl sc rg n nc h : Nat) (ins outs : List Int) (ss : List Stp) (L : List (List F)) (w : World) (hP : PrgW w ia oa sa il ic ol oc sl sc ins outs ss) (hF : InF ins outs rg ss) (hn : n = L.length) (hil : il ≤ n) (hn9 : n ≤ 4611686018427387904) (hh : h ≤ 64) (hX : Rows8 w xa L) (hL : ∀ i xs, i < il → L[i]? = some xs → h ≤ xs.length) :
    Calls Tryz.prog 65 #[.agg #[.slice ia il ic, .slice oa ol oc, .int .i64 rg, .slice sa sl sc], .slice xa n nc, .int .i64 h] w fun e w' => ∃ Q, e = .returned (.slice (some ⟨Q, 0, none⟩) ol ol) ∧ w.heap.size ≤ Q ∧ OutsW w' Q ol h (inX L) ss ∧ Below w.heap.size w w' := by
  have hol32 : ol ≤ 32 := by rw [hP.eol]; exact goodH_len hF.2.1
  have hrgn : rg ≤ 64 := by have := hF.2.2.1.2; omega
  have hsl9 : sl ≤ 4096 := by rw [hP.esl]; exact hF.2.2.2.1
  have hcsl := hP.csl
  have HP : Hid _ := hP
  have HF : Hid (InF ins outs rg ss) := hF
  have HIL : Hid (il = ins.length) := hP.eil
  have HOL : Hid (ol = outs.length) := hP.eol
  have HSL : Hid (sl = ss.length) := hP.esl
  have HX : Hid (Rows8 w xa L) := hX
  have HLL : Hid (∀ i xs, i < il → L[i]? = some xs → h ≤ xs.length) := hL
  have HN : Hid (n = L.length) := hn
  have mk1 := fun u : World => run_makeN rg h hrgn u
  have hA : Holds ((w.alloc (.cells #[.slice ia il ic, .slice oa ol oc, .int .i64 rg, .slice sa sl sc] 30)).alloc (.cells (slO rg h (fun _ => none)) 23)) [(w.heap.size + 1, .cells (slO rg h (fun _ => none)) 23), (w.heap.size, .cells #[.slice ia il ic, .slice oa ol oc, .int .i64 rg, .slice sa sl sc] 30)] := by
    have h := holds_new (holds_new (holds_nil w) #[.slice ia il ic, .slice oa ol oc, .int .i64 rg, .slice sa sl sc] 30) (slO rg h (fun _ => none)) 23
    simp only [World.size_alloc] at h
    exact h
  have HI0 : Hid (RunI w.heap.size ((w.alloc (.cells #[.slice ia il ic, .slice oa ol oc, .int .i64 rg, .slice sa sl sc] 30)).alloc (.cells (slO rg h (fun _ => none)) 23)) (w.heap.size + 1) (w.heap.size + 1 + 1) rg h 0) :=
    { regs := by simp only [Nat.not_lt_zero, if_false]; exact holds_at hA 0 rfl, row := fun j hj => absurd hj (Nat.not_lt_zero _), size := by simp, hM := by omega, hMF := by omega }
  have HB0 : Hid (Below w.heap.size w ((w.alloc (.cells #[.slice ia il ic, .slice oa ol oc, .int .i64 rg, .slice sa sl sc] 30)).alloc (.cells (slO rg h (fun _ => none)) 23))) := ((Below.refl _ w).alloc (Nat.le_refl _) _).alloc (by simp) _
  have HX0 : Hid _ := holds_at hA 1 rfl
  clear hP hF hn hX hL hA
  go_enter Tryz.func65, Tryz.ntmps65
  go_wp2
  clear mk1
  go_loopw [18] (fun i wr => ∃ k : Nat, k ≤ rg ∧ i = .int .i64 k ∧ Below w.heap.size w wr ∧ RunI w.heap.size wr (w.heap.size + 1) (w.heap.size + 1 + 1) rg h k ∧ wr.heap[w.heap.size]? = some (.cells #[.slice ia il ic, .slice oa ol oc, .int .i64 rg, .slice sa sl sc] 30 (0, 0))) (fun i _ => rg - (intOf i).toNat)
  case atStart => exact ⟨0, Nat.zero_le _, rfl, HB0.out, HI0.out, HX0.out⟩
  case round =>
    obtain ⟨k, hk, rfl, hb, hi, hx⟩ := hrel
    have HB : Hid (Below w.heap.size w wr) := hb
    have HI : Hid (RunI w.heap.size wr (w.heap.size + 1) (w.heap.size + 1 + 1) rg h k) := hi
    have HXB : Hid (wr.heap[w.heap.size]? = some (.cells #[.slice ia il ic, .slice oa ol oc, .int .i64 rg, .slice sa sl sc] 30 (0, 0))) := hx
    clear hb hi hx HB0 HI0 HX0
    by_cases hlt : k < rg
    · have mk3 := fun u : World => run_make8 h (by omega) u
      have hba : Below wr.heap.size wr (wr.alloc (.cells (vfs (zeros h)) 5)) := (Below.refl _ _).alloc (Nat.le_refl _) _
      have k1 : (wr.alloc (.cells (vfs (zeros h)) 5)).cell? ⟨w.heap.size + 1, k, none⟩ = some (.slice none 0 0) := by
        have := cellAt (heap_later HI.out.regs hba) k _ (slO_at hlt)
        rw [svO, if_neg (Nat.lt_irrefl k)] at this
        exact this
      have k2 : (wr.alloc (.cells (vfs (zeros h)) 5)).frozen? ⟨w.heap.size + 1, k, none⟩ = false := frozen_of_row _ _ _ _ _ (heap_later HI.out.regs hba)
      have HIN : Hid _ := HI.out.next hlt
      have HBN : Hid (Below w.heap.size w ((wr.alloc (.cells (vfs (zeros h)) 5)).setCell ⟨w.heap.size + 1, k, none⟩ (.slice (some ⟨wr.heap.size, 0, none⟩) h h))) := (HB.out.alloc HB.out.size _).setCell (p := ⟨w.heap.size + 1, k, none⟩) (by show w.heap.size ≤ w.heap.size + 1; omega) _
      have HXN : Hid (((wr.alloc (.cells (vfs (zeros h)) 5)).setCell ⟨w.heap.size + 1, k, none⟩ (.slice (some ⟨wr.heap.size, 0, none⟩) h h)).heap[w.heap.size]? = some (.cells #[.slice ia il ic, .slice oa ol oc, .int .i64 rg, .slice sa sl sc] 30 (0, 0))) := (heap_setCell_other _ _ _ _ (by show w.heap.size ≠ w.heap.size + 1; omega)).trans (heap_later HXB.out hba)
      clear hba
      go_wp2
      exact ⟨⟨k + 1, by omega, by go_num, HBN.out, HIN.out, HXN.out⟩, by simp [intOf]; omega⟩
    · obtain rfl : k = rg := by omega
      have mk2 := fun u : World => run_makeN ol h (by omega) u
      obtain ⟨M, hM⟩ : ∃ M, M = w.heap.size + 1 := ⟨_, rfl⟩
      obtain ⟨F0, hF0⟩ : ∃ F0, F0 = w.heap.size + 1 + 1 := ⟨_, rfl⟩
      obtain ⟨Q, hQ⟩ : ∃ Q, Q = wr.heap.size := ⟨_, rfl⟩
      have hi : RunI w.heap.size wr M F0 k h k := by rw [hM, hF0]; exact HI.out
      have hr0 := hi.done (no := ol)
      rw [← hQ] at hr0
      have hba : Below wr.heap.size wr (wr.alloc (.cells (slO ol h (fun _ => none)) 23)) := (Below.refl _ _).alloc (Nat.le_refl _) _
      have HR0 : Hid _ := hr0
      have HBQ : Hid (Below w.heap.size w (wr.alloc (.cells (slO ol h (fun _ => none)) 23))) := HB.out.alloc HB.out.size _
      have k1 := cellAt HXB.out 1 _ rfl
      have k3 := cellAt (heap_later HXB.out hba) 3 _ rfl
      have HMB : Hid (w.heap.size < F0) := by show _ < _; omega
      have HME : Hid (M = w.heap.size + 1) := hM
      have HQE : Hid (Q = wr.heap.size) := hQ
      clear hM hF0 hQ hi hr0 hba HI HXB HB
      go_wp2
      rw [← HME.out, ← HQE.out]
      clear k1 k3 mk2 HME HQE
      go_loopw [34] (fun i wr => ∃ (j : Nat) (g : Nat → Option (Nat × Nat)), j ≤ sl ∧ i = .int .i64 j ∧ Below w.heap.size w wr ∧ RunW w.heap.size wr M F0 Q k ol h g (runR (inX L) (ss.take j) noR) (runO (inX L) (ss.take j) noR noR) ∧ ∀ d : Nat, (g d).isSome = decide (1 ≤ cntO (ss.take j) d)) (fun i _ => sl - (intOf i).toNat)
      case atStart => exact ⟨0, _, Nat.zero_le _, rfl, HBQ.out, by rw [List.take_zero]; exact HR0.out, fun d => by rw [List.take_zero]; rfl⟩
      case round =>
        obtain ⟨j, g, hj, rfl, hbr, hrr, hgs⟩ := hrel
        have HBO : Hid (Below w.heap.size w wr) := hbr
        obtain ⟨R9, hR9⟩ : ∃ R9, R9 = runR (inX L) (ss.take j) noR := ⟨_, rfl⟩
        obtain ⟨O9, hO9⟩ : ∃ O9, O9 = runO (inX L) (ss.take j) noR noR := ⟨_, rfl⟩
        rw [← hR9, ← hO9] at hrr
        have HRO : Hid (RunW w.heap.size wr M F0 Q k ol h g R9 O9) := hrr
        have HGS : Hid (∀ d : Nat, (g d).isSome = decide (1 ≤ cntO (ss.take j) d)) := hgs
        have HRE9 : Hid (R9 = runR (inX L) (ss.take j) noR) := hR9
        have HOE9 : Hid (O9 = runO (inX L) (ss.take j) noR noR) := hO9
        clear hbr hrr hgs hR9 hO9 HR0 HBQ
        by_cases hlj : j < sl
        · have hjs : j < ss.length := by rw [← HSL.out]; exact hlj
          obtain ⟨b0, off, hsa, hc⟩ := stpW_get (stpW_below HP.out.S HBO.out) hjs
          obtain ⟨c0, c1, c2, c3⟩ := hc j hjs
          obtain ⟨⟨op, dst, src, c⟩, hs⟩ : ∃ s, ss[j] = s := ⟨_, rfl⟩
          rw [hs] at c0 c1 c2 c3
          simp only at c0 c1 c2 c3
          have hget : ss[j]? = some ⟨op, dst, src, c⟩ := by rw [List.getElem?_eq_getElem hjs, hs]
          have HTK : Hid (ss.take (j + 1) = ss.take j ++ [⟨op, dst, src, c⟩]) := by show _ = _; rw [List.take_add_one, hget]; rfl
          have hok : OkS il ol k ⟨op, dst, src, c⟩ := by rw [HIL.out, HOL.out]; exact HF.out.2.2.2.2.1 _ (List.mem_of_getElem? hget)
          have HOK : Hid (OkS il ol k ⟨op, dst, src, c⟩) := hok
          have HR1 : Hid (runR (inX L) (ss.take (j + 1)) noR = doR (inX L) ⟨op, dst, src, c⟩ R9) := by show _ = _; rw [HTK.out, runR_app, ← HRE9.out]; rfl
          have HO1 : Hid (runO (inX L) (ss.take (j + 1)) noR noR = doO ⟨op, dst, src, c⟩ R9 O9) := by show _ = _; rw [HTK.out, runO_app, ← HRE9.out, ← HOE9.out]; rfl
          subst hsa
          clear hc hs hget hjs hok
          generalize wr = wo at *
          have hba : Below wo.heap.size wo (wo.alloc (.cells #[.int .i64 op, .int .i64 dst, .int .i64 src, .int .u8 (c.toNat : Int)] 105)) := (Below.refl _ _).alloc (Nat.le_refl _) _
          have HB1 : Hid (Below w.heap.size w (wo.alloc (.cells #[.int .i64 op, .int .i64 dst, .int .i64 src, .int .u8 (c.toNat : Int)] 105))) := HBO.out.alloc HBO.out.size _
          have HS1 : Hid ((wo.alloc (.cells #[.int .i64 op, .int .i64 dst, .int .i64 src, .int .u8 (c.toNat : Int)] 105)).heap[wo.heap.size]? = some (.cells #[.int .i64 op, .int .i64 dst, .int .i64 src, .int .u8 (c.toNat : Int)] 105 (0, 0))) := heap_alloc_last wo _
          have HR2 : Hid (RunW w.heap.size (wo.alloc (.cells #[.int .i64 op, .int .i64 dst, .int .i64 src, .int .u8 (c.toNat : Int)] 105)) M F0 Q k ol h g (upTo (inX L) ⟨op, dst, src, c⟩ R9 0) O9) := by show RunW ..; rw [upTo_zero]; exact HRO.out.below hba
          have HSQ : Hid (wo.heap.size ≠ Q) := by show _ ≠ _; have := ltHeap HRO.out.outs; omega
          have HSN : Hid (∀ x, x < k → wo.heap.size ≠ F0 + x) := fun x hx => by have := ltHeap (HRO.out.row x hx); omega
          clear hba
          go_wp2
          clear c0 c1 c2 c3
          go_loopw [12] (fun i wr => ∃ b : Nat, b ≤ h ∧ i = .int .i64 b ∧ Below w.heap.size w wr ∧ RunW w.heap.size wr M F0 Q k ol h g (upTo (inX L) ⟨op, dst, src, c⟩ R9 b) O9 ∧ wr.heap[wo.heap.size]? = some (.cells #[.int .i64 op, .int .i64 dst, .int .i64 src, .int .u8 (c.toNat : Int)] 105 (0, 0))) (fun i _ => h - (intOf i).toNat)
          case atStart => exact ⟨0, Nat.zero_le _, rfl, HB1.out, HR2.out, HS1.out⟩
          case round =>
            obtain ⟨b, hb, rfl, hbr, hrr, hsr⟩ := hrel
            have HB : Hid (Below w.heap.size w wr) := hbr
            have HR : Hid (RunW w.heap.size wr M F0 Q k ol h g (upTo (inX L) ⟨op, dst, src, c⟩ R9 b) O9) := hrr
            have HS : Hid (wr.heap[wo.heap.size]? = some (.cells #[.int .i64 op, .int .i64 dst, .int .i64 src, .int .u8 (c.toNat : Int)] 105 (0, 0))) := hsr
            have g0 := cellAt hsr 0 _ rfl
            clear hbr hrr hsr HB1 HR2 HS1
            have hok := HOK.out
            unfold OkS at hok
            simp only at hok
            by_cases hbh : b < h
            · rcases hok with ⟨rfl, ⟨hd0, hd1⟩, ⟨hs0, hs1⟩, hz1⟩ | ⟨rfl, ⟨hd0, hd1⟩, hz1, hz2⟩ | ⟨rfl, ⟨hd0, hd1⟩, hz1⟩ | ⟨rfl, ⟨hd0, hd1⟩, hs0, hs1⟩ | ⟨rfl, hz1⟩
              · obtain ⟨dq, rfl⟩ := Int.eq_ofNat_of_zero_le hd0
                obtain ⟨sq, rfl⟩ := Int.eq_ofNat_of_zero_le hs0
                have hdq : dq < k := by omega
                have hsq : sq < il := by omega
                have hsn : sq < n := by omega
                obtain ⟨xs, hxs⟩ : ∃ xs, L[sq]? = some xs := ⟨_, List.getElem?_eq_getElem (by rw [← HN.out]; exact hsn)⟩
                have HXS : Hid (L[sq]? = some xs) := hxs
                have hlen := HLL.out sq xs hsq hxs
                have hbx : b < xs.length := by omega
                obtain ⟨ib, ioff, rb, ro, rc, rfl, HIC, HRB⟩ : ∃ ib ioff rb ro rc, xa = some ⟨ib, ioff, none⟩ ∧ Hid (w.cell? ⟨ib, ioff + sq, none⟩ = some (.slice (some ⟨rb, ro, none⟩) xs.length rc)) ∧ Hid (∀ i, i < xs.length → w.cell? ⟨rb, ro + i, none⟩ = some (.int .u8 ((at8 xs i).toNat : Int))) := by
                  rcases HX.out with rfl | ⟨ib, ioff, e, hc⟩
                  · cases hxs
                  · obtain ⟨a', cap', h1, h2⟩ := hc sq xs hxs
                    rcases h2 with rfl | ⟨rb, ro, rfl, h3⟩
                    · exact absurd hbx (Nat.not_lt_zero _)
                    · exact ⟨ib, ioff, rb, ro, cap', e, h1, h3⟩
                clear hxs hd0 hd1 hs0 hs1 hz1
                go_wp2
                have P1 : Hid (∀ u, wr.grownBy u (some (F0 + dq)) → u.cell? ⟨wo.heap.size, 1, none⟩ = some (.int .i64 (dq : Int))) := fun u hu => cellAt ((hu.block _ (ltHeap HS.out) (fun e => HSN.out dq hdq (Option.some.inj e))).trans HS.out) 1 _ rfl
                have P2 : Hid (∀ u, wr.grownBy u (some (F0 + dq)) → u.cell? ⟨wo.heap.size, 2, none⟩ = some (.int .i64 (sq : Int))) := fun u hu => cellAt ((hu.block _ (ltHeap HS.out) (fun e => HSN.out dq hdq (Option.some.inj e))).trans HS.out) 2 _ rfl
                have PM : Hid (∀ u, wr.grownBy u (some (F0 + dq)) → u.cell? ⟨M, dq, none⟩ = some (.slice (some ⟨F0 + dq, 0, none⟩) h h)) := fun u hu => cellAt ((hu.block _ (ltHeap HR.out.regs) (fun e => by have := Option.some.inj e; have := HR.out.hMF; omega)).trans HR.out.regs) dq _ (slF_at (by assumption))
                have PI : Hid (∀ u, wr.grownBy u (some (F0 + dq)) → u.cell? ⟨ib, ioff + sq, none⟩ = some (.slice (some ⟨rb, ro, none⟩) xs.length rc)) := fun u hu => cell_grown9 hu (cell_later HB.out HIC.out) (by have := cell_lt9 HIC.out; have := HMB.out; omega)
                have PB : Hid (∀ u, wr.grownBy u (some (F0 + dq)) → u.cell? ⟨rb, ro + b, none⟩ = some (.int .u8 ((at8 xs b).toNat : Int))) := fun u hu => cell_grown9 hu (cell_later HB.out (HRB.out b hbx)) (by have := cell_lt9 (HRB.out b hbx); have := HMB.out; omega)
                refine wp_region_noPanic ?_
                refine wp_region_held_drew (S := fun u => wr.grownBy u (some (F0 + dq))) (by kernel_rfl) ?_ (fun hHeld => ?_)
                · exact grownBy_drew (World.grownBy.refl _ _)
                obtain ⟨X, hX⟩ : ∃ X, X = wr.drew := ⟨_, rfl⟩
                have GX : wr.grownBy X (some (F0 + dq)) := by rw [hX]; exact grownBy_drew (World.grownBy.refl _ _)
                have HRX : Hid (RunW w.heap.size X M F0 Q k ol h g (upTo (inX L) ⟨1, (dq : Int), (sq : Int), c⟩ R9 b) O9) := by show RunW ..; rw [hX]; exact HR.out.drew
                have HBX : Hid (Below w.heap.size w X) := by show Below ..; rw [hX]; exact HB.out.drew
                have HSX : Hid (X.heap[wo.heap.size]? = some (.cells #[.int .i64 1, .int .i64 (dq : Int), .int .i64 (sq : Int), .int .u8 (c.toNat : Int)] 105 (0, 0))) := by show _ = _; rw [hX]; exact HS.out
                rw [← hX] at hHeld ⊢
                clear hX
                refine wpAnyH_take (i := 0) (oi := { dst := some 47, op := Op.move (Operand.tmp 7), type := 49, pos := "ref.go:68", after := #[], guard := none }) (v := ?_) rfl (by kernel_rfl) (by kernel_rfl) (by kernel_rfl) (fun _ _ _ h => h) (Or.inl ⟨by rfl, ?_⟩) hHeld ?_
                rotate_left
                · intro u hSw
                  go_simp
                  try with_reducible rfl
                try simp only [Act.put, List.setIfInBounds_toArray, List.set_cons_zero, List.set_cons_succ]
                refine wpAnyH_take (i := 1) (oi := { dst := some 48, op := Op.fieldAddr 105 (Operand.tmp 11) 1, type := 0, pos := "ref.go:68", after := #[], guard := none }) (v := ?_) rfl (by kernel_rfl) (by kernel_rfl) (by kernel_rfl) (fun _ _ _ h => h) (Or.inl ⟨by rfl, ?_⟩) hHeld ?_
                rotate_left
                · intro u hSw
                  go_simp
                  try with_reducible rfl
                try simp only [Act.put, List.setIfInBounds_toArray, List.set_cons_zero, List.set_cons_succ]
                refine wpAnyH_take (i := 2) (oi := { dst := some 49, op := Op.load 3 (Operand.tmp 48), type := 3, pos := "ref.go:68", after := #[{ on := 1, ground := Ground.data }], guard := none }) (v := ?_) rfl (by kernel_rfl) (by kernel_rfl) (by kernel_rfl) (fun _ _ _ h => h) (Or.inl ⟨by rfl, ?_⟩) hHeld ?_
                rotate_left
                · intro u hSw
                  have k9 := P1.out u hSw
                  go_simp
                  try with_reducible rfl
                try simp only [Act.put, List.setIfInBounds_toArray, List.set_cons_zero, List.set_cons_succ]
                refine wpAnyH_take (i := 3) (oi := { dst := some 50, op := Op.indexAddr 49 (Operand.tmp 47) (Operand.tmp 49), type := 0, pos := "ref.go:68", after := #[{ on := 0, ground := Ground.data }, { on := 2, ground := Ground.data }], guard := none }) (v := ?_) rfl (by kernel_rfl) (by kernel_rfl) (by kernel_rfl) (fun _ _ _ h => h) (Or.inl ⟨by rfl, ?_⟩) hHeld ?_
                rotate_left
                · intro u hSw
                  go_simp
                  try with_reducible rfl
                try simp only [Act.put, List.setIfInBounds_toArray, List.set_cons_zero, List.set_cons_succ]
                refine wpAnyH_take (i := 4) (oi := { dst := some 51, op := Op.load 23 (Operand.tmp 50), type := 23, pos := "ref.go:68", after := #[{ on := 3, ground := Ground.data }], guard := none }) (v := ?_) rfl (by kernel_rfl) (by kernel_rfl) (by kernel_rfl) (fun _ _ _ h => h) (Or.inl ⟨by rfl, ?_⟩) hHeld ?_
                rotate_left
                · intro u hSw
                  have k9 := PM.out u hSw
                  go_simp
                  try with_reducible rfl
                try simp only [Act.put, List.setIfInBounds_toArray, List.set_cons_zero, List.set_cons_succ]
                refine wpAnyH_take (i := 5) (oi := { dst := some 52, op := Op.move (Operand.tmp 12), type := 3, pos := "ref.go:68", after := #[], guard := none }) (v := ?_) rfl (by kernel_rfl) (by kernel_rfl) (by kernel_rfl) (fun _ _ _ h => h) (Or.inl ⟨by rfl, ?_⟩) hHeld ?_
                rotate_left
                · intro u hSw
                  go_simp
                  try with_reducible rfl
                try simp only [Act.put, List.setIfInBounds_toArray, List.set_cons_zero, List.set_cons_succ]
                refine wpAnyH_take (i := 6) (oi := { dst := some 53, op := Op.move (Operand.tmp 1), type := 49, pos := "ref.go:68", after := #[], guard := none }) (v := ?_) rfl (by kernel_rfl) (by kernel_rfl) (by kernel_rfl) (fun _ _ _ h => h) (Or.inl ⟨by rfl, ?_⟩) hHeld ?_
                rotate_left
                · intro u hSw
                  go_simp
                  try with_reducible rfl
                try simp only [Act.put, List.setIfInBounds_toArray, List.set_cons_zero, List.set_cons_succ]
                refine wpAnyH_take (i := 7) (oi := { dst := some 54, op := Op.fieldAddr 105 (Operand.tmp 11) 2, type := 0, pos := "ref.go:68", after := #[], guard := none }) (v := ?_) rfl (by kernel_rfl) (by kernel_rfl) (by kernel_rfl) (fun _ _ _ h => h) (Or.inl ⟨by rfl, ?_⟩) hHeld ?_
                rotate_left
                · intro u hSw
                  go_simp
                  try with_reducible rfl
                try simp only [Act.put, List.setIfInBounds_toArray, List.set_cons_zero, List.set_cons_succ]
                refine wpAnyH_take (i := 8) (oi := { dst := some 55, op := Op.load 3 (Operand.tmp 54), type := 3, pos := "ref.go:68", after := #[{ on := 7, ground := Ground.data }], guard := none }) (v := ?_) rfl (by kernel_rfl) (by kernel_rfl) (by kernel_rfl) (fun _ _ _ h => h) (Or.inl ⟨by rfl, ?_⟩) hHeld ?_
                rotate_left
                · intro u hSw
                  have k9 := P2.out u hSw
                  go_simp
                  try with_reducible rfl
                try simp only [Act.put, List.setIfInBounds_toArray, List.set_cons_zero, List.set_cons_succ]
                refine wpAnyH_take (i := 9) (oi := { dst := some 56, op := Op.indexAddr 49 (Operand.tmp 53) (Operand.tmp 55), type := 0, pos := "ref.go:68", after := #[{ on := 6, ground := Ground.data }, { on := 8, ground := Ground.data }], guard := none }) (v := ?_) rfl (by kernel_rfl) (by kernel_rfl) (by kernel_rfl) (fun _ _ _ h => h) (Or.inl ⟨by rfl, ?_⟩) hHeld ?_
                rotate_left
                · intro u hSw
                  go_simp
                  try with_reducible rfl
                try simp only [Act.put, List.setIfInBounds_toArray, List.set_cons_zero, List.set_cons_succ]
                refine wpAnyH_take (i := 10) (oi := { dst := some 57, op := Op.load 23 (Operand.tmp 56), type := 23, pos := "ref.go:68", after := #[{ on := 9, ground := Ground.data }], guard := none }) (v := ?_) rfl (by kernel_rfl) (by kernel_rfl) (by kernel_rfl) (fun _ _ _ h => h) (Or.inl ⟨by rfl, ?_⟩) hHeld ?_
                rotate_left
                · intro u hSw
                  have k9 := PI.out u hSw
                  go_simp
                  try with_reducible rfl
                try simp only [Act.put, List.setIfInBounds_toArray, List.set_cons_zero, List.set_cons_succ]
                refine wpAnyH_take (i := 11) (oi := { dst := some 58, op := Op.move (Operand.tmp 12), type := 3, pos := "ref.go:68", after := #[], guard := none }) (v := ?_) rfl (by kernel_rfl) (by kernel_rfl) (by kernel_rfl) (fun _ _ _ h => h) (Or.inl ⟨by rfl, ?_⟩) hHeld ?_
                rotate_left
                · intro u hSw
                  go_simp
                  try with_reducible rfl
                try simp only [Act.put, List.setIfInBounds_toArray, List.set_cons_zero, List.set_cons_succ]
                refine wpAnyH_take (i := 12) (oi := { dst := some 59, op := Op.indexAddr 23 (Operand.tmp 57) (Operand.tmp 58), type := 0, pos := "ref.go:68", after := #[{ on := 10, ground := Ground.data }, { on := 11, ground := Ground.data }], guard := none }) (v := ?_) rfl (by kernel_rfl) (by kernel_rfl) (by kernel_rfl) (fun _ _ _ h => h) (Or.inl ⟨by rfl, ?_⟩) hHeld ?_
                rotate_left
                · intro u hSw
                  go_simp
                  try with_reducible rfl
                try simp only [Act.put, List.setIfInBounds_toArray, List.set_cons_zero, List.set_cons_succ]
                refine wpAnyH_take (i := 13) (oi := { dst := some 60, op := Op.load 5 (Operand.tmp 59), type := 5, pos := "ref.go:68", after := #[{ on := 12, ground := Ground.data }], guard := none }) (v := ?_) rfl (by kernel_rfl) (by kernel_rfl) (by kernel_rfl) (fun _ _ _ h => h) (Or.inl ⟨by rfl, ?_⟩) hHeld ?_
                rotate_left
                · intro u hSw
                  have k9 := PB.out u hSw
                  go_simp
                  try with_reducible rfl
                try simp only [Act.put, List.setIfInBounds_toArray, List.set_cons_zero, List.set_cons_succ]
                refine wpAnyH_take (i := 14) (oi := { dst := some 61, op := Op.indexAddr 23 (Operand.tmp 51) (Operand.tmp 52), type := 0, pos := "ref.go:68", after := #[{ on := 4, ground := Ground.data }, { on := 5, ground := Ground.data }, { on := 0, ground := Ground.phase }, { on := 1, ground := Ground.phase }, { on := 2, ground := Ground.phase }, { on := 3, ground := Ground.phase }, { on := 4, ground := Ground.phase }, { on := 5, ground := Ground.phase }, { on := 6, ground := Ground.phase }, { on := 7, ground := Ground.phase }, { on := 8, ground := Ground.phase }, { on := 9, ground := Ground.phase }, { on := 10, ground := Ground.phase }, { on := 11, ground := Ground.phase }, { on := 12, ground := Ground.phase }, { on := 13, ground := Ground.phase }], guard := none }) (v := ?_) rfl (by kernel_rfl) (by kernel_rfl) (by kernel_rfl) (fun _ _ _ h => h) (Or.inl ⟨by rfl, ?_⟩) hHeld ?_
                rotate_left
                · intro u hSw
                  go_simp
                  try with_reducible rfl
                try simp only [Act.put, List.setIfInBounds_toArray, List.set_cons_zero, List.set_cons_succ]
                refine wpAnyH_ready (rs := [15]) (by kernel_rfl) (by simp) ?_
                refine (AllReadyH.cons (o := { dst := none, op := Op.store 5 (Operand.tmp 61) (Operand.tmp 60), type := 0, pos := "ref.go:68", after := #[{ on := 14, ground := Ground.data }, { on := 13, ground := Ground.data }, { on := 0, ground := Ground.phase }, { on := 1, ground := Ground.phase }, { on := 2, ground := Ground.phase }, { on := 3, ground := Ground.phase }, { on := 4, ground := Ground.phase }, { on := 5, ground := Ground.phase }, { on := 6, ground := Ground.phase }, { on := 7, ground := Ground.phase }, { on := 8, ground := Ground.phase }, { on := 9, ground := Ground.phase }, { on := 10, ground := Ground.phase }, { on := 11, ground := Ground.phase }, { on := 12, ground := Ground.phase }, { on := 13, ground := Ground.phase }], guard := none }) rfl (fun K hK => ?_) AllReadyH.nil)
                have q0 := cellAt (HRX.out.row dq (by assumption)) b _ (vfs_get _ b (by rw [rowF_len]; exact hbh))
                have q1 : X.frozen? ⟨F0 + dq, b, none⟩ = false := frozen_of_row _ _ _ _ _ (HRX.out.row dq (by assumption))
                go_simp
                refine hK.out _ _ ?_ (fun hHeld => ?_)
                · exact grownBy_setCell GX _
                clear hK K
                try simp only [Act.put, List.setIfInBounds_toArray, List.set_cons_zero, List.set_cons_succ]
                refine wpAnyH_done (by kernel_rfl) ?_ _
                refine NoPanic.normal ?_
                obtain ⟨Z, hZ⟩ : ∃ Z, Z = X.setCell ⟨F0 + dq, b, none⟩ (.int .u8 ((at8 xs b).toNat : Int)) := ⟨_, rfl⟩
                have HZR : Hid (RunW w.heap.size Z M F0 Q k ol h g (upTo (inX L) ⟨1, (dq : Int), (sq : Int), c⟩ R9 (b + 1)) O9) := by
                  show RunW ..
                  rw [hZ, upTo_next (k := dq) (x := at8 xs b) rfl (fun h => absurd (show (1 : Int) = 5 from h) (by decide)) (by rw [doR_1 rfl]; exact (congrFun setR_same b).trans (inX_at HXS.out b))]
                  exact HRX.out.poke (by assumption) hbh _
                have HZB : Hid (Below w.heap.size w Z) := by show Below ..; rw [hZ]; exact HBX.out.setCell (p := ⟨F0 + dq, b, none⟩) (by show w.heap.size ≤ F0 + dq; have := HMB.out; omega) _
                have HZS : Hid (Z.heap[wo.heap.size]? = some (.cells #[.int .i64 1, .int .i64 (dq : Int), .int .i64 (sq : Int), .int .u8 (c.toNat : Int)] 105 (0, 0))) := by show _ = _; rw [hZ]; exact (heap_setCell_other _ _ _ _ (HSN.out dq hdq)).trans HSX.out
                rw [← hZ]
                clear hZ
                go_wp2
                exact ⟨⟨b + 1, by omega, by go_num, HZB.out, HZR.out, HZS.out⟩, by simp [intOf]; omega⟩
              · obtain ⟨dq, rfl⟩ := Int.eq_ofNat_of_zero_le hd0
                have hdq : dq < k := by omega
                clear hd0 hd1 hz1 hz2
                have p1 := cellAt HS.out 1 _ rfl
                have pm := cellAt HR.out.regs dq _ (slF_at hdq)
                have q0 := cellAt (HR.out.row dq hdq) b _ (vfs_get _ b (by rw [rowF_len]; exact hbh))
                have q1 : wr.frozen? ⟨F0 + dq, b, none⟩ = false := frozen_of_row _ _ _ _ _ (HR.out.row dq hdq)
                have HZR : Hid (RunW w.heap.size (wr.setCell ⟨F0 + dq, b, none⟩ (.int .u8 0)) M F0 Q k ol h g (upTo (inX L) ⟨2, (dq : Int), src, c⟩ R9 (b + 1)) O9) := by
                  show RunW ..
                  rw [upTo_next (k := dq) (x := 0) rfl (fun h => absurd (show (2 : Int) = 5 from h) (by decide)) (by rw [doR_2 rfl]; exact congrFun setR_same b)]
                  exact HR.out.poke hdq hbh 0
                have HZB : Hid (Below w.heap.size w (wr.setCell ⟨F0 + dq, b, none⟩ (.int .u8 0))) := HB.out.setCell (p := ⟨F0 + dq, b, none⟩) (by show w.heap.size ≤ F0 + dq; have := HMB.out; omega) _
                have HZS : Hid ((wr.setCell ⟨F0 + dq, b, none⟩ (.int .u8 0)).heap[wo.heap.size]? = some (.cells #[.int .i64 2, .int .i64 (dq : Int), .int .i64 src, .int .u8 (c.toNat : Int)] 105 (0, 0))) := (heap_setCell_other _ _ _ _ (HSN.out dq hdq)).trans HS.out
                go_wp2
                exact ⟨⟨b + 1, by omega, by go_num, HZB.out, HZR.out, HZS.out⟩, by simp [intOf]; omega⟩
              · obtain ⟨dq, rfl⟩ := Int.eq_ofNat_of_zero_le hd0
                have hdq : dq < k := by omega
                clear hd0 hd1 hz1
                go_wp2
                have P1 : Hid (∀ u, wr.grownBy u (some (F0 + dq)) → u.cell? ⟨wo.heap.size, 1, none⟩ = some (.int .i64 (dq : Int))) := fun u hu => cellAt ((hu.block _ (ltHeap HS.out) (fun e => HSN.out dq hdq (Option.some.inj e))).trans HS.out) 1 _ rfl
                have P3 : Hid (∀ u, wr.grownBy u (some (F0 + dq)) → u.cell? ⟨wo.heap.size, 3, none⟩ = some (.int .u8 (c.toNat : Int))) := fun u hu => cellAt ((hu.block _ (ltHeap HS.out) (fun e => HSN.out dq hdq (Option.some.inj e))).trans HS.out) 3 _ rfl
                have PM : Hid (∀ u, wr.grownBy u (some (F0 + dq)) → u.cell? ⟨M, dq, none⟩ = some (.slice (some ⟨F0 + dq, 0, none⟩) h h)) := fun u hu => cellAt ((hu.block _ (ltHeap HR.out.regs) (fun e => by have := Option.some.inj e; have := HR.out.hMF; omega)).trans HR.out.regs) dq _ (slF_at (by assumption))
                refine wp_region_noPanic ?_
                refine wp_region_held_drew (S := fun u => wr.grownBy u (some (F0 + dq))) (by kernel_rfl) ?_ (fun hHeld => ?_)
                · exact grownBy_drew (World.grownBy.refl _ _)
                obtain ⟨X, hX⟩ : ∃ X, X = wr.drew := ⟨_, rfl⟩
                have GX : wr.grownBy X (some (F0 + dq)) := by rw [hX]; exact grownBy_drew (World.grownBy.refl _ _)
                have HRX : Hid (RunW w.heap.size X M F0 Q k ol h g (upTo (inX L) ⟨3, (dq : Int), src, c⟩ R9 b) O9) := by show RunW ..; rw [hX]; exact HR.out.drew
                have HBX : Hid (Below w.heap.size w X) := by show Below ..; rw [hX]; exact HB.out.drew
                have HSX : Hid (X.heap[wo.heap.size]? = some (.cells #[.int .i64 3, .int .i64 (dq : Int), .int .i64 src, .int .u8 (c.toNat : Int)] 105 (0, 0))) := by show _ = _; rw [hX]; exact HS.out
                rw [← hX] at hHeld ⊢
                clear hX
                refine wpAnyH_take (i := 0) (oi := { dst := some 73, op := Op.move (Operand.tmp 7), type := 49, pos := "ref.go:72", after := #[], guard := none }) (v := ?_) rfl (by kernel_rfl) (by kernel_rfl) (by kernel_rfl) (fun _ _ _ h => h) (Or.inl ⟨by rfl, ?_⟩) hHeld ?_
                rotate_left
                · intro u hSw
                  go_simp
                  try with_reducible rfl
                try simp only [Act.put, List.setIfInBounds_toArray, List.set_cons_zero, List.set_cons_succ]
                refine wpAnyH_take (i := 1) (oi := { dst := some 74, op := Op.fieldAddr 105 (Operand.tmp 11) 1, type := 0, pos := "ref.go:72", after := #[], guard := none }) (v := ?_) rfl (by kernel_rfl) (by kernel_rfl) (by kernel_rfl) (fun _ _ _ h => h) (Or.inl ⟨by rfl, ?_⟩) hHeld ?_
                rotate_left
                · intro u hSw
                  go_simp
                  try with_reducible rfl
                try simp only [Act.put, List.setIfInBounds_toArray, List.set_cons_zero, List.set_cons_succ]
                refine wpAnyH_take (i := 2) (oi := { dst := some 75, op := Op.load 3 (Operand.tmp 74), type := 3, pos := "ref.go:72", after := #[{ on := 1, ground := Ground.data }], guard := none }) (v := ?_) rfl (by kernel_rfl) (by kernel_rfl) (by kernel_rfl) (fun _ _ _ h => h) (Or.inl ⟨by rfl, ?_⟩) hHeld ?_
                rotate_left
                · intro u hSw
                  have k9 := P1.out u hSw
                  go_simp
                  try with_reducible rfl
                try simp only [Act.put, List.setIfInBounds_toArray, List.set_cons_zero, List.set_cons_succ]
                refine wpAnyH_take (i := 3) (oi := { dst := some 76, op := Op.indexAddr 49 (Operand.tmp 73) (Operand.tmp 75), type := 0, pos := "ref.go:72", after := #[{ on := 0, ground := Ground.data }, { on := 2, ground := Ground.data }], guard := none }) (v := ?_) rfl (by kernel_rfl) (by kernel_rfl) (by kernel_rfl) (fun _ _ _ h => h) (Or.inl ⟨by rfl, ?_⟩) hHeld ?_
                rotate_left
                · intro u hSw
                  go_simp
                  try with_reducible rfl
                try simp only [Act.put, List.setIfInBounds_toArray, List.set_cons_zero, List.set_cons_succ]
                refine wpAnyH_take (i := 4) (oi := { dst := some 77, op := Op.load 23 (Operand.tmp 76), type := 23, pos := "ref.go:72", after := #[{ on := 3, ground := Ground.data }], guard := none }) (v := ?_) rfl (by kernel_rfl) (by kernel_rfl) (by kernel_rfl) (fun _ _ _ h => h) (Or.inl ⟨by rfl, ?_⟩) hHeld ?_
                rotate_left
                · intro u hSw
                  have k9 := PM.out u hSw
                  go_simp
                  try with_reducible rfl
                try simp only [Act.put, List.setIfInBounds_toArray, List.set_cons_zero, List.set_cons_succ]
                refine wpAnyH_take (i := 5) (oi := { dst := some 78, op := Op.move (Operand.tmp 12), type := 3, pos := "ref.go:72", after := #[], guard := none }) (v := ?_) rfl (by kernel_rfl) (by kernel_rfl) (by kernel_rfl) (fun _ _ _ h => h) (Or.inl ⟨by rfl, ?_⟩) hHeld ?_
                rotate_left
                · intro u hSw
                  go_simp
                  try with_reducible rfl
                try simp only [Act.put, List.setIfInBounds_toArray, List.set_cons_zero, List.set_cons_succ]
                refine wpAnyH_take (i := 6) (oi := { dst := some 79, op := Op.fieldAddr 105 (Operand.tmp 11) 3, type := 0, pos := "ref.go:72", after := #[], guard := none }) (v := ?_) rfl (by kernel_rfl) (by kernel_rfl) (by kernel_rfl) (fun _ _ _ h => h) (Or.inl ⟨by rfl, ?_⟩) hHeld ?_
                rotate_left
                · intro u hSw
                  go_simp
                  try with_reducible rfl
                try simp only [Act.put, List.setIfInBounds_toArray, List.set_cons_zero, List.set_cons_succ]
                refine wpAnyH_take (i := 7) (oi := { dst := some 80, op := Op.load 5 (Operand.tmp 79), type := 5, pos := "ref.go:72", after := #[{ on := 6, ground := Ground.data }], guard := none }) (v := ?_) rfl (by kernel_rfl) (by kernel_rfl) (by kernel_rfl) (fun _ _ _ h => h) (Or.inl ⟨by rfl, ?_⟩) hHeld ?_
                rotate_left
                · intro u hSw
                  have k9 := P3.out u hSw
                  go_simp
                  try with_reducible rfl
                try simp only [Act.put, List.setIfInBounds_toArray, List.set_cons_zero, List.set_cons_succ]
                refine wpAnyH_take (i := 8) (oi := { dst := some 81, op := Op.move (Operand.tmp 7), type := 49, pos := "ref.go:72", after := #[], guard := none }) (v := ?_) rfl (by kernel_rfl) (by kernel_rfl) (by kernel_rfl) (fun _ _ _ h => h) (Or.inl ⟨by rfl, ?_⟩) hHeld ?_
                rotate_left
                · intro u hSw
                  go_simp
                  try with_reducible rfl
                try simp only [Act.put, List.setIfInBounds_toArray, List.set_cons_zero, List.set_cons_succ]
                refine wpAnyH_take (i := 9) (oi := { dst := some 82, op := Op.fieldAddr 105 (Operand.tmp 11) 1, type := 0, pos := "ref.go:72", after := #[], guard := none }) (v := ?_) rfl (by kernel_rfl) (by kernel_rfl) (by kernel_rfl) (fun _ _ _ h => h) (Or.inl ⟨by rfl, ?_⟩) hHeld ?_
                rotate_left
                · intro u hSw
                  go_simp
                  try with_reducible rfl
                try simp only [Act.put, List.setIfInBounds_toArray, List.set_cons_zero, List.set_cons_succ]
                refine wpAnyH_take (i := 10) (oi := { dst := some 83, op := Op.load 3 (Operand.tmp 82), type := 3, pos := "ref.go:72", after := #[{ on := 9, ground := Ground.data }], guard := none }) (v := ?_) rfl (by kernel_rfl) (by kernel_rfl) (by kernel_rfl) (fun _ _ _ h => h) (Or.inl ⟨by rfl, ?_⟩) hHeld ?_
                rotate_left
                · intro u hSw
                  have k9 := P1.out u hSw
                  go_simp
                  try with_reducible rfl
                try simp only [Act.put, List.setIfInBounds_toArray, List.set_cons_zero, List.set_cons_succ]
                refine wpAnyH_take (i := 11) (oi := { dst := some 84, op := Op.indexAddr 49 (Operand.tmp 81) (Operand.tmp 83), type := 0, pos := "ref.go:72", after := #[{ on := 8, ground := Ground.data }, { on := 10, ground := Ground.data }], guard := none }) (v := ?_) rfl (by kernel_rfl) (by kernel_rfl) (by kernel_rfl) (fun _ _ _ h => h) (Or.inl ⟨by rfl, ?_⟩) hHeld ?_
                rotate_left
                · intro u hSw
                  go_simp
                  try with_reducible rfl
                try simp only [Act.put, List.setIfInBounds_toArray, List.set_cons_zero, List.set_cons_succ]
                refine wpAnyH_take (i := 12) (oi := { dst := some 85, op := Op.load 23 (Operand.tmp 84), type := 23, pos := "ref.go:72", after := #[{ on := 11, ground := Ground.data }], guard := none }) (v := ?_) rfl (by kernel_rfl) (by kernel_rfl) (by kernel_rfl) (fun _ _ _ h => h) (Or.inl ⟨by rfl, ?_⟩) hHeld ?_
                rotate_left
                · intro u hSw
                  have k9 := PM.out u hSw
                  go_simp
                  try with_reducible rfl
                try simp only [Act.put, List.setIfInBounds_toArray, List.set_cons_zero, List.set_cons_succ]
                refine wpAnyH_take (i := 13) (oi := { dst := some 86, op := Op.move (Operand.tmp 12), type := 3, pos := "ref.go:72", after := #[], guard := none }) (v := ?_) rfl (by kernel_rfl) (by kernel_rfl) (by kernel_rfl) (fun _ _ _ h => h) (Or.inl ⟨by rfl, ?_⟩) hHeld ?_
                rotate_left
                · intro u hSw
                  go_simp
                  try with_reducible rfl
                try simp only [Act.put, List.setIfInBounds_toArray, List.set_cons_zero, List.set_cons_succ]
                refine wpAnyH_take (i := 14) (oi := { dst := some 87, op := Op.indexAddr 23 (Operand.tmp 85) (Operand.tmp 86), type := 0, pos := "ref.go:72", after := #[{ on := 12, ground := Ground.data }, { on := 13, ground := Ground.data }], guard := none }) (v := ?_) rfl (by kernel_rfl) (by kernel_rfl) (by kernel_rfl) (fun _ _ _ h => h) (Or.inl ⟨by rfl, ?_⟩) hHeld ?_
                rotate_left
                · intro u hSw
                  go_simp
                  try with_reducible rfl
                try simp only [Act.put, List.setIfInBounds_toArray, List.set_cons_zero, List.set_cons_succ]
                refine wpAnyH_ready (rs := [15]) (by kernel_rfl) (by simp) ?_
                refine (AllReadyH.cons (o := { dst := some 88, op := Op.load 5 (Operand.tmp 87), type := 5, pos := "ref.go:72", after := #[{ on := 14, ground := Ground.data }], guard := none }) rfl (fun K hK => ?_) AllReadyH.nil)
                have q9 := cellAt (HRX.out.row dq (by assumption)) b _ (vfs_get _ b (by rw [rowF_len]; exact hbh))
                rw [at8_rowF hbh, upTo_at] at q9
                go_simp
                refine hK.out _ _ ?_ (fun hHeld => ?_)
                · exact GX
                clear hK K
                try simp only [Act.put, List.setIfInBounds_toArray, List.set_cons_zero, List.set_cons_succ]
                refine wpAnyH_ready (rs := [16]) (by kernel_rfl) (by simp) ?_
                refine (AllReadyH.cons (o := { dst := some 89, op := Op.call { callee := Callee.value (Operand.func 64), args := #[Operand.tmp 80, Operand.tmp 88], argTypes := #[5, 5] }, type := 5, pos := "ref.go:72", after := #[{ on := 7, ground := Ground.data }, { on := 15, ground := Ground.data }], guard := none }) rfl (fun K hK => ?_) AllReadyH.nil)
                go_simp
                refine (rmul_F c (R9 (dq : Int) b) _).mono ?_
                rintro e w9 ⟨rfl, rfl⟩
                go_wp2_with fail
                refine hK.out _ _ ?_ (fun hHeld => ?_)
                · exact GX
                clear hK K
                try simp only [Act.put, List.setIfInBounds_toArray, List.set_cons_zero, List.set_cons_succ]
                refine wpAnyH_take (i := 17) (oi := { dst := some 90, op := Op.indexAddr 23 (Operand.tmp 77) (Operand.tmp 78), type := 0, pos := "ref.go:72", after := #[{ on := 4, ground := Ground.data }, { on := 5, ground := Ground.data }, { on := 0, ground := Ground.phase }, { on := 1, ground := Ground.phase }, { on := 2, ground := Ground.phase }, { on := 3, ground := Ground.phase }, { on := 4, ground := Ground.phase }, { on := 5, ground := Ground.phase }, { on := 6, ground := Ground.phase }, { on := 7, ground := Ground.phase }, { on := 8, ground := Ground.phase }, { on := 9, ground := Ground.phase }, { on := 10, ground := Ground.phase }, { on := 11, ground := Ground.phase }, { on := 12, ground := Ground.phase }, { on := 13, ground := Ground.phase }, { on := 14, ground := Ground.phase }, { on := 15, ground := Ground.phase }, { on := 16, ground := Ground.phase }], guard := none }) (v := ?_) rfl (by kernel_rfl) (by kernel_rfl) (by kernel_rfl) (fun _ _ _ h => h) (Or.inl ⟨by rfl, ?_⟩) hHeld ?_
                rotate_left
                · intro u hSw
                  go_simp
                  try with_reducible rfl
                try simp only [Act.put, List.setIfInBounds_toArray, List.set_cons_zero, List.set_cons_succ]
                refine wpAnyH_ready (rs := [18]) (by kernel_rfl) (by simp) ?_
                refine (AllReadyH.cons (o := { dst := none, op := Op.store 5 (Operand.tmp 90) (Operand.tmp 89), type := 0, pos := "ref.go:72", after := #[{ on := 17, ground := Ground.data }, { on := 16, ground := Ground.data }, { on := 16, ground := Ground.chain }, { on := 0, ground := Ground.phase }, { on := 1, ground := Ground.phase }, { on := 2, ground := Ground.phase }, { on := 3, ground := Ground.phase }, { on := 4, ground := Ground.phase }, { on := 5, ground := Ground.phase }, { on := 6, ground := Ground.phase }, { on := 7, ground := Ground.phase }, { on := 8, ground := Ground.phase }, { on := 9, ground := Ground.phase }, { on := 10, ground := Ground.phase }, { on := 11, ground := Ground.phase }, { on := 12, ground := Ground.phase }, { on := 13, ground := Ground.phase }, { on := 14, ground := Ground.phase }, { on := 15, ground := Ground.phase }, { on := 16, ground := Ground.phase }], guard := none }) rfl (fun K hK => ?_) AllReadyH.nil)
                have q0 := cellAt (HRX.out.row dq (by assumption)) b _ (vfs_get _ b (by rw [rowF_len]; exact hbh))
                have q1 : X.frozen? ⟨F0 + dq, b, none⟩ = false := frozen_of_row _ _ _ _ _ (HRX.out.row dq (by assumption))
                go_simp
                refine hK.out _ _ ?_ (fun hHeld => ?_)
                · exact grownBy_setCell GX _
                clear hK K
                try simp only [Act.put, List.setIfInBounds_toArray, List.set_cons_zero, List.set_cons_succ]
                refine wpAnyH_done (by kernel_rfl) ?_ _
                refine NoPanic.normal ?_
                obtain ⟨Z, hZ⟩ : ∃ Z, Z = X.setCell ⟨F0 + dq, b, none⟩ (.int .u8 ((gm c (R9 (dq : Int) b)).toNat : Int)) := ⟨_, rfl⟩
                have HZR : Hid (RunW w.heap.size Z M F0 Q k ol h g (upTo (inX L) ⟨3, (dq : Int), src, c⟩ R9 (b + 1)) O9) := by
                  show RunW ..
                  rw [hZ, upTo_next (k := dq) (x := gm c (R9 (dq : Int) b)) rfl (fun h => absurd (show (3 : Int) = 5 from h) (by decide)) (by rw [doR_3 rfl]; exact congrFun setR_same b)]
                  exact HRX.out.poke (by assumption) hbh _
                have HZB : Hid (Below w.heap.size w Z) := by show Below ..; rw [hZ]; exact HBX.out.setCell (p := ⟨F0 + dq, b, none⟩) (by show w.heap.size ≤ F0 + dq; have := HMB.out; omega) _
                have HZS : Hid (Z.heap[wo.heap.size]? = some (.cells #[.int .i64 3, .int .i64 (dq : Int), .int .i64 src, .int .u8 (c.toNat : Int)] 105 (0, 0))) := by show _ = _; rw [hZ]; exact (heap_setCell_other _ _ _ _ (HSN.out dq hdq)).trans HSX.out
                rw [← hZ]
                clear hZ
                go_wp2
                exact ⟨⟨b + 1, by omega, by go_num, HZB.out, HZR.out, HZS.out⟩, by simp [intOf]; omega⟩
              · obtain ⟨dq, rfl⟩ := Int.eq_ofNat_of_zero_le hd0
                obtain ⟨sq, rfl⟩ := Int.eq_ofNat_of_zero_le hs0
                have hdq : dq < k := by omega
                have hsq : sq < k := by omega
                clear hd0 hd1 hs0 hs1
                go_wp2
                have P1 : Hid (∀ u, wr.grownBy u (some (F0 + dq)) → u.cell? ⟨wo.heap.size, 1, none⟩ = some (.int .i64 (dq : Int))) := fun u hu => cellAt ((hu.block _ (ltHeap HS.out) (fun e => HSN.out dq hdq (Option.some.inj e))).trans HS.out) 1 _ rfl
                have P2 : Hid (∀ u, wr.grownBy u (some (F0 + dq)) → u.cell? ⟨wo.heap.size, 2, none⟩ = some (.int .i64 (sq : Int))) := fun u hu => cellAt ((hu.block _ (ltHeap HS.out) (fun e => HSN.out dq hdq (Option.some.inj e))).trans HS.out) 2 _ rfl
                have P3 : Hid (∀ u, wr.grownBy u (some (F0 + dq)) → u.cell? ⟨wo.heap.size, 3, none⟩ = some (.int .u8 (c.toNat : Int))) := fun u hu => cellAt ((hu.block _ (ltHeap HS.out) (fun e => HSN.out dq hdq (Option.some.inj e))).trans HS.out) 3 _ rfl
                have PM : Hid (∀ u, wr.grownBy u (some (F0 + dq)) → u.cell? ⟨M, dq, none⟩ = some (.slice (some ⟨F0 + dq, 0, none⟩) h h)) := fun u hu => cellAt ((hu.block _ (ltHeap HR.out.regs) (fun e => by have := Option.some.inj e; have := HR.out.hMF; omega)).trans HR.out.regs) dq _ (slF_at (by assumption))
                have PQ : Hid (∀ u, wr.grownBy u (some (F0 + dq)) → u.cell? ⟨M, sq, none⟩ = some (.slice (some ⟨F0 + sq, 0, none⟩) h h)) := fun u hu => cellAt ((hu.block _ (ltHeap HR.out.regs) (fun e => by have := Option.some.inj e; have := HR.out.hMF; omega)).trans HR.out.regs) sq _ (slF_at (by assumption))
                refine wp_region_noPanic ?_
                refine wp_region_held_drew (S := fun u => wr.grownBy u (some (F0 + dq))) (by kernel_rfl) ?_ (fun hHeld => ?_)
                · exact grownBy_drew (World.grownBy.refl _ _)
                obtain ⟨X, hX⟩ : ∃ X, X = wr.drew := ⟨_, rfl⟩
                have GX : wr.grownBy X (some (F0 + dq)) := by rw [hX]; exact grownBy_drew (World.grownBy.refl _ _)
                have HRX : Hid (RunW w.heap.size X M F0 Q k ol h g (upTo (inX L) ⟨4, (dq : Int), (sq : Int), c⟩ R9 b) O9) := by show RunW ..; rw [hX]; exact HR.out.drew
                have HBX : Hid (Below w.heap.size w X) := by show Below ..; rw [hX]; exact HB.out.drew
                have HSX : Hid (X.heap[wo.heap.size]? = some (.cells #[.int .i64 4, .int .i64 (dq : Int), .int .i64 (sq : Int), .int .u8 (c.toNat : Int)] 105 (0, 0))) := by show _ = _; rw [hX]; exact HS.out
                rw [← hX] at hHeld ⊢
                clear hX
                refine wpAnyH_take (i := 0) (oi := { dst := some 93, op := Op.move (Operand.tmp 7), type := 49, pos := "ref.go:74", after := #[], guard := none }) (v := ?_) rfl (by kernel_rfl) (by kernel_rfl) (by kernel_rfl) (fun _ _ _ h => h) (Or.inl ⟨by rfl, ?_⟩) hHeld ?_
                rotate_left
                · intro u hSw
                  go_simp
                  try with_reducible rfl
                try simp only [Act.put, List.setIfInBounds_toArray, List.set_cons_zero, List.set_cons_succ]
                refine wpAnyH_take (i := 1) (oi := { dst := some 94, op := Op.fieldAddr 105 (Operand.tmp 11) 1, type := 0, pos := "ref.go:74", after := #[], guard := none }) (v := ?_) rfl (by kernel_rfl) (by kernel_rfl) (by kernel_rfl) (fun _ _ _ h => h) (Or.inl ⟨by rfl, ?_⟩) hHeld ?_
                rotate_left
                · intro u hSw
                  go_simp
                  try with_reducible rfl
                try simp only [Act.put, List.setIfInBounds_toArray, List.set_cons_zero, List.set_cons_succ]
                refine wpAnyH_take (i := 2) (oi := { dst := some 95, op := Op.load 3 (Operand.tmp 94), type := 3, pos := "ref.go:74", after := #[{ on := 1, ground := Ground.data }], guard := none }) (v := ?_) rfl (by kernel_rfl) (by kernel_rfl) (by kernel_rfl) (fun _ _ _ h => h) (Or.inl ⟨by rfl, ?_⟩) hHeld ?_
                rotate_left
                · intro u hSw
                  have k9 := P1.out u hSw
                  go_simp
                  try with_reducible rfl
                try simp only [Act.put, List.setIfInBounds_toArray, List.set_cons_zero, List.set_cons_succ]
                refine wpAnyH_take (i := 3) (oi := { dst := some 96, op := Op.indexAddr 49 (Operand.tmp 93) (Operand.tmp 95), type := 0, pos := "ref.go:74", after := #[{ on := 0, ground := Ground.data }, { on := 2, ground := Ground.data }], guard := none }) (v := ?_) rfl (by kernel_rfl) (by kernel_rfl) (by kernel_rfl) (fun _ _ _ h => h) (Or.inl ⟨by rfl, ?_⟩) hHeld ?_
                rotate_left
                · intro u hSw
                  go_simp
                  try with_reducible rfl
                try simp only [Act.put, List.setIfInBounds_toArray, List.set_cons_zero, List.set_cons_succ]
                refine wpAnyH_take (i := 4) (oi := { dst := some 97, op := Op.load 23 (Operand.tmp 96), type := 23, pos := "ref.go:74", after := #[{ on := 3, ground := Ground.data }], guard := none }) (v := ?_) rfl (by kernel_rfl) (by kernel_rfl) (by kernel_rfl) (fun _ _ _ h => h) (Or.inl ⟨by rfl, ?_⟩) hHeld ?_
                rotate_left
                · intro u hSw
                  have k9 := PM.out u hSw
                  go_simp
                  try with_reducible rfl
                try simp only [Act.put, List.setIfInBounds_toArray, List.set_cons_zero, List.set_cons_succ]
                refine wpAnyH_take (i := 5) (oi := { dst := some 98, op := Op.move (Operand.tmp 12), type := 3, pos := "ref.go:74", after := #[], guard := none }) (v := ?_) rfl (by kernel_rfl) (by kernel_rfl) (by kernel_rfl) (fun _ _ _ h => h) (Or.inl ⟨by rfl, ?_⟩) hHeld ?_
                rotate_left
                · intro u hSw
                  go_simp
                  try with_reducible rfl
                try simp only [Act.put, List.setIfInBounds_toArray, List.set_cons_zero, List.set_cons_succ]
                refine wpAnyH_take (i := 6) (oi := { dst := some 99, op := Op.indexAddr 23 (Operand.tmp 97) (Operand.tmp 98), type := 0, pos := "ref.go:74", after := #[{ on := 4, ground := Ground.data }, { on := 5, ground := Ground.data }], guard := none }) (v := ?_) rfl (by kernel_rfl) (by kernel_rfl) (by kernel_rfl) (fun _ _ _ h => h) (Or.inl ⟨by rfl, ?_⟩) hHeld ?_
                rotate_left
                · intro u hSw
                  go_simp
                  try with_reducible rfl
                try simp only [Act.put, List.setIfInBounds_toArray, List.set_cons_zero, List.set_cons_succ]
                refine wpAnyH_take (i := 8) (oi := { dst := some 101, op := Op.fieldAddr 105 (Operand.tmp 11) 3, type := 0, pos := "ref.go:74", after := #[], guard := none }) (v := ?_) rfl (by kernel_rfl) (by kernel_rfl) (by kernel_rfl) (fun _ _ _ h => h) (Or.inl ⟨by rfl, ?_⟩) hHeld ?_
                rotate_left
                · intro u hSw
                  go_simp
                  try with_reducible rfl
                try simp only [Act.put, List.setIfInBounds_toArray, List.set_cons_zero, List.set_cons_succ]
                refine wpAnyH_take (i := 9) (oi := { dst := some 102, op := Op.load 5 (Operand.tmp 101), type := 5, pos := "ref.go:74", after := #[{ on := 8, ground := Ground.data }], guard := none }) (v := ?_) rfl (by kernel_rfl) (by kernel_rfl) (by kernel_rfl) (fun _ _ _ h => h) (Or.inl ⟨by rfl, ?_⟩) hHeld ?_
                rotate_left
                · intro u hSw
                  have k9 := P3.out u hSw
                  go_simp
                  try with_reducible rfl
                try simp only [Act.put, List.setIfInBounds_toArray, List.set_cons_zero, List.set_cons_succ]
                refine wpAnyH_take (i := 10) (oi := { dst := some 103, op := Op.move (Operand.tmp 7), type := 49, pos := "ref.go:74", after := #[], guard := none }) (v := ?_) rfl (by kernel_rfl) (by kernel_rfl) (by kernel_rfl) (fun _ _ _ h => h) (Or.inl ⟨by rfl, ?_⟩) hHeld ?_
                rotate_left
                · intro u hSw
                  go_simp
                  try with_reducible rfl
                try simp only [Act.put, List.setIfInBounds_toArray, List.set_cons_zero, List.set_cons_succ]
                refine wpAnyH_take (i := 11) (oi := { dst := some 104, op := Op.fieldAddr 105 (Operand.tmp 11) 2, type := 0, pos := "ref.go:74", after := #[], guard := none }) (v := ?_) rfl (by kernel_rfl) (by kernel_rfl) (by kernel_rfl) (fun _ _ _ h => h) (Or.inl ⟨by rfl, ?_⟩) hHeld ?_
                rotate_left
                · intro u hSw
                  go_simp
                  try with_reducible rfl
                try simp only [Act.put, List.setIfInBounds_toArray, List.set_cons_zero, List.set_cons_succ]
                refine wpAnyH_take (i := 12) (oi := { dst := some 105, op := Op.load 3 (Operand.tmp 104), type := 3, pos := "ref.go:74", after := #[{ on := 11, ground := Ground.data }], guard := none }) (v := ?_) rfl (by kernel_rfl) (by kernel_rfl) (by kernel_rfl) (fun _ _ _ h => h) (Or.inl ⟨by rfl, ?_⟩) hHeld ?_
                rotate_left
                · intro u hSw
                  have k9 := P2.out u hSw
                  go_simp
                  try with_reducible rfl
                try simp only [Act.put, List.setIfInBounds_toArray, List.set_cons_zero, List.set_cons_succ]
                refine wpAnyH_take (i := 13) (oi := { dst := some 106, op := Op.indexAddr 49 (Operand.tmp 103) (Operand.tmp 105), type := 0, pos := "ref.go:74", after := #[{ on := 10, ground := Ground.data }, { on := 12, ground := Ground.data }], guard := none }) (v := ?_) rfl (by kernel_rfl) (by kernel_rfl) (by kernel_rfl) (fun _ _ _ h => h) (Or.inl ⟨by rfl, ?_⟩) hHeld ?_
                rotate_left
                · intro u hSw
                  go_simp
                  try with_reducible rfl
                try simp only [Act.put, List.setIfInBounds_toArray, List.set_cons_zero, List.set_cons_succ]
                refine wpAnyH_take (i := 14) (oi := { dst := some 107, op := Op.load 23 (Operand.tmp 106), type := 23, pos := "ref.go:74", after := #[{ on := 13, ground := Ground.data }], guard := none }) (v := ?_) rfl (by kernel_rfl) (by kernel_rfl) (by kernel_rfl) (fun _ _ _ h => h) (Or.inl ⟨by rfl, ?_⟩) hHeld ?_
                rotate_left
                · intro u hSw
                  have k9 := PQ.out u hSw
                  go_simp
                  try with_reducible rfl
                try simp only [Act.put, List.setIfInBounds_toArray, List.set_cons_zero, List.set_cons_succ]
                refine wpAnyH_take (i := 15) (oi := { dst := some 108, op := Op.move (Operand.tmp 12), type := 3, pos := "ref.go:74", after := #[], guard := none }) (v := ?_) rfl (by kernel_rfl) (by kernel_rfl) (by kernel_rfl) (fun _ _ _ h => h) (Or.inl ⟨by rfl, ?_⟩) hHeld ?_
                rotate_left
                · intro u hSw
                  go_simp
                  try with_reducible rfl
                try simp only [Act.put, List.setIfInBounds_toArray, List.set_cons_zero, List.set_cons_succ]
                refine wpAnyH_take (i := 16) (oi := { dst := some 109, op := Op.indexAddr 23 (Operand.tmp 107) (Operand.tmp 108), type := 0, pos := "ref.go:74", after := #[{ on := 14, ground := Ground.data }, { on := 15, ground := Ground.data }], guard := none }) (v := ?_) rfl (by kernel_rfl) (by kernel_rfl) (by kernel_rfl) (fun _ _ _ h => h) (Or.inl ⟨by rfl, ?_⟩) hHeld ?_
                rotate_left
                · intro u hSw
                  go_simp
                  try with_reducible rfl
                try simp only [Act.put, List.setIfInBounds_toArray, List.set_cons_zero, List.set_cons_succ]
                refine wpAnyH_ready (rs := [7, 17]) (by kernel_rfl) (by simp) ?_
                refine (AllReadyH.cons (o := { dst := some 100, op := Op.load 5 (Operand.tmp 99), type := 5, pos := "ref.go:74", after := #[{ on := 6, ground := Ground.data }], guard := none }) rfl (fun K hK => ?_) (AllReadyH.cons (o := { dst := some 110, op := Op.load 5 (Operand.tmp 109), type := 5, pos := "ref.go:74", after := #[{ on := 16, ground := Ground.data }], guard := none }) rfl (fun K hK => ?_) AllReadyH.nil))
                · have q9 := cellAt (HRX.out.row dq (by assumption)) b _ (vfs_get _ b (by rw [rowF_len]; exact hbh))
                  rw [at8_rowF hbh, upTo_at] at q9
                  go_simp
                  refine hK.out _ _ ?_ (fun hHeld => ?_)
                  · exact GX
                  clear hK K
                  try simp only [Act.put, List.setIfInBounds_toArray, List.set_cons_zero, List.set_cons_succ]
                  refine wpAnyH_ready (rs := [17]) (by kernel_rfl) (by simp) ?_
                  refine (AllReadyH.cons (o := { dst := some 110, op := Op.load 5 (Operand.tmp 109), type := 5, pos := "ref.go:74", after := #[{ on := 16, ground := Ground.data }], guard := none }) rfl (fun K hK => ?_) AllReadyH.nil)
                  have q8 := cellAt (HRX.out.row sq (by assumption)) b _ (vfs_get _ b (by rw [rowF_len]; exact hbh))
                  rw [at8_rowF hbh, upTo_at] at q8
                  go_simp
                  refine hK.out _ _ ?_ (fun hHeld => ?_)
                  · exact GX
                  clear hK K
                  try simp only [Act.put, List.setIfInBounds_toArray, List.set_cons_zero, List.set_cons_succ]
                  refine wpAnyH_ready (rs := [18]) (by kernel_rfl) (by simp) ?_
                  refine (AllReadyH.cons (o := { dst := some 111, op := Op.call { callee := Callee.value (Operand.func 64), args := #[Operand.tmp 102, Operand.tmp 110], argTypes := #[5, 5] }, type := 5, pos := "ref.go:74", after := #[{ on := 9, ground := Ground.data }, { on := 17, ground := Ground.data }], guard := none }) rfl (fun K hK => ?_) AllReadyH.nil)
                  go_simp
                  refine (rmul_F c (R9 (sq : Int) b) _).mono ?_
                  rintro e w9 ⟨rfl, rfl⟩
                  go_wp2_with fail
                  refine hK.out _ _ ?_ (fun hHeld => ?_)
                  · exact GX
                  clear hK K
                  try simp only [Act.put, List.setIfInBounds_toArray, List.set_cons_zero, List.set_cons_succ]
                  refine wpAnyH_take (i := 19) (oi := { dst := some 112, op := Op.binOp BinOp.xor 5 (Operand.tmp 100) (Operand.tmp 111) 5, type := 5, pos := "ref.go:74", after := #[{ on := 7, ground := Ground.data }, { on := 18, ground := Ground.data }], guard := none }) (v := ?_) rfl (by kernel_rfl) (by kernel_rfl) (by kernel_rfl) (fun _ _ _ h => h) (Or.inl ⟨by rfl, ?_⟩) hHeld ?_
                  rotate_left
                  · intro u hSw
                    go_simp
                    try with_reducible rfl
                  try simp only [Act.put, List.setIfInBounds_toArray, List.set_cons_zero, List.set_cons_succ]
                  refine wpAnyH_take (i := 20) (oi := { dst := some 113, op := Op.indexAddr 23 (Operand.tmp 97) (Operand.tmp 98), type := 0, pos := "ref.go:74", after := #[{ on := 4, ground := Ground.data }, { on := 5, ground := Ground.data }, { on := 0, ground := Ground.phase }, { on := 1, ground := Ground.phase }, { on := 2, ground := Ground.phase }, { on := 3, ground := Ground.phase }, { on := 4, ground := Ground.phase }, { on := 5, ground := Ground.phase }, { on := 6, ground := Ground.phase }, { on := 7, ground := Ground.phase }, { on := 8, ground := Ground.phase }, { on := 9, ground := Ground.phase }, { on := 10, ground := Ground.phase }, { on := 11, ground := Ground.phase }, { on := 12, ground := Ground.phase }, { on := 13, ground := Ground.phase }, { on := 14, ground := Ground.phase }, { on := 15, ground := Ground.phase }, { on := 16, ground := Ground.phase }, { on := 17, ground := Ground.phase }, { on := 18, ground := Ground.phase }, { on := 19, ground := Ground.phase }], guard := none }) (v := ?_) rfl (by kernel_rfl) (by kernel_rfl) (by kernel_rfl) (fun _ _ _ h => h) (Or.inl ⟨by rfl, ?_⟩) hHeld ?_
                  rotate_left
                  · intro u hSw
                    go_simp
                    try with_reducible rfl
                  try simp only [Act.put, List.setIfInBounds_toArray, List.set_cons_zero, List.set_cons_succ]
                  refine wpAnyH_ready (rs := [21]) (by kernel_rfl) (by simp) ?_
                  refine (AllReadyH.cons (o := { dst := none, op := Op.store 5 (Operand.tmp 113) (Operand.tmp 112), type := 0, pos := "ref.go:74", after := #[{ on := 20, ground := Ground.data }, { on := 19, ground := Ground.data }, { on := 18, ground := Ground.chain }, { on := 0, ground := Ground.phase }, { on := 1, ground := Ground.phase }, { on := 2, ground := Ground.phase }, { on := 3, ground := Ground.phase }, { on := 4, ground := Ground.phase }, { on := 5, ground := Ground.phase }, { on := 6, ground := Ground.phase }, { on := 7, ground := Ground.phase }, { on := 8, ground := Ground.phase }, { on := 9, ground := Ground.phase }, { on := 10, ground := Ground.phase }, { on := 11, ground := Ground.phase }, { on := 12, ground := Ground.phase }, { on := 13, ground := Ground.phase }, { on := 14, ground := Ground.phase }, { on := 15, ground := Ground.phase }, { on := 16, ground := Ground.phase }, { on := 17, ground := Ground.phase }, { on := 18, ground := Ground.phase }, { on := 19, ground := Ground.phase }], guard := none }) rfl (fun K hK => ?_) AllReadyH.nil)
                  have q0 := cellAt (HRX.out.row dq (by assumption)) b _ (vfs_get _ b (by rw [rowF_len]; exact hbh))
                  have q1 : X.frozen? ⟨F0 + dq, b, none⟩ = false := frozen_of_row _ _ _ _ _ (HRX.out.row dq (by assumption))
                  go_simp
                  refine hK.out _ _ ?_ (fun hHeld => ?_)
                  · exact grownBy_setCell GX _
                  clear hK K
                  try simp only [Act.put, List.setIfInBounds_toArray, List.set_cons_zero, List.set_cons_succ]
                  refine wpAnyH_done (by kernel_rfl) ?_ _
                  refine NoPanic.normal ?_
                  obtain ⟨Z, hZ⟩ : ∃ Z, Z = X.setCell ⟨F0 + dq, b, none⟩ (.int .u8 ((ga (R9 (dq : Int) b) (gm c (R9 (sq : Int) b))).toNat : Int)) := ⟨_, rfl⟩
                  have HZR : Hid (RunW w.heap.size Z M F0 Q k ol h g (upTo (inX L) ⟨4, (dq : Int), (sq : Int), c⟩ R9 (b + 1)) O9) := by
                    show RunW ..
                    rw [hZ, upTo_next (k := dq) (x := ga (R9 (dq : Int) b) (gm c (R9 (sq : Int) b))) rfl (fun h => absurd (show (4 : Int) = 5 from h) (by decide)) (by rw [doR_4 rfl]; exact congrFun setR_same b)]
                    exact HRX.out.poke (by assumption) hbh _
                  have HZB : Hid (Below w.heap.size w Z) := by show Below ..; rw [hZ]; exact HBX.out.setCell (p := ⟨F0 + dq, b, none⟩) (by show w.heap.size ≤ F0 + dq; have := HMB.out; omega) _
                  have HZS : Hid (Z.heap[wo.heap.size]? = some (.cells #[.int .i64 4, .int .i64 (dq : Int), .int .i64 (sq : Int), .int .u8 (c.toNat : Int)] 105 (0, 0))) := by show _ = _; rw [hZ]; exact (heap_setCell_other _ _ _ _ (HSN.out dq hdq)).trans HSX.out
                  rw [xor_val, ← hZ]
                  clear hZ
                  go_wp2
                  exact ⟨⟨b + 1, by omega, by go_num, HZB.out, HZR.out, HZS.out⟩, by simp [intOf]; omega⟩
                · have q8 := cellAt (HRX.out.row sq (by assumption)) b _ (vfs_get _ b (by rw [rowF_len]; exact hbh))
                  rw [at8_rowF hbh, upTo_at] at q8
                  go_simp
                  refine hK.out _ _ ?_ (fun hHeld => ?_)
                  · exact GX
                  clear hK K
                  try simp only [Act.put, List.setIfInBounds_toArray, List.set_cons_zero, List.set_cons_succ]
                  refine wpAnyH_ready (rs := [7, 18]) (by kernel_rfl) (by simp) ?_
                  refine (AllReadyH.cons (o := { dst := some 100, op := Op.load 5 (Operand.tmp 99), type := 5, pos := "ref.go:74", after := #[{ on := 6, ground := Ground.data }], guard := none }) rfl (fun K hK => ?_) (AllReadyH.cons (o := { dst := some 111, op := Op.call { callee := Callee.value (Operand.func 64), args := #[Operand.tmp 102, Operand.tmp 110], argTypes := #[5, 5] }, type := 5, pos := "ref.go:74", after := #[{ on := 9, ground := Ground.data }, { on := 17, ground := Ground.data }], guard := none }) rfl (fun K hK => ?_) AllReadyH.nil))
                  · have q9 := cellAt (HRX.out.row dq (by assumption)) b _ (vfs_get _ b (by rw [rowF_len]; exact hbh))
                    rw [at8_rowF hbh, upTo_at] at q9
                    go_simp
                    refine hK.out _ _ ?_ (fun hHeld => ?_)
                    · exact GX
                    clear hK K
                    try simp only [Act.put, List.setIfInBounds_toArray, List.set_cons_zero, List.set_cons_succ]
                    refine wpAnyH_ready (rs := [18]) (by kernel_rfl) (by simp) ?_
                    refine (AllReadyH.cons (o := { dst := some 111, op := Op.call { callee := Callee.value (Operand.func 64), args := #[Operand.tmp 102, Operand.tmp 110], argTypes := #[5, 5] }, type := 5, pos := "ref.go:74", after := #[{ on := 9, ground := Ground.data }, { on := 17, ground := Ground.data }], guard := none }) rfl (fun K hK => ?_) AllReadyH.nil)
                    go_simp
                    refine (rmul_F c (R9 (sq : Int) b) _).mono ?_
                    rintro e w9 ⟨rfl, rfl⟩
                    go_wp2_with fail
                    refine hK.out _ _ ?_ (fun hHeld => ?_)
                    · exact GX
                    clear hK K
                    try simp only [Act.put, List.setIfInBounds_toArray, List.set_cons_zero, List.set_cons_succ]
                    refine wpAnyH_take (i := 19) (oi := { dst := some 112, op := Op.binOp BinOp.xor 5 (Operand.tmp 100) (Operand.tmp 111) 5, type := 5, pos := "ref.go:74", after := #[{ on := 7, ground := Ground.data }, { on := 18, ground := Ground.data }], guard := none }) (v := ?_) rfl (by kernel_rfl) (by kernel_rfl) (by kernel_rfl) (fun _ _ _ h => h) (Or.inl ⟨by rfl, ?_⟩) hHeld ?_
                    rotate_left
                    · intro u hSw
                      go_simp
                      try with_reducible rfl
                    try simp only [Act.put, List.setIfInBounds_toArray, List.set_cons_zero, List.set_cons_succ]
                    refine wpAnyH_take (i := 20) (oi := { dst := some 113, op := Op.indexAddr 23 (Operand.tmp 97) (Operand.tmp 98), type := 0, pos := "ref.go:74", after := #[{ on := 4, ground := Ground.data }, { on := 5, ground := Ground.data }, { on := 0, ground := Ground.phase }, { on := 1, ground := Ground.phase }, { on := 2, ground := Ground.phase }, { on := 3, ground := Ground.phase }, { on := 4, ground := Ground.phase }, { on := 5, ground := Ground.phase }, { on := 6, ground := Ground.phase }, { on := 7, ground := Ground.phase }, { on := 8, ground := Ground.phase }, { on := 9, ground := Ground.phase }, { on := 10, ground := Ground.phase }, { on := 11, ground := Ground.phase }, { on := 12, ground := Ground.phase }, { on := 13, ground := Ground.phase }, { on := 14, ground := Ground.phase }, { on := 15, ground := Ground.phase }, { on := 16, ground := Ground.phase }, { on := 17, ground := Ground.phase }, { on := 18, ground := Ground.phase }, { on := 19, ground := Ground.phase }], guard := none }) (v := ?_) rfl (by kernel_rfl) (by kernel_rfl) (by kernel_rfl) (fun _ _ _ h => h) (Or.inl ⟨by rfl, ?_⟩) hHeld ?_
                    rotate_left
                    · intro u hSw
                      go_simp
                      try with_reducible rfl
                    try simp only [Act.put, List.setIfInBounds_toArray, List.set_cons_zero, List.set_cons_succ]
                    refine wpAnyH_ready (rs := [21]) (by kernel_rfl) (by simp) ?_
                    refine (AllReadyH.cons (o := { dst := none, op := Op.store 5 (Operand.tmp 113) (Operand.tmp 112), type := 0, pos := "ref.go:74", after := #[{ on := 20, ground := Ground.data }, { on := 19, ground := Ground.data }, { on := 18, ground := Ground.chain }, { on := 0, ground := Ground.phase }, { on := 1, ground := Ground.phase }, { on := 2, ground := Ground.phase }, { on := 3, ground := Ground.phase }, { on := 4, ground := Ground.phase }, { on := 5, ground := Ground.phase }, { on := 6, ground := Ground.phase }, { on := 7, ground := Ground.phase }, { on := 8, ground := Ground.phase }, { on := 9, ground := Ground.phase }, { on := 10, ground := Ground.phase }, { on := 11, ground := Ground.phase }, { on := 12, ground := Ground.phase }, { on := 13, ground := Ground.phase }, { on := 14, ground := Ground.phase }, { on := 15, ground := Ground.phase }, { on := 16, ground := Ground.phase }, { on := 17, ground := Ground.phase }, { on := 18, ground := Ground.phase }, { on := 19, ground := Ground.phase }], guard := none }) rfl (fun K hK => ?_) AllReadyH.nil)
                    have q0 := cellAt (HRX.out.row dq (by assumption)) b _ (vfs_get _ b (by rw [rowF_len]; exact hbh))
                    have q1 : X.frozen? ⟨F0 + dq, b, none⟩ = false := frozen_of_row _ _ _ _ _ (HRX.out.row dq (by assumption))
                    go_simp
                    refine hK.out _ _ ?_ (fun hHeld => ?_)
                    · exact grownBy_setCell GX _
                    clear hK K
                    try simp only [Act.put, List.setIfInBounds_toArray, List.set_cons_zero, List.set_cons_succ]
                    refine wpAnyH_done (by kernel_rfl) ?_ _
                    refine NoPanic.normal ?_
                    obtain ⟨Z, hZ⟩ : ∃ Z, Z = X.setCell ⟨F0 + dq, b, none⟩ (.int .u8 ((ga (R9 (dq : Int) b) (gm c (R9 (sq : Int) b))).toNat : Int)) := ⟨_, rfl⟩
                    have HZR : Hid (RunW w.heap.size Z M F0 Q k ol h g (upTo (inX L) ⟨4, (dq : Int), (sq : Int), c⟩ R9 (b + 1)) O9) := by
                      show RunW ..
                      rw [hZ, upTo_next (k := dq) (x := ga (R9 (dq : Int) b) (gm c (R9 (sq : Int) b))) rfl (fun h => absurd (show (4 : Int) = 5 from h) (by decide)) (by rw [doR_4 rfl]; exact congrFun setR_same b)]
                      exact HRX.out.poke (by assumption) hbh _
                    have HZB : Hid (Below w.heap.size w Z) := by show Below ..; rw [hZ]; exact HBX.out.setCell (p := ⟨F0 + dq, b, none⟩) (by show w.heap.size ≤ F0 + dq; have := HMB.out; omega) _
                    have HZS : Hid (Z.heap[wo.heap.size]? = some (.cells #[.int .i64 4, .int .i64 (dq : Int), .int .i64 (sq : Int), .int .u8 (c.toNat : Int)] 105 (0, 0))) := by show _ = _; rw [hZ]; exact (heap_setCell_other _ _ _ _ (HSN.out dq hdq)).trans HSX.out
                    rw [xor_val, ← hZ]
                    clear hZ
                    go_wp2
                    exact ⟨⟨b + 1, by omega, by go_num, HZB.out, HZR.out, HZS.out⟩, by simp [intOf]; omega⟩
                  · go_simp
                    refine (rmul_F c (R9 (sq : Int) b) _).mono ?_
                    rintro e w9 ⟨rfl, rfl⟩
                    go_wp2_with fail
                    refine hK.out _ _ ?_ (fun hHeld => ?_)
                    · exact GX
                    clear hK K
                    try simp only [Act.put, List.setIfInBounds_toArray, List.set_cons_zero, List.set_cons_succ]
                    refine wpAnyH_ready (rs := [7]) (by kernel_rfl) (by simp) ?_
                    refine (AllReadyH.cons (o := { dst := some 100, op := Op.load 5 (Operand.tmp 99), type := 5, pos := "ref.go:74", after := #[{ on := 6, ground := Ground.data }], guard := none }) rfl (fun K hK => ?_) AllReadyH.nil)
                    have q9 := cellAt (HRX.out.row dq (by assumption)) b _ (vfs_get _ b (by rw [rowF_len]; exact hbh))
                    rw [at8_rowF hbh, upTo_at] at q9
                    go_simp
                    refine hK.out _ _ ?_ (fun hHeld => ?_)
                    · exact GX
                    clear hK K
                    try simp only [Act.put, List.setIfInBounds_toArray, List.set_cons_zero, List.set_cons_succ]
                    refine wpAnyH_take (i := 19) (oi := { dst := some 112, op := Op.binOp BinOp.xor 5 (Operand.tmp 100) (Operand.tmp 111) 5, type := 5, pos := "ref.go:74", after := #[{ on := 7, ground := Ground.data }, { on := 18, ground := Ground.data }], guard := none }) (v := ?_) rfl (by kernel_rfl) (by kernel_rfl) (by kernel_rfl) (fun _ _ _ h => h) (Or.inl ⟨by rfl, ?_⟩) hHeld ?_
                    rotate_left
                    · intro u hSw
                      go_simp
                      try with_reducible rfl
                    try simp only [Act.put, List.setIfInBounds_toArray, List.set_cons_zero, List.set_cons_succ]
                    refine wpAnyH_take (i := 20) (oi := { dst := some 113, op := Op.indexAddr 23 (Operand.tmp 97) (Operand.tmp 98), type := 0, pos := "ref.go:74", after := #[{ on := 4, ground := Ground.data }, { on := 5, ground := Ground.data }, { on := 0, ground := Ground.phase }, { on := 1, ground := Ground.phase }, { on := 2, ground := Ground.phase }, { on := 3, ground := Ground.phase }, { on := 4, ground := Ground.phase }, { on := 5, ground := Ground.phase }, { on := 6, ground := Ground.phase }, { on := 7, ground := Ground.phase }, { on := 8, ground := Ground.phase }, { on := 9, ground := Ground.phase }, { on := 10, ground := Ground.phase }, { on := 11, ground := Ground.phase }, { on := 12, ground := Ground.phase }, { on := 13, ground := Ground.phase }, { on := 14, ground := Ground.phase }, { on := 15, ground := Ground.phase }, { on := 16, ground := Ground.phase }, { on := 17, ground := Ground.phase }, { on := 18, ground := Ground.phase }, { on := 19, ground := Ground.phase }], guard := none }) (v := ?_) rfl (by kernel_rfl) (by kernel_rfl) (by kernel_rfl) (fun _ _ _ h => h) (Or.inl ⟨by rfl, ?_⟩) hHeld ?_
                    rotate_left
                    · intro u hSw
                      go_simp
                      try with_reducible rfl
                    try simp only [Act.put, List.setIfInBounds_toArray, List.set_cons_zero, List.set_cons_succ]
                    refine wpAnyH_ready (rs := [21]) (by kernel_rfl) (by simp) ?_
                    refine (AllReadyH.cons (o := { dst := none, op := Op.store 5 (Operand.tmp 113) (Operand.tmp 112), type := 0, pos := "ref.go:74", after := #[{ on := 20, ground := Ground.data }, { on := 19, ground := Ground.data }, { on := 18, ground := Ground.chain }, { on := 0, ground := Ground.phase }, { on := 1, ground := Ground.phase }, { on := 2, ground := Ground.phase }, { on := 3, ground := Ground.phase }, { on := 4, ground := Ground.phase }, { on := 5, ground := Ground.phase }, { on := 6, ground := Ground.phase }, { on := 7, ground := Ground.phase }, { on := 8, ground := Ground.phase }, { on := 9, ground := Ground.phase }, { on := 10, ground := Ground.phase }, { on := 11, ground := Ground.phase }, { on := 12, ground := Ground.phase }, { on := 13, ground := Ground.phase }, { on := 14, ground := Ground.phase }, { on := 15, ground := Ground.phase }, { on := 16, ground := Ground.phase }, { on := 17, ground := Ground.phase }, { on := 18, ground := Ground.phase }, { on := 19, ground := Ground.phase }], guard := none }) rfl (fun K hK => ?_) AllReadyH.nil)
                    have q0 := cellAt (HRX.out.row dq (by assumption)) b _ (vfs_get _ b (by rw [rowF_len]; exact hbh))
                    have q1 : X.frozen? ⟨F0 + dq, b, none⟩ = false := frozen_of_row _ _ _ _ _ (HRX.out.row dq (by assumption))
                    go_simp
                    refine hK.out _ _ ?_ (fun hHeld => ?_)
                    · exact grownBy_setCell GX _
                    clear hK K
                    try simp only [Act.put, List.setIfInBounds_toArray, List.set_cons_zero, List.set_cons_succ]
                    refine wpAnyH_done (by kernel_rfl) ?_ _
                    refine NoPanic.normal ?_
                    obtain ⟨Z, hZ⟩ : ∃ Z, Z = X.setCell ⟨F0 + dq, b, none⟩ (.int .u8 ((ga (R9 (dq : Int) b) (gm c (R9 (sq : Int) b))).toNat : Int)) := ⟨_, rfl⟩
                    have HZR : Hid (RunW w.heap.size Z M F0 Q k ol h g (upTo (inX L) ⟨4, (dq : Int), (sq : Int), c⟩ R9 (b + 1)) O9) := by
                      show RunW ..
                      rw [hZ, upTo_next (k := dq) (x := ga (R9 (dq : Int) b) (gm c (R9 (sq : Int) b))) rfl (fun h => absurd (show (4 : Int) = 5 from h) (by decide)) (by rw [doR_4 rfl]; exact congrFun setR_same b)]
                      exact HRX.out.poke (by assumption) hbh _
                    have HZB : Hid (Below w.heap.size w Z) := by show Below ..; rw [hZ]; exact HBX.out.setCell (p := ⟨F0 + dq, b, none⟩) (by show w.heap.size ≤ F0 + dq; have := HMB.out; omega) _
                    have HZS : Hid (Z.heap[wo.heap.size]? = some (.cells #[.int .i64 4, .int .i64 (dq : Int), .int .i64 (sq : Int), .int .u8 (c.toNat : Int)] 105 (0, 0))) := by show _ = _; rw [hZ]; exact (heap_setCell_other _ _ _ _ (HSN.out dq hdq)).trans HSX.out
                    rw [xor_val, ← hZ]
                    clear hZ
                    go_wp2
                    exact ⟨⟨b + 1, by omega, by go_num, HZB.out, HZR.out, HZS.out⟩, by simp [intOf]; omega⟩
              · clear hz1
                have HZR : Hid (RunW w.heap.size wr M F0 Q k ol h g (upTo (inX L) ⟨5, dst, src, c⟩ R9 (b + 1)) O9) := by
                  have h9 := HR.out
                  rw [upTo_idle rfl] at h9
                  show RunW ..
                  rw [upTo_idle rfl]
                  exact h9
                go_wp2
                exact ⟨⟨b + 1, by omega, by go_num, HB.out, HZR.out, HS.out⟩, by simp [intOf]; omega⟩
            · obtain rfl : b = h := by omega
              by_cases h5 : op = 5
              · subst h5
                have h9 := HR.out
                rw [upTo_idle rfl] at h9
                replace HR : Hid (RunW w.heap.size wr M F0 Q k ol b g R9 O9) := h9
                have hok5 : (0 ≤ dst ∧ dst < ol) ∧ (0 ≤ src ∧ src < k) := by omega
                obtain ⟨⟨hd0, hd1⟩, hs0, hs1⟩ := hok5
                obtain ⟨dq, rfl⟩ := Int.eq_ofNat_of_zero_le hd0
                obtain ⟨sq, rfl⟩ := Int.eq_ofNat_of_zero_le hs0
                have hdq : dq < ol := by omega
                have hsq : sq < k := by omega
                have HRE : Hid (∀ Z g' O', RunW w.heap.size Z M F0 Q k ol b g' R9 O' → O' = setR O9 (dq : Int) (R9 (sq : Int)) → RunW w.heap.size Z M F0 Q k ol b g' (runR (inX L) (ss.take (j + 1)) noR) (runO (inX L) (ss.take (j + 1)) noR noR)) := fun Z g' O' hz e => by
                  rw [HR1.out, HO1.out, doR_n (fun h => absurd (show (5 : Int) = 1 from h) (by decide)) (fun h => absurd (show (5 : Int) = 2 from h) (by decide)) (fun h => absurd (show (5 : Int) = 3 from h) (by decide)) (fun h => absurd (show (5 : Int) = 4 from h) (by decide)), show doO ⟨5, (dq : Int), (sq : Int), c⟩ R9 O9 = setR O9 (dq : Int) (R9 (sq : Int)) from if_pos rfl, ← e]; exact hz
                have HGE : Hid (∀ (p : Nat × Nat) (d : Nat), (if d = dq then some p else g d).isSome = decide (1 ≤ cntO (ss.take (j + 1)) d)) := fun p d => by
                  rw [HTK.out]
                  by_cases e2 : d = dq
                  · rw [cnt_out rfl (by rw [e2])]; simp [e2]
                  · rw [cnt_other (show (dq : Int) ≠ (d : Int) by omega), if_neg e2, HGS.out]
                clear h9 hok hd0 hd1 hs0 hs1
                go_wp2
                have P1 : Hid (∀ u, wr.grownBy u (some Q) → u.cell? ⟨wo.heap.size, 1, none⟩ = some (.int .i64 (dq : Int))) := fun u hu => cellAt ((hu.block _ (ltHeap HS.out) (fun e => HSQ.out (Option.some.inj e))).trans HS.out) 1 _ rfl
                have P2 : Hid (∀ u, wr.grownBy u (some Q) → u.cell? ⟨wo.heap.size, 2, none⟩ = some (.int .i64 (sq : Int))) := fun u hu => cellAt ((hu.block _ (ltHeap HS.out) (fun e => HSQ.out (Option.some.inj e))).trans HS.out) 2 _ rfl
                have PM : Hid (∀ u, wr.grownBy u (some Q) → u.cell? ⟨M, sq, none⟩ = some (.slice (some ⟨F0 + sq, 0, none⟩) b b)) := fun u hu => cellAt ((hu.block _ (ltHeap HR.out.regs) (fun e => by have := Option.some.inj e; have := HR.out.hMF; have := HR.out.hFQ; omega)).trans HR.out.regs) sq _ (slF_at (by assumption))
                refine wp_region_noPanic ?_
                refine wp_region_held_drew (S := fun u => wr.grownBy u (some Q)) (by kernel_rfl) ?_ (fun hHeld => ?_)
                · exact grownBy_drew (World.grownBy.refl _ _)
                obtain ⟨X, hX⟩ : ∃ X, X = wr.drew := ⟨_, rfl⟩
                have GX : wr.grownBy X (some Q) := by rw [hX]; exact grownBy_drew (World.grownBy.refl _ _)
                have HRX : Hid (RunW w.heap.size X M F0 Q k ol b g R9 O9) := by show RunW ..; rw [hX]; exact HR.out.drew
                have HBX : Hid (Below w.heap.size w X) := by show Below ..; rw [hX]; exact HB.out.drew
                rw [← hX] at hHeld ⊢
                clear hX
                refine wpAnyH_take (i := 0) (oi := { dst := some 117, op := Op.move (Operand.tmp 9), type := 49, pos := "ref.go:78", after := #[], guard := none }) (v := ?_) rfl (by kernel_rfl) (by kernel_rfl) (by kernel_rfl) (fun _ _ _ h => h) (Or.inl ⟨by rfl, ?_⟩) hHeld ?_
                rotate_left
                · intro u hSw
                  go_simp
                  try with_reducible rfl
                try simp only [Act.put, List.setIfInBounds_toArray, List.set_cons_zero, List.set_cons_succ]
                refine wpAnyH_take (i := 1) (oi := { dst := some 118, op := Op.fieldAddr 105 (Operand.tmp 11) 1, type := 0, pos := "ref.go:78", after := #[], guard := none }) (v := ?_) rfl (by kernel_rfl) (by kernel_rfl) (by kernel_rfl) (fun _ _ _ h => h) (Or.inl ⟨by rfl, ?_⟩) hHeld ?_
                rotate_left
                · intro u hSw
                  go_simp
                  try with_reducible rfl
                try simp only [Act.put, List.setIfInBounds_toArray, List.set_cons_zero, List.set_cons_succ]
                refine wpAnyH_take (i := 2) (oi := { dst := some 119, op := Op.load 3 (Operand.tmp 118), type := 3, pos := "ref.go:78", after := #[{ on := 1, ground := Ground.data }], guard := none }) (v := ?_) rfl (by kernel_rfl) (by kernel_rfl) (by kernel_rfl) (fun _ _ _ h => h) (Or.inl ⟨by rfl, ?_⟩) hHeld ?_
                rotate_left
                · intro u hSw
                  have k9 := P1.out u hSw
                  go_simp
                  try with_reducible rfl
                try simp only [Act.put, List.setIfInBounds_toArray, List.set_cons_zero, List.set_cons_succ]
                refine wpAnyH_take (i := 4) (oi := { dst := some 121, op := Op.move (Operand.tmp 7), type := 49, pos := "ref.go:78", after := #[], guard := none }) (v := ?_) rfl (by kernel_rfl) (by kernel_rfl) (by kernel_rfl) (fun _ _ _ h => h) (Or.inl ⟨by rfl, ?_⟩) hHeld ?_
                rotate_left
                · intro u hSw
                  go_simp
                  try with_reducible rfl
                try simp only [Act.put, List.setIfInBounds_toArray, List.set_cons_zero, List.set_cons_succ]
                refine wpAnyH_take (i := 5) (oi := { dst := some 122, op := Op.fieldAddr 105 (Operand.tmp 11) 2, type := 0, pos := "ref.go:78", after := #[], guard := none }) (v := ?_) rfl (by kernel_rfl) (by kernel_rfl) (by kernel_rfl) (fun _ _ _ h => h) (Or.inl ⟨by rfl, ?_⟩) hHeld ?_
                rotate_left
                · intro u hSw
                  go_simp
                  try with_reducible rfl
                try simp only [Act.put, List.setIfInBounds_toArray, List.set_cons_zero, List.set_cons_succ]
                refine wpAnyH_take (i := 6) (oi := { dst := some 123, op := Op.load 3 (Operand.tmp 122), type := 3, pos := "ref.go:78", after := #[{ on := 5, ground := Ground.data }], guard := none }) (v := ?_) rfl (by kernel_rfl) (by kernel_rfl) (by kernel_rfl) (fun _ _ _ h => h) (Or.inl ⟨by rfl, ?_⟩) hHeld ?_
                rotate_left
                · intro u hSw
                  have k9 := P2.out u hSw
                  go_simp
                  try with_reducible rfl
                try simp only [Act.put, List.setIfInBounds_toArray, List.set_cons_zero, List.set_cons_succ]
                refine wpAnyH_take (i := 7) (oi := { dst := some 124, op := Op.indexAddr 49 (Operand.tmp 121) (Operand.tmp 123), type := 0, pos := "ref.go:78", after := #[{ on := 4, ground := Ground.data }, { on := 6, ground := Ground.data }], guard := none }) (v := ?_) rfl (by kernel_rfl) (by kernel_rfl) (by kernel_rfl) (fun _ _ _ h => h) (Or.inl ⟨by rfl, ?_⟩) hHeld ?_
                rotate_left
                · intro u hSw
                  go_simp
                  try with_reducible rfl
                try simp only [Act.put, List.setIfInBounds_toArray, List.set_cons_zero, List.set_cons_succ]
                refine wpAnyH_take (i := 8) (oi := { dst := some 125, op := Op.load 23 (Operand.tmp 124), type := 23, pos := "ref.go:78", after := #[{ on := 7, ground := Ground.data }], guard := none }) (v := ?_) rfl (by kernel_rfl) (by kernel_rfl) (by kernel_rfl) (fun _ _ _ h => h) (Or.inl ⟨by rfl, ?_⟩) hHeld ?_
                rotate_left
                · intro u hSw
                  have k9 := PM.out u hSw
                  go_simp
                  try with_reducible rfl
                try simp only [Act.put, List.setIfInBounds_toArray, List.set_cons_zero, List.set_cons_succ]
                refine wpAnyH_ready (rs := [3]) (by kernel_rfl) (by simp) ?_
                refine (AllReadyH.cons (o := { dst := some 120, op := Op.buildSlice 23 0 #[], type := 23, pos := "ref.go:78", after := #[], guard := none }) rfl (fun K hK => ?_) AllReadyH.nil)
                have hbA : Below X.heap.size X (X.alloc (.cells #[] 5)) := (Below.refl _ _).alloc (Nat.le_refl _) _
                go_simp
                refine hK.out _ _ ?_ (fun hHeld => ?_)
                · exact grown_below GX hbA
                clear hK K
                try simp only [Act.put, List.setIfInBounds_toArray, List.set_cons_zero, List.set_cons_succ]
                refine wpAnyH_ready (rs := [9]) (by kernel_rfl) (by simp) ?_
                refine (AllReadyH.cons (o := { dst := some 126, op := Op.call { callee := Callee.builtin Builtin.append, args := #[Operand.tmp 120, Operand.tmp 125], argTypes := #[23, 23] }, type := 23, pos := "ref.go:78", after := #[{ on := 3, ground := Ground.data }, { on := 8, ground := Ground.data }], guard := none }) rfl (fun K hK => ?_) AllReadyH.nil)
                obtain ⟨q, cq, V, hrun, h8, hq, hbV⟩ := copy8E (w := X) (ca := b) 23 (rowF_len b (R9 (sq : Int))).symm (by omega) (row8T_own (HRX.out.row sq (by assumption))).row8
                have GV : wr.grownBy V (some Q) := grown_below GX hbV
                have HV : Hid _ := HRX.out.below hbV
                refine wanted_append_run rfl _ _ 23 rfl _ _ _ _ rfl rfl hrun ?_
                refine hK.out _ _ ?_ (fun hHeld => ?_)
                · exact GV
                clear hK K
                try simp only [Act.put, List.setIfInBounds_toArray, List.set_cons_zero, List.set_cons_succ]
                refine wpAnyH_take (i := 10) (oi := { dst := some 127, op := Op.indexAddr 49 (Operand.tmp 117) (Operand.tmp 119), type := 0, pos := "ref.go:78", after := #[{ on := 0, ground := Ground.data }, { on := 2, ground := Ground.data }, { on := 0, ground := Ground.phase }, { on := 1, ground := Ground.phase }, { on := 2, ground := Ground.phase }, { on := 3, ground := Ground.phase }, { on := 4, ground := Ground.phase }, { on := 5, ground := Ground.phase }, { on := 6, ground := Ground.phase }, { on := 7, ground := Ground.phase }, { on := 8, ground := Ground.phase }, { on := 9, ground := Ground.phase }], guard := none }) (v := ?_) rfl (by kernel_rfl) (by kernel_rfl) (by kernel_rfl) (fun _ _ _ h => h) (Or.inl ⟨by rfl, ?_⟩) hHeld ?_
                rotate_left
                · intro u hSw
                  go_simp
                  try with_reducible rfl
                try simp only [Act.put, List.setIfInBounds_toArray, List.set_cons_zero, List.set_cons_succ]
                refine wpAnyH_ready (rs := [11]) (by kernel_rfl) (by simp) ?_
                refine (AllReadyH.cons (o := { dst := none, op := Op.store 23 (Operand.tmp 127) (Operand.tmp 126), type := 0, pos := "ref.go:78", after := #[{ on := 10, ground := Ground.data }, { on := 9, ground := Ground.data }, { on := 9, ground := Ground.chain }, { on := 0, ground := Ground.phase }, { on := 1, ground := Ground.phase }, { on := 2, ground := Ground.phase }, { on := 3, ground := Ground.phase }, { on := 4, ground := Ground.phase }, { on := 5, ground := Ground.phase }, { on := 6, ground := Ground.phase }, { on := 7, ground := Ground.phase }, { on := 8, ground := Ground.phase }, { on := 9, ground := Ground.phase }], guard := none }) rfl (fun K hK => ?_) AllReadyH.nil)
                have q0 := cellAt HV.out.outs dq _ (slO_at (by assumption))
                have q1 : V.frozen? ⟨Q, dq, none⟩ = false := frozen_of_row _ _ _ _ _ HV.out.outs
                go_simp
                refine hK.out _ _ ?_ (fun hHeld => ?_)
                · exact grownBy_setCell GV _
                clear hK K
                try simp only [Act.put, List.setIfInBounds_toArray, List.set_cons_zero, List.set_cons_succ]
                refine wpAnyH_done (by kernel_rfl) ?_ _
                refine NoPanic.normal ?_
                obtain ⟨Z, hZ⟩ : ∃ Z, Z = V.setCell ⟨Q, dq, none⟩ (.slice (some ⟨q, 0, none⟩) b cq) := ⟨_, rfl⟩
                have HZR : Hid (RunW w.heap.size Z M F0 Q k ol b (fun x => if x = dq then some (q, cq) else g x) R9 (setR O9 (dq : Int) (R9 (sq : Int)))) := by
                  show RunW ..
                  rw [hZ]
                  exact HV.out.putO (by assumption) h8 (by have := ltHeap HRX.out.outs; omega)
                have HZB : Hid (Below w.heap.size w Z) := by show Below ..; rw [hZ]; exact (HBX.out.trans (hbV.mono HBX.out.size)).setCell (p := ⟨Q, dq, none⟩) (by show w.heap.size ≤ Q; have := HMB.out; have := HR.out.hFQ; omega) _
                rw [← hZ]
                clear hZ h8 hq hbV GV GX q0 q1 hrun hHeld hbA
                go_wp2
                exact ⟨⟨j + 1, _, by omega, by go_num, HZB.out, HRE.out _ _ _ HZR.out rfl, fun d => HGE.out (q, cq) d⟩, by simp [intOf]; omega⟩
              · have v5 : (op == 5) = false := beq_eq_false_iff_ne.2 h5
                have HZR : Hid (RunW w.heap.size wr M F0 Q k ol b g (runR (inX L) (ss.take (j + 1)) noR) (runO (inX L) (ss.take (j + 1)) noR noR)) := by
                  show RunW ..
                  rw [HR1.out, HO1.out, doO, if_neg h5]
                  exact HR.out.full
                have HGE : Hid (∀ d : Nat, (g d).isSome = decide (1 ≤ cntO (ss.take (j + 1)) d)) := fun d => by
                  rw [HTK.out, HGS.out, cnt_not h5]
                clear hok h5
                go_wp2
                exact ⟨⟨j + 1, g, by omega, by go_num, HB.out, HZR.out, HGE.out⟩, by simp [intOf]; omega⟩
        · obtain rfl : j = sl := by omega
          have hfull : ss.take j = ss := by rw [HSL.out, List.take_length]
          have hgs := HGS.out
          have hr := HRO.out
          rw [HRE9.out, HOE9.out, hfull] at hr
          rw [hfull] at hgs
          have HM9 : Hid (OutsW wr Q ol h (inX L) ss) := hr.made (fun d hd => by rw [hgs]; exact decide_eq_true (by have := HF.out.2.2.2.2.2 d (by rw [← HOL.out]; exact hd); omega))
          have HQ9 : Hid (w.heap.size ≤ Q) := by show _ ≤ _; have := hr.hFQ; have := HMB.out; omega
          clear hfull hgs hr
          go_wp2
          go_ret
          exact ⟨Q, rfl, HQ9.out, HM9.out, HBO.out⟩
end Go.Proofs.YtkoakingmnjdoaaGreatDoor
