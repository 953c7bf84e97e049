/- The walk of HalfCarries: at all numbers. -/
import Derived.Test.YtlcaodnimnghoaaDoorHalfO
import Derived.Test.YtlcaodnimnghoaaDoorHalfC
import Derived.Test.YtlcaodnimnghoaaDoorErrs
import Derived.Deep.DeepCutAuto
namespace Go.Proofs.YtlcaodnimnghoaaDoor
open Go.RowKit Gf
set_option linter.unusedVariables false
set_option maxRecDepth 20000
def gsHalf : List Nat := [0, 3, 1, 2]
/-- so many data shards do the first parities carry -/
def carS (k g i : Nat) : Nat := ((List.range i).map fun x => (carL k g x).length).sum
theorem carS_succ (k g i : Nat) : carS k g (i + 1) = carS k g i + (carL k g i).length := by simp [carS, List.range_succ]
theorem carS_all : ∀ k < 15, ∀ r < 17, 1 ≤ k → 2 ≤ r → k + r ≤ 16 → carS k (groupN k r) r = k := by decide +kernel
theorem carL_le1 : ∀ k < 15, ∀ r < 17, (1 ≤ k ∧ 2 ≤ r ∧ k + r ≤ 16) → ∀ i < r, (carL k (groupN k r) i).length ≤ groupN k r := by decide +kernel
theorem carS_le : ∀ k < 15, ∀ r < 17, (1 ≤ k ∧ 2 ≤ r ∧ k + r ≤ 16) → ∀ i < r, carS k (groupN k r) i ≤ 16 := by decide +kernel
theorem carL_zero (k g : Nat) : (carL k g 0).length = 0 := by
  rw [List.length_eq_zero_iff, carL, pickB, List.filter_eq_nil_iff]
  intro x _
  simp [carN]
theorem carL_at {k g i q x : Nat} (h : (carL k g i)[q]? = some x) : x < k ∧ carN g x = i := by
  have hm : x ∈ carL k g i := List.mem_of_getElem? h
  rw [carL, pickB, List.mem_filter] at hm
  exact ⟨List.mem_range.1 hm.1, of_decide_eq_true hm.2⟩
theorem carL_up {k g i q x y : Nat} (h : (carL k g i)[q]? = some y) (h2 : (carL k g i)[q + 1]? = some x) : y < x := by
  have hp := pickB_sorted (fun x => decide (carN g x = i)) k
  obtain ⟨a1, a2⟩ := List.getElem?_eq_some_iff.1 h
  obtain ⟨b1, b2⟩ := List.getElem?_eq_some_iff.1 h2
  have := List.pairwise_iff_getElem.1 hp q (q + 1) a1 b1 (by omega)
  rw [← a2, ← b2]; exact this
theorem castL_at {L : List Nat} {q x : Nat} (h : L[q]? = some x) : (castL L)[q]? = some (x : Int) := by simp [castL, h]
set_option maxHeartbeats 4000000 in
theorem carries_ok (k r : Nat) (w : World) (s0 : Addr) (hs : w.cell? ⟨3, 0, none⟩ = some (errAt s0)) (h1 : 1 ≤ k) (h2 : 2 ≤ r) (h3 : k + r ≤ 16) :
    Calls Tryd.prog 6 #[.int .i64 k, .int .i64 r] w fun e w' => e = .returned (.bool true) ∧ Below w.heap.size w w' := by
  have HS : Hid _ := hs
  have HRG : Hid _ := fun w => rgroup_F k r w h1 h2 h3
  have HCD : Hid _ := fun i w hi => hcarried_F k r i w h1 h2 h3 hi
  have HCR : Hid _ := fun j w hj => hcarrier_ok k r j w h1 h2 h3 hj
  have HLE : Hid (∀ i, i < r → (carL k (groupN k r) i).length ≤ groupN k r ∧ (i = 0 → (carL k (groupN k r) i).length = 0) ∧ carS k (groupN k r) i ≤ 16) := fun i hi => ⟨carL_le1 k (by omega) r (by omega) ⟨h1, h2, h3⟩ i hi, fun e => by rw [e]; exact carL_zero _ _, carS_le k (by omega) r (by omega) ⟨h1, h2, h3⟩ i hi⟩
  have HSUM : Hid _ := carS_all k (by omega) r (by omega) h1 h2 h3
  obtain ⟨_, _, _, g16⟩ := groupN_least h1 h2 h3
  generalize groupN k r = g at *
  clear hs
  go_enter Tryd.func6, Tryd.ntmps6
  go_wp2_with fail
  refine Calls.mono (alive5_ok _ s0 HS.out) ?_
  rintro e w1 ⟨rfl, hb⟩
  have HB1 : Hid _ := hb
  clear hb
  go_wp2_with fail
  refine Calls.mono (legal_yes k r _ h1 h2 h3) ?_
  rintro e w2 ⟨rfl, rfl⟩
  go_wp2_with fail
  refine Calls.mono (HRG.out _) ?_
  rintro e w2 ⟨rfl, rfl⟩
  go_wp2
  go_loopw [6, 7] (fun c v wr => ∃ i : Nat, i ≤ r ∧ v = .int .i64 i ∧ c = .int .i64 (carS k g i) ∧ Below w.heap.size w wr) (fun _ v _ => r - (intOf v).toNat)
  case atStart => exact ⟨0, by omega, rfl, rfl, HB1.out⟩
  case round =>
    obtain ⟨i, hi, rfl, rfl, hb⟩ := hrel
    have HB : Hid _ := hb
    clear hb
    by_cases hlt : i < r
    · obtain ⟨l1, l2, l3⟩ := HLE.out i hlt
      go_wp2_with fail
      refine Calls.mono (HCD.out i _ hlt) ?_
      rintro e w3 ⟨a, n, cap, rfl, hn, hrow, _, hb3⟩
      have HN : Hid _ := hn
      have HR : Hid _ := hrow
      have HB3 : Hid (Below w.heap.size w w3) := HB.out.trans (hb3.mono HB.out.size)
      rw [← hn] at l1 l2
      have hss : carS k g (i + 1) = carS k g i + n := by rw [carS_succ, hn]
      have HSS : Hid _ := hss
      clear hn hrow hb3 hss
      generalize hsi : carS k g i = si at *
      have HSI : Hid _ := hsi
      clear hsi
      go_upto_region 11 with fail
      go_cut [51] (fun s51 wx => s51 = .bool false ∧ w3 = wx)
      case first =>
        by_cases hi0 : i = 0
        · have n0 := l2 hi0
          subst hi0
          subst n0
          go_wp2
          go_meet
          exact ⟨rfl, rfl⟩
        · go_wp2
          go_meet
          exact ⟨congrArg Value.bool (decide_eq_false (by omega)), rfl⟩
      case rest =>
      obtain ⟨rfl, rfl⟩ := hcut
      go_wp2
      go_loopw [6, 54] (fun c v wr => ∃ q : Nat, q ≤ n ∧ v = .int .i64 q ∧ c = .int .i64 (si + q : Nat) ∧ Below w3.heap.size w3 wr) (fun _ v _ => n - (intOf v).toNat)
      case atStart => exact ⟨0, by omega, rfl, rfl, Below.refl _ _⟩
      case round =>
        obtain ⟨q, hq, rfl, rfl, hb⟩ := hrel
        have HBB : Hid _ := hb
        clear hb
        by_cases hqn : q < n
        · obtain ⟨x, hx⟩ : ∃ x, (carL k g i)[q]? = some x := ⟨_, List.getElem?_eq_getElem (by rw [← HN.out]; exact hqn)⟩
          rcases HR.out with e0 | ⟨b, off, rfl, hrows⟩
          · have := congrArg List.length e0
            rw [castL_len, ← HN.out] at this
            simp at this; omega
          have c1 := cell_later HBB.out (hrows q _ (castL_at hx))
          obtain ⟨x1, x2⟩ := carL_at hx
          go_wp2_with fail
          refine Calls.mono (HCR.out x _ x1) ?_
          rw [x2]
          rintro e w5 ⟨rfl, rfl⟩
          cases q with
          | zero =>
            clear hrows
            go_wp2
            exact ⟨⟨1, by omega, by go_num, by go_num, HBB.out⟩, by simp [intOf]; omega⟩
          | succ p =>
            obtain ⟨y, hy⟩ : ∃ y, (carL k g i)[p]? = some y := ⟨_, List.getElem?_eq_getElem (by rw [← HN.out]; omega)⟩
            have c2 := cell_later HBB.out (hrows p _ (castL_at hy))
            have hyx := carL_up hy hx
            have hyx2 : (y : Int) < x := by omega
            clear hrows hx hy hyx
            go_wp2
            exact ⟨⟨p + 1 + 1, by omega, by go_num, by go_num, HBB.out⟩, by simp [intOf]; omega⟩
        · obtain rfl : q = n := by omega
          go_wp2
          exact ⟨⟨i + 1, by omega, by go_num, by rw [HSS.out], HB3.out.trans (HBB.out.mono HB3.out.size)⟩, by simp [intOf]; omega⟩
    · obtain rfl : i = r := by omega
      rw [HSUM.out]
      go_wp2
      go_ret
      exact ⟨rfl, HB.out⟩
set_option maxHeartbeats 4000000 in
theorem carries_walk (k r : Int) (w : World) (hk0 : -9223372036854775808 ≤ k) (hk1 : k ≤ 9223372036854775807) (hr0 : -9223372036854775808 ≤ r) (hr1 : r ≤ 9223372036854775807) (es : List Addr) (hes : ErrsAt w gsHalf es) :
    Calls Tryd.prog 6 #[.int .i64 k, .int .i64 r] w fun e w' => e = .returned (.bool true) ∧ Below w.heap.size w w' := by
  obtain ⟨s3, _, hs3, _⟩ := errs_at hes 1 _ rfl
  by_cases hL : LegalP k r
  · obtain ⟨a, b, rfl, rfl, h1, h2, h3⟩ := legal_nat hL
    exact carries_ok a b w s3 hs3 h1 h2 h3
  · have H : Hid _ := hL
    have HS : Hid _ := hs3
    clear hL hs3 hes
    go_enter Tryd.func6, Tryd.ntmps6
    go_wp2_with fail
    refine Calls.mono (alive5_ok _ s3 HS.out) ?_
    rintro e w1 ⟨rfl, hb⟩
    have HB1 : Hid _ := hb
    clear hb
    go_wp2_with fail
    refine Calls.mono (legal_no k r _ hk0 hk1 hr0 hr1 H.out) ?_
    rintro e w2 ⟨rfl, rfl⟩
    go_wp2
    go_ret
    exact ⟨rfl, HB1.out⟩
end Go.Proofs.YtlcaodnimnghoaaDoor
