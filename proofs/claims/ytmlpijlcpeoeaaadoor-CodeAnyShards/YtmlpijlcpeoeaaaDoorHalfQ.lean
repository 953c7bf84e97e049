/- What the document's own Row of package half's chapter answers, of all legal numbers; nothing that was there turns. -/
import Derived.Test.YtmlpijlcpeoeaaaDoorHalfM
import Derived.Test.YtmlpijlcpeoeaaaDoorBaseR
namespace Go.Proofs.YtmlpijlcpeoeaaaDoor
open Go.RowKit Gf
set_option linter.unusedVariables false
set_option maxRecDepth 20000
theorem half_unit {k c s p : Nat} {car : Nat → Nat} (hc : c = 2 * k) (hs : s < k) (hp : p < 2) : (zeros c).set (2 * s + p) 1 = rowF c (halfF k car (2 * s + p)) := by
  rw [colP_zero c (halfF k car (2 * s + p)), colP, rowF_set]
  refine rowF_congr fun v hv => ?_
  by_cases e : v = 2 * s + p
  · rw [if_pos e, e]
    unfold halfF
    rw [if_pos rfl, show (2 * s + p) / 2 = s by omega, genF, if_pos hs, if_pos rfl]
  · rw [if_neg e, if_neg (Nat.not_lt_zero v)]
    simp only [halfF]
    rw [show (2 * s + p) / 2 = s by omega]
    by_cases h2 : v % 2 = (2 * s + p) % 2
    · rw [if_pos h2, genF, if_pos hs, if_neg (by omega)]
    · rw [if_neg h2, if_neg (by omega)]
set_option maxHeartbeats 4000000 in
theorem rrow_unit (k r h s p : Nat) (w : World) (h1 : 1 ≤ k) (h2 : 2 ≤ r) (h3 : k + r ≤ 16) (hh : h = 2 * s + p) (hp : p < 2) (hs : s < k) :
    Calls Tryd.prog 62 #[.int .i64 k, .int .i64 r, .int .i64 h] w fun e w' => ∃ g n, e = .returned (.slice (some ⟨g, 0, none⟩) n n) ∧ n = 2 * k ∧ w.heap.size ≤ g ∧
      w'.heap[g]? = some (.cells (vfs (rowF (2 * k) (halfF k (carN (groupN k r)) h))) 5 (0, 0)) ∧ Below w.heap.size w w' := by
  obtain ⟨c, hc⟩ : ∃ c, c = 2 * k := ⟨_, rfl⟩
  have ec : (2 : Int) * (k : Int) = c := by omega
  have hu := half_unit (car := carN (groupN k r)) hc hs hp
  rw [← hc, hh]
  rw [← hh]
  rw [← hh] at hu
  have HU : Hid _ := hu
  have e1 : (h : Int) / 2 = s := by omega
  have e2 : (h : Int) % 2 = p := by omega
  have hlt : h < c := by omega
  have hc32 : c ≤ 32 := by omega
  have hmk := run_make8 c (by omega)
  have HH : Hid _ := hh
  clear hc hu hh
  go_enter Tryd.func62, Tryd.ntmps62
  have B1 := heap_alloc_last w (.cells (vfs (zeros c)) 5)
  have HB : Hid _ := (Below.refl w.heap.size w).alloc (Nat.le_refl _) (.cells (vfs (zeros c)) 5)
  have c5 := cellAt B1 h _ (vfs_get _ _ (by rw [zeros_len]; exact hlt))
  have c6 := frozen_of_row _ w.heap.size h _ _ B1
  have HB1 : Hid _ := B1
  clear B1
  go_wp2
  go_ret
  refine ⟨w.heap.size, c, rfl, rfl, Nat.le_refl _, ?_, (Below.refl w.heap.size w).alloc (Nat.le_refl _) _⟩
  rw [← HU.out, ← vfs_set]
  exact heap_alloc_last w _
theorem parM_at {k r i j : Nat} (hi : i < r) (hj : j < k) : at8 (parM k r) (i * k + j) = cyN (k + i) j := at8_grid hi hj
theorem half_even {k h i q p : Nat} {car : Nat → Nat} (hh : h = 2 * (k + i) + p) (hp : p < 2) : halfF k car h (2 * q + p) = cyN (k + i) q := by
  simp only [halfF]
  rw [if_pos (by omega), show h / 2 = k + i by omega, show (2 * q + p) / 2 = q by omega, genF, if_neg (by omega)]
theorem half_odd {k h i q : Nat} {car : Nat → Nat} (hh : h = 2 * (k + i)) : halfF k car h (2 * q + 1) = 0 := by
  simp only [halfF]
  rw [if_neg (by omega), if_neg (by omega)]
theorem half_car {k h i q : Nat} {car : Nat → Nat} (hh : h = 2 * (k + i) + 1) : halfF k car h (2 * q) = if car q = i then 1 else 0 := by
  simp only [halfF]
  rw [if_neg (by omega), show h / 2 = k + i by omega, show 2 * q / 2 = q by omega]
  by_cases e : car q = i
  · rw [if_pos e, if_pos ⟨by omega, by omega, by omega⟩]
  · rw [if_neg e, if_neg (fun h => e (by omega))]
theorem colP_at {r j : Nat} {f : Nat → F} (h : j < r) (k : Nat) (hk : k ≤ j) : at8 (colP r f k) j = 0 := by
  rw [colP, at8_rowF h, if_neg (by omega)]
set_option maxHeartbeats 4000000 in
theorem rrow_0 (k r h i : Nat) (w : World) (h1 : 1 ≤ k) (h2 : 2 ≤ r) (h3 : k + r ≤ 16) (hh : h = 2 * (k + i) + 0) (hi : i < r) :
    Calls Tryd.prog 62 #[.int .i64 k, .int .i64 r, .int .i64 h] w fun e w' => ∃ g n, e = .returned (.slice (some ⟨g, 0, none⟩) n n) ∧ n = 2 * k ∧ w.heap.size ≤ g ∧
      w'.heap[g]? = some (.cells (vfs (rowF (2 * k) (halfF k (carN (groupN k r)) h))) 5 (0, 0)) ∧ Below w.heap.size w w' := by
  obtain ⟨c, hc⟩ : ∃ c, c = 2 * k := ⟨_, rfl⟩
  have ec : (2 : Int) * (k : Int) = c := by omega
  have HCA : Hid _ := fun j w (hj : j ≤ 1000) => rcarrier_F k r j w h1 h2 h3 hj
  generalize carN (groupN k r) = car at *
  rw [← hc]
  obtain ⟨s, hs⟩ : ∃ s, s = k + i := ⟨_, rfl⟩
  have e1 : (h : Int) / 2 = s := by omega
  have e2 : (h : Int) % 2 = 0 := by omega
  have e3 : (s : Int) - k = i := by omega
  have hks : (k : Int) ≤ s := by omega
  have hs16 : s ≤ 16 := by omega
  have hh33 : h ≤ 33 := by omega
  obtain ⟨ik, hik⟩ : ∃ ik, ik = i * k := ⟨_, rfl⟩
  have e4 : (i : Int) * k = ik := by rw [hik]; simp
  have hik2 : ik + k ≤ 256 := by
    have h4 := Nat.mul_le_mul (show i + 1 ≤ 16 by omega) (show k ≤ 16 by omega)
    rw [Nat.succ_mul] at h4; omega
  have hikr : ik + k ≤ r * k := by
    have h4 := Nat.mul_le_mul_right k (show i + 1 ≤ r by omega)
    rw [Nat.succ_mul] at h4; omega
  have hc32 : c ≤ 32 := by omega
  have hmk := run_make8 c (by omega)
  have HH : Hid _ := hh
  have HC : Hid _ := hc
  have HIK : Hid _ := hik
  have HIKR : Hid _ := hikr
  have HI : Hid _ := hi
  clear hc hh hs hik hikr hi
  go_enter Tryd.func62, Tryd.ntmps62
  go_wp2_with fail
  have B1 := heap_alloc_last w (.cells (vfs (zeros c)) 5)
  have HB : Hid _ := (Below.refl w.heap.size w).alloc (Nat.le_refl _) (.cells (vfs (zeros c)) 5)
  have HA : Hid (Holds (w.alloc (.cells (vfs (zeros c)) 5)) [(w.heap.size, .cells (vfs (zeros c)) 5 (0, 0))]) := holds_cons (holds_nil _) B1
  clear B1
  refine Calls.mono (rparity_F k r _ h1 h2 h3) ?_
  rintro e w2 ⟨g, m, rfl, hm, hg, hh2, hb2⟩
  have HA2 : Hid _ := holds_new (holds_cons (holds_later HA.out hb2) hh2) #[.int .i64 r, .int .i64 k, .slice (some ⟨g, 0, none⟩) m m] 65
  have hB2 := HB.out.trans (hb2.mono HB.out.size)
  have HB2 : Hid _ := hB2.alloc hB2.size (.cells #[.int .i64 r, .int .i64 k, .slice (some ⟨g, 0, none⟩) m m] 65)
  have HM : Hid _ := hm
  have hz := hB2.size
  have HGN : Hid (w.heap.size < g) := by simp only [World.size_alloc] at hg; exact hg
  clear hb2 hh2 hm hB2 HA HB hmk hg
  go_wp2
  generalize hMM : w2.heap.size = M at *
  generalize (w2.alloc (.cells #[.int .i64 r, .int .i64 k, .slice (some ⟨g, 0, none⟩) m m] 65)) = W3 at *
  clear hMM
  obtain ⟨f, hf⟩ : ∃ f, f = halfF k car h := ⟨_, rfl⟩
  have HF : Hid _ := hf
  clear hf
  go_loopw [11] (fun v wr => ∃ j : Nat, j ≤ k ∧ v = .int .i64 j ∧ Below w.heap.size w wr ∧ Holds wr [(M, .cells #[.int .i64 r, .int .i64 k, .slice (some ⟨g, 0, none⟩) m m] 65 (0, 0)), (g, .cells (vfs (parM k r)) 5 (0, 0)), (w.heap.size, .cells (vfs (colP c f (2 * j))) 5 (0, 0))]) (fun v _ => k - (intOf v).toNat)
  case atStart => exact ⟨0, by omega, rfl, HB2.out, by rw [Nat.mul_zero, ← colP_zero]; exact HA2.out⟩
  case round =>
    obtain ⟨j, hj, rfl, hb, hh⟩ := hrel
    have HB : Hid _ := hb
    have HH1 : Hid _ := hh
    clear hb hh
    by_cases hlt : j < k
    · have c1 := cellAt (holds_at HH1.out 0 rfl) 2 _ rfl
      have hjc : 2 * j < c := by have := HC.out; omega
      have c2 := cellAt (holds_at HH1.out 2 rfl) (2 * j) _ (vfs_get _ _ (by rw [colP_len]; exact hjc))
      rw [colP_at hjc (2 * j) (by omega)] at c2
      have hc2 : (((0 : F).toNat : Nat) : Int) = 0 := rfl
      rw [hc2] at c2
      have c3 := frozen_of_row _ w.heap.size (2 * j) _ _ (holds_at HH1.out 2 rfl)
      have hpa : at8 (parM k r) (ik + j) = cyN (k + i) j := by rw [HIK.out]; exact parM_at HI.out hlt
      have c4 := cellAt (holds_at HH1.out 1 rfl) (ik + j) _ (vfs_get _ _ (by have := HIKR.out; rw [parM_len]; omega))
      rw [hpa] at c4
      have hx := xor_val 0 (cyN (k + i) j)
      rw [hc2, show ga 0 (cyN (k + i) j) = cyN (k + i) j from F.zero_add _] at hx
      have hfo : f (2 * j) = cyN (k + i) j := by rw [HF.out]; exact half_even (q := j) HH.out (by decide)
      rw [← hfo] at c4 hx
      have HFO : Hid _ := hfo
      clear hpa hc2 hfo
      have hjm : ik + j < m := by have := HIKR.out; rw [HM.out]; omega
      go_upto_region 10 with fail
      go_region
      have hL : (colP c f (2 * j)).set (2 * j) (f (2 * j)) = colP c f (2 * (j + 1)) := by
        rw [colP_step, colP_skip (by rw [HF.out]; exact half_odd HH.out)]
        rfl
      have k1 : (wr.setCell ⟨w.heap.size, 2 * j, none⟩ (.int .u8 ((f (2 * j)).toNat : Int))).drew.heap[w.heap.size]? = some (.cells (vfs (colP c f (2 * (j + 1)))) 5 (0, 0)) := by
        rw [← hL, ← vfs_set]
        exact heap_setCell_same _ _ _ _ _ _ (holds_at HH1.out 2 rfl)
      have kA : (wr.setCell ⟨w.heap.size, 2 * j, none⟩ (.int .u8 ((f (2 * j)).toNat : Int))).drew.heap[M]? = some (.cells #[.int .i64 r, .int .i64 k, .slice (some ⟨g, 0, none⟩) m m] 65 (0, 0)) := (heap_setCell_other _ _ _ _ (hkind_ne (holds_at HH1.out 0 rfl) (holds_at HH1.out 2 rfl) (by decide))).trans (holds_at HH1.out 0 rfl)
      have kG : (wr.setCell ⟨w.heap.size, 2 * j, none⟩ (.int .u8 ((f (2 * j)).toNat : Int))).drew.heap[g]? = some (.cells (vfs (parM k r)) 5 (0, 0)) := (heap_setCell_other _ _ _ _ (by have := HGN.out; show g ≠ w.heap.size; omega)).trans (holds_at HH1.out 1 rfl)
      have HBx : Hid _ := (HB.out.setCell (p := ⟨w.heap.size, 2 * j, none⟩) (Nat.le_refl _) (.int .u8 ((f (2 * j)).toNat : Int))).drew
      have HHx : Hid _ := holds_cons (holds_cons (holds_cons (holds_nil _) k1) kG) kA
      clear k1 kA kG c1 c2 c3 c4 hx
      generalize (wr.setCell ⟨w.heap.size, 2 * j, none⟩ (.int .u8 ((f (2 * j)).toNat : Int))).drew = wx at *
      go_wp2
      exact ⟨⟨j + 1, by omega, by go_num, HBx.out, HHx.out⟩, by simp [intOf]; omega⟩
    · obtain rfl : j = k := by omega
      have k1 := holds_at HH1.out 2 rfl
      rw [← HC.out, colP_done, HF.out] at k1
      have HK1 : Hid _ := k1
      clear k1
      go_wp2
      go_ret
      exact ⟨w.heap.size, c, rfl, rfl, Nat.le_refl _, HK1.out, HB.out⟩
set_option maxHeartbeats 4000000 in
theorem rrow_1 (k r h i : Nat) (w : World) (h1 : 1 ≤ k) (h2 : 2 ≤ r) (h3 : k + r ≤ 16) (hh : h = 2 * (k + i) + 1) (hi : i < r) :
    Calls Tryd.prog 62 #[.int .i64 k, .int .i64 r, .int .i64 h] w fun e w' => ∃ g n, e = .returned (.slice (some ⟨g, 0, none⟩) n n) ∧ n = 2 * k ∧ w.heap.size ≤ g ∧
      w'.heap[g]? = some (.cells (vfs (rowF (2 * k) (halfF k (carN (groupN k r)) h))) 5 (0, 0)) ∧ Below w.heap.size w w' := by
  obtain ⟨c, hc⟩ : ∃ c, c = 2 * k := ⟨_, rfl⟩
  have ec : (2 : Int) * (k : Int) = c := by omega
  have HCA : Hid _ := fun j w (hj : j ≤ 1000) => rcarrier_F k r j w h1 h2 h3 hj
  generalize carN (groupN k r) = car at *
  rw [← hc]
  obtain ⟨s, hs⟩ : ∃ s, s = k + i := ⟨_, rfl⟩
  have e1 : (h : Int) / 2 = s := by omega
  have e2 : (h : Int) % 2 = 1 := by omega
  have e3 : (s : Int) - k = i := by omega
  have hks : (k : Int) ≤ s := by omega
  have hs16 : s ≤ 16 := by omega
  have hh33 : h ≤ 33 := by omega
  obtain ⟨ik, hik⟩ : ∃ ik, ik = i * k := ⟨_, rfl⟩
  have e4 : (i : Int) * k = ik := by rw [hik]; simp
  have hik2 : ik + k ≤ 256 := by
    have h4 := Nat.mul_le_mul (show i + 1 ≤ 16 by omega) (show k ≤ 16 by omega)
    rw [Nat.succ_mul] at h4; omega
  have hikr : ik + k ≤ r * k := by
    have h4 := Nat.mul_le_mul_right k (show i + 1 ≤ r by omega)
    rw [Nat.succ_mul] at h4; omega
  have hc32 : c ≤ 32 := by omega
  have hmk := run_make8 c (by omega)
  have HH : Hid _ := hh
  have HC : Hid _ := hc
  have HIK : Hid _ := hik
  have HIKR : Hid _ := hikr
  have HI : Hid _ := hi
  clear hc hh hs hik hikr hi
  go_enter Tryd.func62, Tryd.ntmps62
  go_wp2_with fail
  have B1 := heap_alloc_last w (.cells (vfs (zeros c)) 5)
  have HB : Hid _ := (Below.refl w.heap.size w).alloc (Nat.le_refl _) (.cells (vfs (zeros c)) 5)
  have HA : Hid (Holds (w.alloc (.cells (vfs (zeros c)) 5)) [(w.heap.size, .cells (vfs (zeros c)) 5 (0, 0))]) := holds_cons (holds_nil _) B1
  clear B1
  refine Calls.mono (rparity_F k r _ h1 h2 h3) ?_
  rintro e w2 ⟨g, m, rfl, hm, hg, hh2, hb2⟩
  have HA2 : Hid _ := holds_new (holds_cons (holds_later HA.out hb2) hh2) #[.int .i64 r, .int .i64 k, .slice (some ⟨g, 0, none⟩) m m] 65
  have hB2 := HB.out.trans (hb2.mono HB.out.size)
  have HB2 : Hid _ := hB2.alloc hB2.size (.cells #[.int .i64 r, .int .i64 k, .slice (some ⟨g, 0, none⟩) m m] 65)
  have HM : Hid _ := hm
  have hz := hB2.size
  have HGN : Hid (w.heap.size < g) := by simp only [World.size_alloc] at hg; exact hg
  clear hb2 hh2 hm hB2 HA HB hmk hg
  go_wp2
  generalize hMM : w2.heap.size = M at *
  generalize (w2.alloc (.cells #[.int .i64 r, .int .i64 k, .slice (some ⟨g, 0, none⟩) m m] 65)) = W3 at *
  clear hMM
  obtain ⟨f, hf⟩ : ∃ f, f = halfF k car h := ⟨_, rfl⟩
  have HF : Hid _ := hf
  clear hf
  go_loopw [11] (fun v wr => ∃ j : Nat, j ≤ k ∧ v = .int .i64 j ∧ Below w.heap.size w wr ∧ Holds wr [(M, .cells #[.int .i64 r, .int .i64 k, .slice (some ⟨g, 0, none⟩) m m] 65 (0, 0)), (g, .cells (vfs (parM k r)) 5 (0, 0)), (w.heap.size, .cells (vfs (colP c f (2 * j))) 5 (0, 0))]) (fun v _ => k - (intOf v).toNat)
  case atStart => exact ⟨0, by omega, rfl, HB2.out, by rw [Nat.mul_zero, ← colP_zero]; exact HA2.out⟩
  case round =>
    obtain ⟨j, hj, rfl, hb, hh⟩ := hrel
    have HB : Hid _ := hb
    have HH1 : Hid _ := hh
    clear hb hh
    by_cases hlt : j < k
    · have c1 := cellAt (holds_at HH1.out 0 rfl) 2 _ rfl
      have hjc : 2 * j + 1 < c := by have := HC.out; omega
      have c2 := cellAt (holds_at HH1.out 2 rfl) (2 * j + 1) _ (vfs_get _ _ (by rw [colP_len]; exact hjc))
      rw [colP_at hjc (2 * j) (by omega)] at c2
      have hc2 : (((0 : F).toNat : Nat) : Int) = 0 := rfl
      rw [hc2] at c2
      have c3 := frozen_of_row _ w.heap.size (2 * j + 1) _ _ (holds_at HH1.out 2 rfl)
      have hpa : at8 (parM k r) (ik + j) = cyN (k + i) j := by rw [HIK.out]; exact parM_at HI.out hlt
      have c4 := cellAt (holds_at HH1.out 1 rfl) (ik + j) _ (vfs_get _ _ (by have := HIKR.out; rw [parM_len]; omega))
      rw [hpa] at c4
      have hx := xor_val 0 (cyN (k + i) j)
      rw [hc2, show ga 0 (cyN (k + i) j) = cyN (k + i) j from F.zero_add _] at hx
      have hfo : f (2 * j + 1) = cyN (k + i) j := by rw [HF.out]; exact half_even (q := j) HH.out (by decide)
      rw [← hfo] at c4 hx
      have HFO : Hid _ := hfo
      clear hpa hc2 hfo
      have hjm : ik + j < m := by have := HIKR.out; rw [HM.out]; omega
      go_upto_region 10 with fail
      go_region
      obtain ⟨L1, hL⟩ : ∃ L1, L1 = (colP c f (2 * j)).set (2 * j + 1) (f (2 * j + 1)) := ⟨_, rfl⟩
      have k1 : (wr.setCell ⟨w.heap.size, 2 * j + 1, none⟩ (.int .u8 ((f (2 * j + 1)).toNat : Int))).drew.heap[w.heap.size]? = some (.cells (vfs L1) 5 (0, 0)) := by
        rw [hL, ← vfs_set]
        exact heap_setCell_same _ _ _ _ _ _ (holds_at HH1.out 2 rfl)
      have kA : (wr.setCell ⟨w.heap.size, 2 * j + 1, none⟩ (.int .u8 ((f (2 * j + 1)).toNat : Int))).drew.heap[M]? = some (.cells #[.int .i64 r, .int .i64 k, .slice (some ⟨g, 0, none⟩) m m] 65 (0, 0)) := (heap_setCell_other _ _ _ _ (hkind_ne (holds_at HH1.out 0 rfl) (holds_at HH1.out 2 rfl) (by decide))).trans (holds_at HH1.out 0 rfl)
      have kG : (wr.setCell ⟨w.heap.size, 2 * j + 1, none⟩ (.int .u8 ((f (2 * j + 1)).toNat : Int))).drew.heap[g]? = some (.cells (vfs (parM k r)) 5 (0, 0)) := (heap_setCell_other _ _ _ _ (by have := HGN.out; show g ≠ w.heap.size; omega)).trans (holds_at HH1.out 1 rfl)
      have HBx : Hid _ := (HB.out.setCell (p := ⟨w.heap.size, 2 * j + 1, none⟩) (Nat.le_refl _) (.int .u8 ((f (2 * j + 1)).toNat : Int))).drew
      have HHx : Hid _ := holds_cons (holds_cons (holds_cons (holds_nil _) k1) kG) kA
      clear k1 kA kG c1 c2 c3 c4 hx
      generalize (wr.setCell ⟨w.heap.size, 2 * j + 1, none⟩ (.int .u8 ((f (2 * j + 1)).toNat : Int))).drew = wx at *
      have HL : Hid _ := hL
      clear hL
      go_wp2_with fail
      refine (HCA.out j _ (by omega)).mono ?_
      rintro e wy ⟨rfl, rfl⟩
      by_cases hcar : car j = i
      · have hff : f (2 * j) = 1 := by rw [HF.out, half_car HH.out, if_pos hcar]
        have hL2 : L1.set (2 * j) 1 = colP c f (2 * (j + 1)) := by
          rw [HL.out, ← hff, List.set_comm _ _ (by omega), colP_step, colP_step]
          rfl
        have c2 := cellAt (holds_at HHx.out 2 rfl) (2 * j) _ (vfs_get _ _ (by rw [HL.out, List.length_set, colP_len]; omega))
        have c0 : at8 L1 (2 * j) = 0 := by
          have := colP_at (f := f) (show 2 * j < c by omega) (2 * j) (Nat.le_refl _)
          rw [HL.out]
          simp only [at8] at this ⊢
          rw [List.getD_eq_getElem?_getD, List.getElem?_set_ne (by omega), ← List.getD_eq_getElem?_getD]
          exact this
        rw [c0, show (((0 : F).toNat : Nat) : Int) = 0 from rfl] at c2
        have c3 := frozen_of_row _ w.heap.size (2 * j) _ _ (holds_at HHx.out 2 rfl)
        have hx1 : bits .xor .u8 0 1 = 1 := by decide
        have hci : (car j : Int) = i := by omega
        have HL2 : Hid _ := hL2
        clear hL2 c0 hff hcar
        go_wp2
        have k1 : (wx.setCell ⟨w.heap.size, 2 * j, none⟩ (.int .u8 1)).heap[w.heap.size]? = some (.cells (vfs (colP c f (2 * (j + 1)))) 5 (0, 0)) := by
          rw [heap_setCell_same _ _ _ _ _ _ (holds_at HHx.out 2 rfl), ← HL2.out, ← vfs_set]
          rfl
        have kA : (wx.setCell ⟨w.heap.size, 2 * j, none⟩ (.int .u8 1)).heap[M]? = some (.cells #[.int .i64 r, .int .i64 k, .slice (some ⟨g, 0, none⟩) m m] 65 (0, 0)) := (heap_setCell_other _ _ _ _ (hkind_ne (holds_at HHx.out 0 rfl) (holds_at HHx.out 2 rfl) (by decide))).trans (holds_at HHx.out 0 rfl)
        have kG : (wx.setCell ⟨w.heap.size, 2 * j, none⟩ (.int .u8 1)).heap[g]? = some (.cells (vfs (parM k r)) 5 (0, 0)) := (heap_setCell_other _ _ _ _ (by have := HGN.out; show g ≠ w.heap.size; omega)).trans (holds_at HHx.out 1 rfl)
        exact ⟨⟨j + 1, by omega, by go_num, HBx.out.setCell (Nat.le_refl _) _, holds_cons (holds_cons (holds_cons (holds_nil _) k1) kG) kA⟩, by simp [intOf]; omega⟩
      · have hff : f (2 * j) = 0 := by rw [HF.out, half_car HH.out, if_neg hcar]
        have hL2 : L1 = colP c f (2 * (j + 1)) := by
          rw [HL.out, colP_skip hff, colP_step]
          rfl
        rw [hL2] at HHx
        have hci : ¬ (car j : Int) = i := by omega
        clear hL2 hff hcar
        go_wp2
        exact ⟨⟨j + 1, by omega, by go_num, HBx.out, HHx.out⟩, by simp [intOf]; omega⟩
    · obtain rfl : j = k := by omega
      have k1 := holds_at HH1.out 2 rfl
      rw [← HC.out, colP_done, HF.out] at k1
      have HK1 : Hid _ := k1
      clear k1
      go_wp2
      go_ret
      exact ⟨w.heap.size, c, rfl, rfl, Nat.le_refl _, HK1.out, HB.out⟩
theorem hrrow_F (k r h : Nat) (w : World) (h1 : 1 ≤ k) (h2 : 2 ≤ r) (h3 : k + r ≤ 16) (hh : h < 2 * (k + r)) :
    Calls Tryd.prog 62 #[.int .i64 k, .int .i64 r, .int .i64 h] w fun e w' => ∃ g n, e = .returned (.slice (some ⟨g, 0, none⟩) n n) ∧ n = 2 * k ∧ w.heap.size ≤ g ∧
      w'.heap[g]? = some (.cells (vfs (rowF (2 * k) (halfF k (carN (groupN k r)) h))) 5 (0, 0)) ∧ Below w.heap.size w w' := by
  by_cases hs : h / 2 < k
  · exact rrow_unit k r h (h / 2) (h % 2) w h1 h2 h3 (by omega) (by omega) hs
  · rcases (show h % 2 = 0 ∨ h % 2 = 1 by omega) with e | e
    · exact rrow_0 k r h (h / 2 - k) w h1 h2 h3 (by omega) (by omega)
    · exact rrow_1 k r h (h / 2 - k) w h1 h2 h3 (by omega) (by omega)
end Go.Proofs.YtmlpijlcpeoeaaaDoor
