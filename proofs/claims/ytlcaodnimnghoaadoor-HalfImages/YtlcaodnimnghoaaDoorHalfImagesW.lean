/- The walk of HalfImages: at all numbers. -/
import Derived.Test.YtlcaodnimnghoaaDoorHalfF
import Derived.Test.YtlcaodnimnghoaaDoorHalfL
import Derived.Test.YtlcaodnimnghoaaDoorMatV
import Derived.BigRegion
import Derived.Deep.DeepCutAuto
import Derived.Deep.RegionHeld3
import Derived.Test.YtlcaodnimnghoaaDoorBaseG
import Derived.Test.YtlcaodnimnghoaaDoorMatRow
import Derived.Lib.ItoaNum
import Derived.Lib.ItoaWalk
import Derived.Test.YtlcaodnimnghoaaDoorOwn
import Derived.Test.YtlcaodnimnghoaaDoorMatS
import Derived.Test.YtlcaodnimnghoaaDoorErrs
import Derived.Test.YtlcaodnimnghoaaDoorBaseR
/- What rowAt of package half answers; nothing that was there turns. -/
namespace Go.Proofs.YtlcaodnimnghoaaDoor
open Go.RowKit Gf
set_option linter.unusedVariables false
set_option maxRecDepth 20000
/-- what stands at a variable of the half that stands at (s, p) -/
def placeF (k g s p : Nat) (xs : List F) : Nat → F := fun v => if v % 2 = p then at8 xs (v / 2) else if p = 1 ∧ s = k + carN g (v / 2) then 1 else 0
theorem placeF_same {k g s p q b : Nat} {xs : List F} (h : b = p) (hb : b < 2) : placeF k g s p xs (2 * q + b) = at8 xs q := by
  rw [placeF, if_pos (by omega), show (2 * q + b) / 2 = q by omega]
theorem placeF_yes {k g s q : Nat} {xs : List F} (h : s = k + carN g q) : placeF k g s 1 xs (2 * q) = 1 := by
  rw [placeF, if_neg (by omega), show 2 * q / 2 = q by omega, if_pos ⟨rfl, h⟩]
theorem placeF_no {k g s p q b : Nat} {xs : List F} (h : b ≠ p) (hb : b < 2) (h2 : p = 1 → s ≠ k + carN g q) : placeF k g s p xs (2 * q + b) = 0 := by
  rw [placeF, if_neg (by omega), show (2 * q + b) / 2 = q by omega, if_neg (fun h => h2 h.1 h.2)]
theorem colP_skip {r j : Nat} {f : Nat → F} (h : f j = 0) : colP r f j = colP r f (j + 1) := rowF_congr fun i hi => by
  by_cases e : i = j
  · subst e; rw [if_neg (by omega), if_pos (by omega), h]
  · by_cases e2 : i < j
    · rw [if_pos e2, if_pos (by omega)]
    · rw [if_neg e2, if_neg (by omega)]
set_option maxHeartbeats 4000000 in
theorem hrowAt_0 (k g s cap : Nat) (a : Option Addr) (xs : List F) (w : World) (h1 : 1 ≤ k) (h2 : k ≤ 16) (hg : 1 ≤ g) (hg2 : g ≤ 16) (hs : s ≤ 16) (hx : xs.length = k) (hX : Row8 w a xs) :
    Calls Tryd.prog 39 #[.agg #[.int .i64 s, .int .i64 0], .slice a k cap, .int .i64 g] w fun e w' => ∃ gb n, e = .returned (.slice (some ⟨gb, 0, none⟩) n n) ∧ n = 2 * k ∧ w.heap.size ≤ gb ∧
      w'.heap[gb]? = some (.cells (vfs (rowF (2 * k) (placeF k g s 0 xs))) 5 (0, 0)) ∧ Below w.heap.size w w' := by
  obtain ⟨m, hm⟩ : ∃ m, m = 2 * k := ⟨_, rfl⟩
  have em : (2 : Int) * k = m := by omega
  have hm32 : m ≤ 32 := by omega
  rw [← hm]
  have HM : Hid _ := hm
  clear hm
  have hmk := run_make8 m (by omega)
  rcases hX with e0 | ⟨b, off, rfl, hc⟩
  · rw [e0] at hx; simp at hx; omega
  have HX : Hid _ := hx
  have HC : Hid _ := hc
  clear hx hc
  obtain ⟨f, hf⟩ : ∃ f, f = placeF k g s 0 xs := ⟨_, rfl⟩
  rw [← hf]
  have HFE : Hid _ := hf
  clear hf
  go_enter Tryd.func39, Tryd.ntmps39
  go_wp2
  have B0 := heap_alloc2_old w (.cells #[.int .i64 s, .int .i64 0] 66) (.cells (vfs (zeros m)) 5)
  have B1 := heap_alloc2_new w (.cells #[.int .i64 s, .int .i64 0] 66) (.cells (vfs (zeros m)) 5)
  have B3 := ((Below.refl w.heap.size w).alloc (Nat.le_refl _) (.cells #[.int .i64 s, .int .i64 0] 66)).alloc (by simp) (.cells (vfs (zeros m)) 5)
  generalize hW : ((w.alloc (.cells #[.int .i64 s, .int .i64 0] 66)).alloc (.cells (vfs (zeros m)) 5)) = W3 at *
  have HS0 : Hid _ := B0
  have HS1 : Hid _ := B1
  have HS3 : Hid _ := B3
  clear hW hmk B0 B1 B3
  go_loopw [18] (fun i wr => ∃ j : Nat, j ≤ m ∧ i = .int .i64 j ∧ Below w.heap.size w wr ∧ wr.heap[w.heap.size]? = some (.cells #[.int .i64 s, .int .i64 0] 66 (0, 0)) ∧ wr.heap[w.heap.size + 1]? = some (.cells (vfs (colP m f j)) 5 (0, 0))) (fun i _ => m - (intOf i).toNat)
  case atStart => exact ⟨0, by omega, rfl, HS3.out, HS0.out, by rw [← colP_zero]; exact HS1.out⟩
  case round =>
    obtain ⟨j, hj, rfl, hb, hp0, hr0⟩ := hrel
    have HB : Hid _ := hb
    have HP : Hid _ := hp0
    have HR : Hid _ := hr0
    clear hb hp0 hr0
    by_cases hlt : j < m
    rotate_left
    · have e : j = m := by omega
      subst e
      have hr := HR.out
      rw [colP_done] at hr
      have HR' : Hid _ := hr
      clear hr
      go_wp2
      go_ret
      exact ⟨w.heap.size + 1, j, rfl, rfl, by omega, HR'.out, HB.out⟩
    obtain ⟨q, b, rfl, hb2⟩ : ∃ q b : Nat, j = 2 * q + b ∧ b < 2 := ⟨j / 2, j % 2, by omega, by omega⟩
    have hqk : q < k := by have := HM.out; omega
    rcases (show b = 0 ∨ b = 1 by omega) with rfl | rfl
    ·
      go_wp2_with fail
      refine (placeOf_F (2 * q) q 0 _ rfl (by decide) (by omega)).mono ?_
      rintro e w2 ⟨rfl, hb2⟩
      have zz := hb2.size
      have HP2 : Hid (w2.heap[w.heap.size]? = some (.cells #[.int .i64 s, .int .i64 0] 66 (0, 0))) := heap_later HP.out hb2
      have HR2 : Hid (w2.heap[w.heap.size + 1]? = some (.cells (vfs (colP m f (2 * q))) 5 (0, 0))) := heap_later HR.out hb2
      have HB2 : Hid (Below w.heap.size w w2) := HB.out.trans (hb2.mono HB.out.size)
      clear hb2
      have hA := holds_new (holds_cons (holds_cons (holds_nil w2) HP2.out) HR2.out) #[.int .i64 q, .int .i64 0] 66
      have HA : Hid _ := hA
      have HB3 : Hid _ := HB2.out.alloc HB2.out.size (.cells #[.int .i64 q, .int .i64 0] 66)
      clear hA
      have c1 := cellAt (holds_at HA.out 0 rfl) 0 _ rfl
      have c2 := cellAt (holds_at HA.out 0 rfl) 1 _ rfl
      have c3 := cellAt (holds_at HA.out 2 rfl) 0 _ rfl
      have c4 := cellAt (holds_at HA.out 2 rfl) 1 _ rfl
      have z4 := ltHeap (holds_at HA.out 2 rfl)
      have c5 := cell_later HB3.out (HC.out q (by rw [HX.out]; omega))
      have c6 := cellAt (holds_at HA.out 1 rfl) (2 * q) _ (vfs_get _ _ (by rw [colP_len]; omega))
      have c7 := frozen_of_row _ (w.heap.size + 1) (2 * q) _ _ (holds_at HA.out 1 rfl)
      have z5 : w.heap.size + 1 < w2.heap.size := ltHeap HR2.out
      go_upto_region 9 with fail
      have hfq : f (2 * q) = at8 xs q := by rw [HFE.out]; exact placeF_same (q := q) (b := 0) rfl (by decide)
      have hR5 : (w2.setCell ⟨w.heap.size + 1, (2 * q), none⟩ (.int .u8 ((at8 xs q).toNat : Int))).heap[w.heap.size + 1]? = some (.cells (vfs (colP m f ((2 * q) + 1))) 5 (0, 0)) := by
        rw [heap_setCell_same _ _ _ _ _ _ HR2.out, vfs_set, ← colP_step m f (2 * q), hfq]
      have hP5 : (w2.setCell ⟨w.heap.size + 1, (2 * q), none⟩ (.int .u8 ((at8 xs q).toNat : Int))).heap[w.heap.size]? = some (.cells #[.int .i64 s, .int .i64 0] 66 (0, 0)) := (heap_setCell_other _ _ _ _ (by show w.heap.size ≠ w.heap.size + 1; omega)).trans HP2.out
      have hB5 : Below w.heap.size w (w2.setCell ⟨w.heap.size + 1, (2 * q), none⟩ (.int .u8 ((at8 xs q).toNat : Int))) := HB2.out.setCell (by show w.heap.size ≤ w.heap.size + 1; omega) _
      have hZ5 : (w2.setCell ⟨w.heap.size + 1, (2 * q), none⟩ (.int .u8 ((at8 xs q).toNat : Int))).heap.size = w2.heap.size := by simp
      have k0 : Hid (((w2.setCell ⟨w.heap.size + 1, (2 * q), none⟩ (.int .u8 ((at8 xs q).toNat : Int))).alloc (.cells #[.int .i64 q, .int .i64 0] 66)).heap[w.heap.size]? = some (.cells #[.int .i64 s, .int .i64 0] 66 (0, 0))) := (Below.heap_alloc _ _ _ (ltHeap hP5)).trans hP5
      have k1 : Hid (((w2.setCell ⟨w.heap.size + 1, (2 * q), none⟩ (.int .u8 ((at8 xs q).toNat : Int))).alloc (.cells #[.int .i64 q, .int .i64 0] 66)).heap[w.heap.size + 1]? = some (.cells (vfs (colP m f ((2 * q) + 1))) 5 (0, 0))) := (Below.heap_alloc _ _ _ (ltHeap hR5)).trans hR5
      have k2 : Hid (((w2.setCell ⟨w.heap.size + 1, (2 * q), none⟩ (.int .u8 ((at8 xs q).toNat : Int))).alloc (.cells #[.int .i64 q, .int .i64 0] 66)).heap[w2.heap.size]? = some (.cells #[.int .i64 q, .int .i64 0] 66 (0, 0))) := by
        have := heap_alloc_last (w2.setCell ⟨w.heap.size + 1, (2 * q), none⟩ (.int .u8 ((at8 xs q).toNat : Int))) (.cells #[.int .i64 q, .int .i64 0] 66)
        rw [hZ5] at this
        exact this
      have kb : Hid (Below w.heap.size w ((w2.setCell ⟨w.heap.size + 1, (2 * q), none⟩ (.int .u8 ((at8 xs q).toNat : Int))).alloc (.cells #[.int .i64 q, .int .i64 0] 66))) := hB5.alloc hB5.size _
      clear hR5 hP5 hB5 hZ5
      generalize hWA : ((w2.setCell ⟨w.heap.size + 1, (2 * q), none⟩ (.int .u8 ((at8 xs q).toNat : Int))).alloc (.cells #[.int .i64 q, .int .i64 0] 66)) = wa at *
      clear hWA c1 c2 c3 c4 c5 c6 c7
      clear HA HB2 HB3 HP2 HR2
      have c1 := boxB (B := wa.heap.size) k0.out (ltHeap k0.out) 0 _ rfl
      have c2 := boxB (B := wa.heap.size) k0.out (ltHeap k0.out) 1 _ rfl
      have c3 := boxB (B := wa.heap.size) k2.out (ltHeap k2.out) 0 _ rfl
      have c4 := boxB (B := wa.heap.size) k2.out (ltHeap k2.out) 1 _ rfl
      obtain ⟨c, hcc⟩ : ∃ c, c = carN g q := ⟨_, rfl⟩
      have HCC : Hid _ := hcc
      have hcr := fun w => carrying_F k g q w (by omega) hg (by omega) (by omega)
      rw [← hcc] at hcr
      have HCR : Hid _ := hcr
      clear hcr hcc
      have hR2 : Below wa.heap.size wa wa.drew := (Below.refl _ _).drew
      go_region_held3 (fun w' => Below wa.heap.size wa w') (first | assumption | (refine Below.drew ?_; assumption)) (first | (go_at_call 52; refine Calls.mono (HCR.out _) ?_; rintro e wj ⟨rfl, hbj⟩; have hTa : Below wa.heap.size wa wj := Below.trans ‹Below wa.heap.size wa _› (Below.mono hbj (below_size ‹Below wa.heap.size wa _›)); clear hbj))
      have hB9 : Below w.heap.size w wj := kb.out.trans (hTa.mono kb.out.size)
      have hP9 := heap_later k0.out hTa
      have hR9 := heap_later k1.out hTa
      have hB : Hid _ := hB9
      have hP : Hid _ := hP9
      have hR : Hid _ := hR9
      clear hB9 hP9 hR9
      go_wp2
      exact ⟨⟨(2 * q) + 1, by omega, by go_num, hB.out, hP.out, hR.out⟩, by simp [intOf]; omega⟩
    ·
      go_wp2_with fail
      refine (placeOf_F (2 * q + 1) q 1 _ rfl (by decide) (by omega)).mono ?_
      rintro e w2 ⟨rfl, hb2⟩
      have zz := hb2.size
      have HP2 : Hid (w2.heap[w.heap.size]? = some (.cells #[.int .i64 s, .int .i64 0] 66 (0, 0))) := heap_later HP.out hb2
      have HR2 : Hid (w2.heap[w.heap.size + 1]? = some (.cells (vfs (colP m f (2 * q + 1))) 5 (0, 0))) := heap_later HR.out hb2
      have HB2 : Hid (Below w.heap.size w w2) := HB.out.trans (hb2.mono HB.out.size)
      clear hb2
      have hA := holds_new (holds_cons (holds_cons (holds_nil w2) HP2.out) HR2.out) #[.int .i64 q, .int .i64 1] 66
      have HA : Hid _ := hA
      have HB3 : Hid _ := HB2.out.alloc HB2.out.size (.cells #[.int .i64 q, .int .i64 1] 66)
      clear hA
      have c1 := cellAt (holds_at HA.out 0 rfl) 0 _ rfl
      have c2 := cellAt (holds_at HA.out 0 rfl) 1 _ rfl
      have c3 := cellAt (holds_at HA.out 2 rfl) 0 _ rfl
      have c4 := cellAt (holds_at HA.out 2 rfl) 1 _ rfl
      have z4 := ltHeap (holds_at HA.out 2 rfl)
      have z5 : w.heap.size + 1 < w2.heap.size := ltHeap HR2.out
      go_upto_region 9 with fail
      have k0 : Hid ((w2.alloc (.cells #[.int .i64 q, .int .i64 1] 66)).heap[w.heap.size]? = some (.cells #[.int .i64 s, .int .i64 0] 66 (0, 0))) := holds_at HA.out 2 rfl
      have k1 : Hid ((w2.alloc (.cells #[.int .i64 q, .int .i64 1] 66)).heap[w.heap.size + 1]? = some (.cells (vfs (colP m f (2 * q + 1))) 5 (0, 0))) := holds_at HA.out 1 rfl
      have k2 : Hid ((w2.alloc (.cells #[.int .i64 q, .int .i64 1] 66)).heap[w2.heap.size]? = some (.cells #[.int .i64 q, .int .i64 1] 66 (0, 0))) := holds_at HA.out 0 rfl
      have kb : Hid (Below w.heap.size w (w2.alloc (.cells #[.int .i64 q, .int .i64 1] 66))) := HB3.out
      generalize hWA : (w2.alloc (.cells #[.int .i64 q, .int .i64 1] 66)) = wa at *
      clear hWA c1 c2 c3 c4 
      clear HA HB2 HB3 HP2 HR2
      have c1 := cellAt k0.out 0 _ rfl
      have c2 := cellAt k0.out 1 _ rfl
      have c3 := cellAt k2.out 0 _ rfl
      have c4 := cellAt k2.out 1 _ rfl
      go_region
      have hB9 := kb.out.drew
      have hP9 := k0.out
      have hR9 := k1.out
      have hfq : f (2 * q + 1) = 0 := by rw [HFE.out]; exact placeF_no (q := q) (b := 1) (by decide) (by decide) (fun h => absurd h (by decide))
      rw [colP_skip hfq] at hR9
      have hB : Hid _ := hB9
      have hP : Hid _ := hP9
      have hR : Hid _ := hR9
      clear hB9 hP9 hR9 hfq
      go_wp2
      exact ⟨⟨(2 * q + 1) + 1, by omega, by go_num, hB.out, hP.out, hR.out⟩, by simp [intOf]; omega⟩
set_option maxHeartbeats 4000000 in
theorem hrowAt_1 (k g s cap : Nat) (a : Option Addr) (xs : List F) (w : World) (h1 : 1 ≤ k) (h2 : k ≤ 16) (hg : 1 ≤ g) (hg2 : g ≤ 16) (hs : s ≤ 16) (hx : xs.length = k) (hX : Row8 w a xs) :
    Calls Tryd.prog 39 #[.agg #[.int .i64 s, .int .i64 1], .slice a k cap, .int .i64 g] w fun e w' => ∃ gb n, e = .returned (.slice (some ⟨gb, 0, none⟩) n n) ∧ n = 2 * k ∧ w.heap.size ≤ gb ∧
      w'.heap[gb]? = some (.cells (vfs (rowF (2 * k) (placeF k g s 1 xs))) 5 (0, 0)) ∧ Below w.heap.size w w' := by
  obtain ⟨m, hm⟩ : ∃ m, m = 2 * k := ⟨_, rfl⟩
  have em : (2 : Int) * k = m := by omega
  have hm32 : m ≤ 32 := by omega
  rw [← hm]
  have HM : Hid _ := hm
  clear hm
  have hmk := run_make8 m (by omega)
  rcases hX with e0 | ⟨b, off, rfl, hc⟩
  · rw [e0] at hx; simp at hx; omega
  have HX : Hid _ := hx
  have HC : Hid _ := hc
  clear hx hc
  obtain ⟨f, hf⟩ : ∃ f, f = placeF k g s 1 xs := ⟨_, rfl⟩
  rw [← hf]
  have HFE : Hid _ := hf
  clear hf
  go_enter Tryd.func39, Tryd.ntmps39
  go_wp2
  have B0 := heap_alloc2_old w (.cells #[.int .i64 s, .int .i64 1] 66) (.cells (vfs (zeros m)) 5)
  have B1 := heap_alloc2_new w (.cells #[.int .i64 s, .int .i64 1] 66) (.cells (vfs (zeros m)) 5)
  have B3 := ((Below.refl w.heap.size w).alloc (Nat.le_refl _) (.cells #[.int .i64 s, .int .i64 1] 66)).alloc (by simp) (.cells (vfs (zeros m)) 5)
  generalize hW : ((w.alloc (.cells #[.int .i64 s, .int .i64 1] 66)).alloc (.cells (vfs (zeros m)) 5)) = W3 at *
  have HS0 : Hid _ := B0
  have HS1 : Hid _ := B1
  have HS3 : Hid _ := B3
  clear hW hmk B0 B1 B3
  go_loopw [18] (fun i wr => ∃ j : Nat, j ≤ m ∧ i = .int .i64 j ∧ Below w.heap.size w wr ∧ wr.heap[w.heap.size]? = some (.cells #[.int .i64 s, .int .i64 1] 66 (0, 0)) ∧ wr.heap[w.heap.size + 1]? = some (.cells (vfs (colP m f j)) 5 (0, 0))) (fun i _ => m - (intOf i).toNat)
  case atStart => exact ⟨0, by omega, rfl, HS3.out, HS0.out, by rw [← colP_zero]; exact HS1.out⟩
  case round =>
    obtain ⟨j, hj, rfl, hb, hp0, hr0⟩ := hrel
    have HB : Hid _ := hb
    have HP : Hid _ := hp0
    have HR : Hid _ := hr0
    clear hb hp0 hr0
    by_cases hlt : j < m
    rotate_left
    · have e : j = m := by omega
      subst e
      have hr := HR.out
      rw [colP_done] at hr
      have HR' : Hid _ := hr
      clear hr
      go_wp2
      go_ret
      exact ⟨w.heap.size + 1, j, rfl, rfl, by omega, HR'.out, HB.out⟩
    obtain ⟨q, b, rfl, hb2⟩ : ∃ q b : Nat, j = 2 * q + b ∧ b < 2 := ⟨j / 2, j % 2, by omega, by omega⟩
    have hqk : q < k := by have := HM.out; omega
    rcases (show b = 0 ∨ b = 1 by omega) with rfl | rfl
    ·
      go_wp2_with fail
      refine (placeOf_F (2 * q) q 0 _ rfl (by decide) (by omega)).mono ?_
      rintro e w2 ⟨rfl, hb2⟩
      have zz := hb2.size
      have HP2 : Hid (w2.heap[w.heap.size]? = some (.cells #[.int .i64 s, .int .i64 1] 66 (0, 0))) := heap_later HP.out hb2
      have HR2 : Hid (w2.heap[w.heap.size + 1]? = some (.cells (vfs (colP m f (2 * q))) 5 (0, 0))) := heap_later HR.out hb2
      have HB2 : Hid (Below w.heap.size w w2) := HB.out.trans (hb2.mono HB.out.size)
      clear hb2
      have hA := holds_new (holds_cons (holds_cons (holds_nil w2) HP2.out) HR2.out) #[.int .i64 q, .int .i64 0] 66
      have HA : Hid _ := hA
      have HB3 : Hid _ := HB2.out.alloc HB2.out.size (.cells #[.int .i64 q, .int .i64 0] 66)
      clear hA
      have c1 := cellAt (holds_at HA.out 0 rfl) 0 _ rfl
      have c2 := cellAt (holds_at HA.out 0 rfl) 1 _ rfl
      have c3 := cellAt (holds_at HA.out 2 rfl) 0 _ rfl
      have c4 := cellAt (holds_at HA.out 2 rfl) 1 _ rfl
      have z4 := ltHeap (holds_at HA.out 2 rfl)
      have z5 : w.heap.size + 1 < w2.heap.size := ltHeap HR2.out
      go_upto_region 9 with fail
      have k0 : Hid ((w2.alloc (.cells #[.int .i64 q, .int .i64 0] 66)).heap[w.heap.size]? = some (.cells #[.int .i64 s, .int .i64 1] 66 (0, 0))) := holds_at HA.out 2 rfl
      have k1 : Hid ((w2.alloc (.cells #[.int .i64 q, .int .i64 0] 66)).heap[w.heap.size + 1]? = some (.cells (vfs (colP m f (2 * q))) 5 (0, 0))) := holds_at HA.out 1 rfl
      have k2 : Hid ((w2.alloc (.cells #[.int .i64 q, .int .i64 0] 66)).heap[w2.heap.size]? = some (.cells #[.int .i64 q, .int .i64 0] 66 (0, 0))) := holds_at HA.out 0 rfl
      have kb : Hid (Below w.heap.size w (w2.alloc (.cells #[.int .i64 q, .int .i64 0] 66))) := HB3.out
      generalize hWA : (w2.alloc (.cells #[.int .i64 q, .int .i64 0] 66)) = wa at *
      clear hWA c1 c2 c3 c4 
      clear HA HB2 HB3 HP2 HR2
      have c1 := boxB (B := wa.heap.size) k0.out (ltHeap k0.out) 0 _ rfl
      have c2 := boxB (B := wa.heap.size) k0.out (ltHeap k0.out) 1 _ rfl
      have c3 := boxB (B := wa.heap.size) k2.out (ltHeap k2.out) 0 _ rfl
      have c4 := boxB (B := wa.heap.size) k2.out (ltHeap k2.out) 1 _ rfl
      obtain ⟨c, hcc⟩ : ∃ c, c = carN g q := ⟨_, rfl⟩
      have HCC : Hid _ := hcc
      have hcr := fun w => carrying_F k g q w (by omega) hg (by omega) (by omega)
      rw [← hcc] at hcr
      have HCR : Hid _ := hcr
      clear hcr hcc
      by_cases hsc : s = k + c
      · have hcr2 := HCR.out
        rw [← hsc] at hcr2
        have HCS : Hid _ := hsc
        clear HCR hsc
        have HCR : Hid _ := hcr2
        clear hcr2
        have hR2 : Below wa.heap.size wa wa.drew := (Below.refl _ _).drew
        go_region_held3 (fun w' => Below wa.heap.size wa w') (first | assumption | (refine Below.drew ?_; assumption)) (first | (go_at_call 52; refine Calls.mono (HCR.out _) ?_; rintro e wj ⟨rfl, hbj⟩; have hTa : Below wa.heap.size wa wj := Below.trans ‹Below wa.heap.size wa _› (Below.mono hbj (below_size ‹Below wa.heap.size wa _›)); clear hbj))
        have hB9 : Below w.heap.size w wj := kb.out.trans (hTa.mono kb.out.size)
        have hP9 := heap_later k0.out hTa
        have hR9 := heap_later k1.out hTa
        have c5 := cellAt hR9 (2 * q) _ (vfs_get _ _ (by rw [colP_len]; omega))
        have c6 := frozen_of_row _ (w.heap.size + 1) (2 * q) _ _ hR9
        have hfq : f (2 * q) = 1 := by rw [HFE.out]; exact placeF_yes (HCS.out.trans (by rw [HCC.out]))
        have hB : Hid _ := hB9
        have hP : Hid _ := hP9
        have hR : Hid _ := hR9
        have HQ : Hid _ := hfq
        clear hB9 hP9 hR9 hfq
        go_wp2
        refine ⟨⟨(2 * q) + 1, by omega, by go_num, hB.out.setCell (by show w.heap.size ≤ w.heap.size + 1; omega) _, (heap_setCell_other _ _ _ _ (by show w.heap.size ≠ w.heap.size + 1; omega)).trans hP.out, ?_⟩, by simp [intOf]; omega⟩
        rw [heap_setCell_same _ _ _ _ _ _ hR.out, ← colP_step m f (2 * q), HQ.out, ← vfs_set]
        rfl
      · have hs1 : ¬ (s : Int) = (k : Int) + c := by omega
        have hs2 : ((s : Int) == (k : Int) + c) = false := beq_eq_false_iff_ne.2 hs1
        have hR2 : Below wa.heap.size wa wa.drew := (Below.refl _ _).drew
        go_region_held3 (fun w' => Below wa.heap.size wa w') (first | assumption | (refine Below.drew ?_; assumption)) (first | (go_at_call 52; refine Calls.mono (HCR.out _) ?_; rintro e wj ⟨rfl, hbj⟩; have hTa : Below wa.heap.size wa wj := Below.trans ‹Below wa.heap.size wa _› (Below.mono hbj (below_size ‹Below wa.heap.size wa _›)); clear hbj))
        have hB9 : Below w.heap.size w wj := kb.out.trans (hTa.mono kb.out.size)
        have hP9 := heap_later k0.out hTa
        have hR9 := heap_later k1.out hTa
        have hfq : f (2 * q) = 0 := by rw [HFE.out]; exact placeF_no (q := q) (b := 0) (by decide) (by decide) (fun _ h => hsc (h.trans (by rw [HCC.out])))
        rw [colP_skip hfq] at hR9
        have hB : Hid _ := hB9
        have hP : Hid _ := hP9
        have hR : Hid _ := hR9
        clear hB9 hP9 hR9 hfq
        go_wp2
        exact ⟨⟨(2 * q) + 1, by omega, by go_num, hB.out, hP.out, hR.out⟩, by simp [intOf]; omega⟩
    ·
      go_wp2_with fail
      refine (placeOf_F (2 * q + 1) q 1 _ rfl (by decide) (by omega)).mono ?_
      rintro e w2 ⟨rfl, hb2⟩
      have zz := hb2.size
      have HP2 : Hid (w2.heap[w.heap.size]? = some (.cells #[.int .i64 s, .int .i64 1] 66 (0, 0))) := heap_later HP.out hb2
      have HR2 : Hid (w2.heap[w.heap.size + 1]? = some (.cells (vfs (colP m f (2 * q + 1))) 5 (0, 0))) := heap_later HR.out hb2
      have HB2 : Hid (Below w.heap.size w w2) := HB.out.trans (hb2.mono HB.out.size)
      clear hb2
      have hA := holds_new (holds_cons (holds_cons (holds_nil w2) HP2.out) HR2.out) #[.int .i64 q, .int .i64 1] 66
      have HA : Hid _ := hA
      have HB3 : Hid _ := HB2.out.alloc HB2.out.size (.cells #[.int .i64 q, .int .i64 1] 66)
      clear hA
      have c1 := cellAt (holds_at HA.out 0 rfl) 0 _ rfl
      have c2 := cellAt (holds_at HA.out 0 rfl) 1 _ rfl
      have c3 := cellAt (holds_at HA.out 2 rfl) 0 _ rfl
      have c4 := cellAt (holds_at HA.out 2 rfl) 1 _ rfl
      have z4 := ltHeap (holds_at HA.out 2 rfl)
      have c5 := cell_later HB3.out (HC.out q (by rw [HX.out]; omega))
      have c6 := cellAt (holds_at HA.out 1 rfl) (2 * q + 1) _ (vfs_get _ _ (by rw [colP_len]; omega))
      have c7 := frozen_of_row _ (w.heap.size + 1) (2 * q + 1) _ _ (holds_at HA.out 1 rfl)
      have z5 : w.heap.size + 1 < w2.heap.size := ltHeap HR2.out
      go_upto_region 9 with fail
      have hfq : f (2 * q + 1) = at8 xs q := by rw [HFE.out]; exact placeF_same (q := q) (b := 1) rfl (by decide)
      have hR5 : (w2.setCell ⟨w.heap.size + 1, (2 * q + 1), none⟩ (.int .u8 ((at8 xs q).toNat : Int))).heap[w.heap.size + 1]? = some (.cells (vfs (colP m f ((2 * q + 1) + 1))) 5 (0, 0)) := by
        rw [heap_setCell_same _ _ _ _ _ _ HR2.out, vfs_set, ← colP_step m f (2 * q + 1), hfq]
      have hP5 : (w2.setCell ⟨w.heap.size + 1, (2 * q + 1), none⟩ (.int .u8 ((at8 xs q).toNat : Int))).heap[w.heap.size]? = some (.cells #[.int .i64 s, .int .i64 1] 66 (0, 0)) := (heap_setCell_other _ _ _ _ (by show w.heap.size ≠ w.heap.size + 1; omega)).trans HP2.out
      have hB5 : Below w.heap.size w (w2.setCell ⟨w.heap.size + 1, (2 * q + 1), none⟩ (.int .u8 ((at8 xs q).toNat : Int))) := HB2.out.setCell (by show w.heap.size ≤ w.heap.size + 1; omega) _
      have hZ5 : (w2.setCell ⟨w.heap.size + 1, (2 * q + 1), none⟩ (.int .u8 ((at8 xs q).toNat : Int))).heap.size = w2.heap.size := by simp
      have k0 : Hid (((w2.setCell ⟨w.heap.size + 1, (2 * q + 1), none⟩ (.int .u8 ((at8 xs q).toNat : Int))).alloc (.cells #[.int .i64 q, .int .i64 1] 66)).heap[w.heap.size]? = some (.cells #[.int .i64 s, .int .i64 1] 66 (0, 0))) := (Below.heap_alloc _ _ _ (ltHeap hP5)).trans hP5
      have k1 : Hid (((w2.setCell ⟨w.heap.size + 1, (2 * q + 1), none⟩ (.int .u8 ((at8 xs q).toNat : Int))).alloc (.cells #[.int .i64 q, .int .i64 1] 66)).heap[w.heap.size + 1]? = some (.cells (vfs (colP m f ((2 * q + 1) + 1))) 5 (0, 0))) := (Below.heap_alloc _ _ _ (ltHeap hR5)).trans hR5
      have k2 : Hid (((w2.setCell ⟨w.heap.size + 1, (2 * q + 1), none⟩ (.int .u8 ((at8 xs q).toNat : Int))).alloc (.cells #[.int .i64 q, .int .i64 1] 66)).heap[w2.heap.size]? = some (.cells #[.int .i64 q, .int .i64 1] 66 (0, 0))) := by
        have := heap_alloc_last (w2.setCell ⟨w.heap.size + 1, (2 * q + 1), none⟩ (.int .u8 ((at8 xs q).toNat : Int))) (.cells #[.int .i64 q, .int .i64 1] 66)
        rw [hZ5] at this
        exact this
      have kb : Hid (Below w.heap.size w ((w2.setCell ⟨w.heap.size + 1, (2 * q + 1), none⟩ (.int .u8 ((at8 xs q).toNat : Int))).alloc (.cells #[.int .i64 q, .int .i64 1] 66))) := hB5.alloc hB5.size _
      clear hR5 hP5 hB5 hZ5
      generalize hWA : ((w2.setCell ⟨w.heap.size + 1, (2 * q + 1), none⟩ (.int .u8 ((at8 xs q).toNat : Int))).alloc (.cells #[.int .i64 q, .int .i64 1] 66)) = wa at *
      clear hWA c1 c2 c3 c4 c5 c6 c7
      clear HA HB2 HB3 HP2 HR2
      have c1 := cellAt k0.out 0 _ rfl
      have c2 := cellAt k0.out 1 _ rfl
      have c3 := cellAt k2.out 0 _ rfl
      have c4 := cellAt k2.out 1 _ rfl
      go_region
      have hB9 := kb.out.drew
      have hP9 := k0.out
      have hR9 := k1.out
      have hB : Hid _ := hB9
      have hP : Hid _ := hP9
      have hR : Hid _ := hR9
      clear hB9 hP9 hR9
      go_wp2
      exact ⟨⟨(2 * q + 1) + 1, by omega, by go_num, hB.out, hP.out, hR.out⟩, by simp [intOf]; omega⟩
theorem hrowAt_F (k g s p cap : Nat) (a : Option Addr) (xs : List F) (w : World) (h1 : 1 ≤ k) (h2 : k ≤ 16) (hg : 1 ≤ g) (hg2 : g ≤ 16) (hs : s ≤ 16) (hp : p < 2) (hx : xs.length = k) (hX : Row8 w a xs) :
    Calls Tryd.prog 39 #[.agg #[.int .i64 s, .int .i64 p], .slice a k cap, .int .i64 g] w fun e w' => ∃ gb n, e = .returned (.slice (some ⟨gb, 0, none⟩) n n) ∧ n = 2 * k ∧ w.heap.size ≤ gb ∧
      w'.heap[gb]? = some (.cells (vfs (rowF (2 * k) (placeF k g s p xs))) 5 (0, 0)) ∧ Below w.heap.size w w' := by
  rcases (show p = 0 ∨ p = 1 by omega) with rfl | rfl
  · exact hrowAt_0 k g s cap a xs w h1 h2 hg hg2 hs hx hX
  · exact hrowAt_1 k g s cap a xs w h1 h2 hg hg2 hs hx hX
end Go.Proofs.YtlcaodnimnghoaaDoor

/- What Rows of package half answers, of all numbers; nothing that was there turns. -/
namespace Go.Proofs.YtlcaodnimnghoaaDoor
open Go.RowKit Gf
set_option linter.unusedVariables false
set_option maxRecDepth 20000
/-- the rows of all halves -/
def halfM (k r : Nat) : List F := grid (2 * k) (halfF k (carN (groupN k r))) (2 * (k + r))
theorem halfM_len (k r : Nat) : (halfM k r).length = 2 * (k + r) * (2 * k) := grid_len _ _ _
theorem hkind_ne {w : World} {a b : Nat} {cs ds : Array Value} {t u : TypeId} {f1 f2 : Nat × Nat} (h1 : w.heap[a]? = some (.cells cs t f1)) (h2 : w.heap[b]? = some (.cells ds u f2)) (h : t ≠ u) : a ≠ b := fun e => by
  subst e; rw [h1] at h2; cases h2; exact h rfl
theorem place_half {k r g s p : Nat} (hs : s < k + r) (hp : p < 2) : rowF (2 * k) (placeF k g s p (rowAt k (genM k r) s)) = rowF (2 * k) (halfF k (carN g) (2 * s + p)) := by
  refine rowF_congr fun v hv => ?_
  rw [genM, rowAt_grid hs]
  simp only [placeF, halfF]
  rw [show (2 * s + p) % 2 = p by omega, show (2 * s + p) / 2 = s by omega]
  by_cases h : v % 2 = p
  · rw [if_pos h, if_pos h, at8_rowF (by omega)]
  · rw [if_neg h, if_neg h]
    by_cases h2 : p = 1 ∧ s = k + carN g (v / 2)
    · rw [if_pos h2, if_pos ⟨h2.1, by omega, by omega⟩]
    · rw [if_neg h2, if_neg (fun h3 => h2 ⟨h3.1, by omega⟩)]
set_option maxHeartbeats 4000000 in
theorem hrows_F (k r : Nat) (w : World) (s0 : Addr) (hs0 : w.cell? ⟨3, 0, none⟩ = some (errAt s0)) (h1 : 1 ≤ k) (h2 : 2 ≤ r) (h3 : k + r ≤ 16) :
    Calls Tryd.prog 18 #[.int .i64 k, .int .i64 r] w fun e w' => ∃ g m, e = .returned (.tuple #[.agg #[.int .i64 (2 * (k + r) : Nat), .int .i64 (2 * k : Nat), .slice (some ⟨g, 0, none⟩) m m], .nilIface]) ∧ m = 2 * (k + r) * (2 * k) ∧ w.heap.size ≤ g ∧
      w'.heap[g]? = some (.cells (vfs (halfM k r)) 5 (0, 0)) ∧ Below w.heap.size w w' := by
  obtain ⟨gr1, _, _, gr2⟩ := groupN_least h1 h2 h3
  have HG : Hid _ := fun w => bgroup_ok k r w h1 h2 h3
  have HV : Hid _ := fun w s hs => generator_F k r w s hs h1 h2 h3
  have hhm : halfM k r = grid (2 * k) (halfF k (carN (groupN k r))) (2 * (k + r)) := rfl
  obtain ⟨gr, hgr⟩ : ∃ gr, gr = groupN k r := ⟨_, rfl⟩
  rw [← hgr] at HG gr1 gr2 hhm
  obtain ⟨n, hn⟩ : ∃ n, n = 2 * (k + r) := ⟨_, rfl⟩
  obtain ⟨c, hc⟩ : ∃ c, c = 2 * k := ⟨_, rfl⟩
  obtain ⟨t, ht⟩ : ∃ t, t = k + r := ⟨_, rfl⟩
  rw [← ht] at HV
  rw [← hn, ← hc] at hhm ⊢
  have en : (2 : Int) * ((k : Int) + r) = n := by omega
  have ec : (2 : Int) * (k : Int) = c := by omega
  have hn32 : n ≤ 32 := by omega
  have hc32 : c ≤ 32 := by omega
  have HN : Hid _ := hn
  have HC : Hid _ := hc
  have HT : Hid _ := ht
  have HHM : Hid _ := hhm
  have HS : Hid _ := hs0
  have hmk := run_makeS n (by omega)
  clear hgr hn hc ht hhm hs0
  have hA := holds_new (holds_nil w) #[.int .i64 0, .int .i64 0, .slice none 0 0] 42
  have HA : Hid _ := hA
  have HB0 : Hid _ := (Below.refl w.heap.size w).alloc (Nat.le_refl _) (.cells #[.int .i64 0, .int .i64 0, .slice none 0 0] 42)
  clear hA
  go_enter Tryd.func18, Tryd.ntmps18
  go_wp2_with fail
  refine Calls.mono (HV.out _ s0 (cell_later HB0.out HS.out)) ?_
  rintro e w1 ⟨g1, m1, rfl, hm1, hg1, hh1, hb1⟩
  have HA1 : Hid _ := holds_new (holds_cons (holds_later HA.out hb1) hh1) #[.int .i64 t, .int .i64 k, .slice (some ⟨g1, 0, none⟩) m1 m1] 42
  have hB1 := HB0.out.trans (hb1.mono HB0.out.size)
  have HB1 : Hid (Below w.heap.size w (w1.alloc (.cells #[.int .i64 t, .int .i64 k, .slice (some ⟨g1, 0, none⟩) m1 m1] 42))) := hB1.alloc hB1.size _
  have HM1 : Hid _ := hm1
  clear hb1 hh1 hg1 hm1 HA hB1
  go_wp2_with fail
  refine Calls.mono (HG.out _) ?_
  rintro e w2 ⟨rfl, rfl⟩
  go_wp2
  have hA2 := holds_cons (holds_alloc HA1.out (.cells (slV 0 [] n) 38)) (heap_alloc_last (w1.alloc (.cells #[.int .i64 t, .int .i64 k, .slice (some ⟨g1, 0, none⟩) m1 m1] 42)) (.cells (slV 0 [] n) 38))
  have hB2 := HB1.out.alloc HB1.out.size (.cells (slV 0 [] n) 38)
  have hz1 := HB1.out.size
  have hz2 := ltHeap (holds_at HA1.out 2 rfl)
  rw [World.size_alloc] at hA2 hz1 hz2
  have HA2 : Hid _ := hA2
  have HB2 : Hid _ := hB2
  clear hA2 hB2 HA1 HB1 hmk
  generalize hM : w1.heap.size + 1 = M at *
  generalize ((w1.alloc (.cells #[.int .i64 t, .int .i64 k, .slice (some ⟨g1, 0, none⟩) m1 m1] 42)).alloc (.cells (slV 0 [] n) 38)) = W3 at *
  have hM0 : w.heap.size < M := by omega
  have hM1 : w1.heap.size < M := by omega
  clear hM
  go_loopw [41] (fun i wr => ∃ j : Nat, ∃ gs : List Nat, j ≤ n ∧ i = .int .i64 j ∧ gs.length = j ∧ Below w.heap.size w wr ∧
    Holds wr [(M, .cells (slV c gs n) 38 (0, 0)), (w1.heap.size, .cells #[.int .i64 t, .int .i64 k, .slice (some ⟨g1, 0, none⟩) m1 m1] 42 (0, 0)), (g1, .cells (vfs (genM k r)) 5 (0, 0)), (w.heap.size, .cells #[.int .i64 0, .int .i64 0, .slice none 0 0] 42 (0, 0))] ∧
    ∀ i g, gs[i]? = some g → g ≠ M ∧ wr.heap[g]? = some (.cells (vfs (rowF c (halfF k (carN gr) i))) 5 (0, 0))) (fun i _ => n - (intOf i).toNat)
  case atStart => exact ⟨0, [], by omega, rfl, rfl, HB2.out, HA2.out, fun j g h => by simp at h⟩
  case round =>
    obtain ⟨j, gs, hj, rfl, hgs, hb, hh, hrows⟩ := hrel
    have HB : Hid _ := hb
    have HH : Hid _ := hh
    have HR : Hid _ := hrows
    have HGS : Hid _ := hgs
    clear hb hh hrows hgs
    by_cases hlt : j < n
    · obtain ⟨s, p, rfl, hp2, hst⟩ : ∃ s p : Nat, j = 2 * s + p ∧ p < 2 ∧ s < t := ⟨j / 2, j % 2, by omega, by omega, by have := HN.out; have := HT.out; omega⟩
      go_wp2_with fail
      refine (placeOf_F (2 * s + p) s p _ rfl hp2 (by have := HT.out; omega)).mono ?_
      rintro e w4 ⟨rfl, hb4⟩
      have HH4 : Hid _ := holds_new (holds_later HH.out hb4) #[.int .i64 s, .int .i64 p] 66
      have hB4 := HB.out.trans (hb4.mono HB.out.size)
      have HB4 : Hid _ := hB4.alloc hB4.size (.cells #[.int .i64 s, .int .i64 p] 66)
      have HR4b : Hid (∀ (k0 : Nat) (o : Obj), wr.heap[k0]? = some o → (w4.alloc (.cells #[.int .i64 s, .int .i64 p] 66)).heap[k0]? = some o) := fun k0 o h => (Below.heap_alloc _ _ _ (ltHeap (heap_later h hb4))).trans (heap_later h hb4)
      have zz4 := hb4.size
      clear hb4 hB4
      have c1 := cellAt (holds_at HH4.out 2 rfl) 0 _ rfl
      have c2 := cellAt (holds_at HH4.out 2 rfl) 1 _ rfl
      have c3 := cellAt (holds_at HH4.out 2 rfl) 2 _ rfl
      have c4 := cellAt (holds_at HH4.out 0 rfl) 0 _ rfl
      have z4 := ltHeap (holds_at HH4.out 0 rfl)
      have z5 := ltHeap (holds_at HH4.out 2 rfl)
      go_wp2_with fail
      refine Calls.mono (row_F t k m1 m1 s (some ⟨g1, 0, none⟩) (genM k r) _ (by have := HT.out; omega) (by omega) (by have := HM1.out; simpa using this) (by rw [genM_len, HT.out]) (Nat.le_refl _) (holds_row HH4.out 3 rfl) (fun h => by cases h) hst) ?_
      rintro e w5 ⟨a5, cap5, rfl, hr5, hn5, _, hb5⟩
      have HR5 : Hid _ := hr5
      have HH5 : Hid _ := holds_later HH4.out hb5
      have HB5 : Hid (Below w.heap.size w w5) := HB4.out.trans (hb5.mono HB4.out.size)
      have HR5b : Hid (∀ (k0 : Nat) (o : Obj), wr.heap[k0]? = some o → w5.heap[k0]? = some o) := fun k0 o h => heap_later (HR4b.out k0 o h) hb5
      clear hr5 hb5 hn5 c1 c2 c3 c4 z4 z5 HB4
      have c1 := cellAt (holds_at HH5.out 0 rfl) 0 _ rfl
      have c2 := cellAt (holds_at HH5.out 0 rfl) 1 _ rfl
      have z5 := ltHeap (holds_at HH5.out 0 rfl)
      go_wp2_with fail
      refine Calls.mono (hrowAt_F k gr s p cap5 a5 _ _ h1 (by omega) gr1 gr2 (by have := HT.out; omega) hp2 (rowAt_len (by rw [genM_len]) (by rw [← HT.out]; exact hst)) HR5.out) ?_
      rintro e w6 ⟨g6, n6, rfl, hn6, hg6, hh6, hb6⟩
      obtain rfl : n6 = c := by have := HC.out; omega
      rw [place_half (by have := HT.out; omega) hp2, ← HC.out] at hh6
      have hs6 := heap_later (holds_at HH5.out 1 rfl) hb6
      have z6 := ltHeap (holds_at HH5.out 1 rfl)
      have hg6M : g6 ≠ M := by omega
      have HG2 := HGS.out
      have c7 : w6.cell? ⟨M, 2 * s + p, none⟩ = some (.slice none 0 0) := cellAt hs6 (2 * s + p) _ (by have e := slV_next (c := n6) (gs := gs) (r := n) (by rw [HG2]; exact hlt); rwa [HG2] at e)
      have c8 : w6.frozen? ⟨M, 2 * s + p, none⟩ = false := frozen_of_row _ _ _ _ _ hs6
      have hW : ∀ (k0 : Nat) (o : Obj), k0 ≠ M → w6.heap[k0]? = some o → (w6.setCell ⟨M, 2 * s + p, none⟩ (.slice (some ⟨g6, 0, none⟩) n6 n6)).heap[k0]? = some o := fun k0 o h1 h2 => (heap_setCell_other _ _ _ _ h1).trans h2
      have HT6 : Hid ((w6.setCell ⟨M, 2 * s + p, none⟩ (.slice (some ⟨g6, 0, none⟩) n6 n6)).heap[M]? = some (.cells (slV n6 (gs ++ [g6]) n) 38 (0, 0))) := by
        show _ = _
        rw [heap_setCell_same _ _ _ _ _ _ hs6, ← HG2, slV_set g6 (by omega)]
      have HROW : Hid (∀ i g, (gs ++ [g6])[i]? = some g → g ≠ M ∧ (w6.setCell ⟨M, 2 * s + p, none⟩ (.slice (some ⟨g6, 0, none⟩) n6 n6)).heap[g]? = some (.cells (vfs (rowF n6 (halfF k (carN gr) i))) 5 (0, 0))) := by
        intro i g hi
        by_cases hjk : i < gs.length
        · rw [List.getElem?_append_left hjk] at hi
          obtain ⟨h1, h2⟩ := HR.out i g hi
          exact ⟨h1, hW _ _ h1 (heap_later (HR5b.out _ _ h2) hb6)⟩
        · have hj2 := (List.getElem?_eq_some_iff.1 hi).1
          simp only [List.length_append, List.length_singleton] at hj2
          obtain rfl : i = 2 * s + p := by omega
          rw [List.getElem?_append_right (by omega), show 2 * s + p - gs.length = 0 from by omega] at hi
          obtain rfl : g6 = g := by simpa using hi
          exact ⟨hg6M, hW _ _ hg6M hh6⟩
      have hB6 := HB5.out.trans (hb6.mono HB5.out.size)
      have hBX := hB6.setCell (p := ⟨M, 2 * s + p, none⟩) (by show w.heap.size ≤ M; omega) (.slice (some ⟨g6, 0, none⟩) n6 n6)
      have HBX : Hid _ := hBX
      have hX0 := holds_later HH5.out hb6
      have HHX : Hid (Holds (w6.setCell ⟨M, 2 * s + p, none⟩ (.slice (some ⟨g6, 0, none⟩) n6 n6)) [(M, .cells (slV n6 (gs ++ [g6]) n) 38 (0, 0)), (w1.heap.size, .cells #[.int .i64 t, .int .i64 k, .slice (some ⟨g1, 0, none⟩) m1 m1] 42 (0, 0)), (g1, .cells (vfs (genM k r)) 5 (0, 0)), (w.heap.size, .cells #[.int .i64 0, .int .i64 0, .slice none 0 0] 42 (0, 0))]) :=
        holds_cons (holds_cons (holds_cons (holds_cons (holds_nil _) (hW _ _ (by omega) (holds_at hX0 4 rfl))) (hW _ _ (hkind_ne (holds_at hX0 3 rfl) hs6 (by decide)) (holds_at hX0 3 rfl))) (hW _ _ (by omega) (holds_at hX0 2 rfl))) HT6.out
      clear hs6 hb6 hh6 hW hB6 hBX hX0 hn6 c1 c2 HG2
      go_wp2
      refine ⟨⟨2 * s + p + 1, gs ++ [g6], by omega, by go_num, by simp [HGS.out], HBX.out, HHX.out, HROW.out⟩, by simp [intOf]; omega⟩
    · obtain rfl : j = n := by omega
      have k1 := holds_at HH.out 0 rfl
      go_wp2_with fail
      refine Calls.mono (of_F c j j _ ((List.range j).map fun i => rowF c (halfF k (carN gr) i)) _ (by omega) (by simp) (by omega) (fun x hx => ?_) (.inr ⟨M, 0, rfl, fun i x hx => ?_⟩)) ?_
      · obtain ⟨i, _, rfl⟩ := List.mem_map.1 hx
        exact rowF_len _ _
      · simp only [List.getElem?_map, Option.map_eq_some_iff] at hx
        obtain ⟨l, hi, rfl⟩ := hx
        obtain ⟨hjk, hi2⟩ := List.getElem?_eq_some_iff.1 hi
        simp only [List.length_range] at hjk
        simp only [List.getElem_range] at hi2
        subst hi2
        have hjg : i < gs.length := by rw [HGS.out]; exact hjk
        have hgj : gs[i]? = some gs[i] := List.getElem?_eq_getElem hjg
        refine ⟨some ⟨gs[i], 0, none⟩, c, ?_, row8_own (HR.out i _ hgj).2⟩
        rw [Nat.zero_add, rowF_len]
        exact cellAt k1 i _ (slV_at hjg)
      rintro e w5 ⟨g, m, rfl, hm, hg, hh, hb5⟩
      rw [← grid_flat, ← HHM.out] at hh
      have k2 := heap_later (holds_at HH.out 3 rfl) hb5
      have c4 := cellAt k2 0 _ rfl
      have c5 := cellAt k2 1 _ rfl
      have c6 := cellAt k2 2 _ rfl
      have d4 : w5.frozen? ⟨w.heap.size, 0, none⟩ = false := frozen_of_row _ _ _ _ _ k2
      have d5 : w5.frozen? ⟨w.heap.size, 1, none⟩ = false := frozen_of_row _ _ _ _ _ k2
      have d6 : w5.frozen? ⟨w.heap.size, 2, none⟩ = false := frozen_of_row _ _ _ _ _ k2
      have HMM : Hid _ := hm
      have HHH : Hid _ := hh
      have HBW : Hid (Below w.heap.size w w5) := HB.out.trans (hb5.mono HB.out.size)
      have hgw : w.heap.size < g := by
        have h1 := ltHeap k1
        omega
      clear hm hh hb5 k2 k1
      go_wp2
      refine bodyPost_ret (v := .tuple #[.agg #[.int .i64 j, .int .i64 c, .slice (some ⟨g, 0, none⟩) m m], .nilIface]) (by simp [results, Tryd.results18, go_sem, c4, c5, c6]) rfl ⟨g, m, rfl, HMM.out, by omega, ?_, ?_⟩
      · rw [heap_setCell_other _ _ _ _ (by show g ≠ w.heap.size; omega), heap_setCell_other _ _ _ _ (by show g ≠ w.heap.size; omega), heap_setCell_other _ _ _ _ (by show g ≠ w.heap.size; omega)]
        exact HHH.out
      · exact ((HBW.out.setCell (by simp) _).setCell (by simp) _).setCell (by simp) _
end Go.Proofs.YtlcaodnimnghoaaDoor

/- What small numbers in decimal, and names of halves, answer: the library's Itoa, nameOf, Name, Parse of package half, the document's own Number and Name; nothing that was there turns. -/
namespace Go.Proofs.YtlcaodnimnghoaaDoor
open Go.RowKit Gf
set_option linter.unusedVariables false
set_option maxRecDepth 20000
/-- a number below a hundred in decimal -/
def numB (n : Nat) : List UInt8 := if n < 10 then [UInt8.ofNat (48 + n)] else [UInt8.ofNat (48 + n / 10), UInt8.ofNat (48 + n % 10)]
/-- bytes as a string -/
def strB (l : List UInt8) : ByteArray := ⟨l.toArray⟩
theorem numB_dec {n : Nat} (h : n < 100) : Lib.decDigits n = numB n := by
  by_cases h1 : n < 10
  · rw [Lib.decDigits_one h1, numB, if_pos h1]
  · rw [Lib.decDigits_two h1 h, numB, if_neg h1]
theorem small_ba (x : ByteArray) (l : List UInt8) (h : x.data.toList = l) : x = strB l := by
  subst h
  cases x
  simp [strB]
theorem extr_data (x : ByteArray) (i j : Nat) : (x.extract i j).data.toList = (x.data.toList.drop i).take (j - i) := by
  simp [ByteArray.data_extract]
set_option maxHeartbeats 2000000 in
set_option maxRecDepth 100000 in
theorem small_F (i : Nat) (h : i < 100) (w : World) : Calls Tryd.prog 69 #[.int .i64 i] w fun e w' => e = .returned (.string (strB (numB i))) ∧ w = w' := by
  rw [← numB_dec h]
  go_enter Tryd.func69, Tryd.ntmps69
  go_name_bytes_deep 45 SM hSM
  have eSM : SM = Lib.smalls := by rw [← hSM]; decide +kernel
  subst eSM
  clear hSM
  go_name_bytes_deep 30 DG hDG
  have eDG : DG = Lib.digits36 := by rw [← hDG]; decide +kernel
  subst eDG
  clear hDG
  by_cases h10 : i < 10
  · have hsl : ∀ w, (Instr.slice 9 (.string Lib.digits36) (some (.int .i64 (i : Int))) (some (.int .i64 ((i : Int) + 1))) none).run Tryd.prog w = .ok (.string (Lib.digits36.extract i (i + 1))) w := fun w => by
      rw [run_slice_string w 9 Lib.digits36 .i64 .i64 _ _ Tryd.underlying9 (by omega) (by omega) (by rw [Lib.digits36_size]; omega), show ((i : Int)).toNat = i by omega, show ((i : Int) + 1).toNat = i + 1 by omega]
    go_wp2
    go_ret
    refine ⟨?_, rfl⟩
    show Ending.returned (Value.string (Lib.digits36.extract i (i + 1))) = _
    rw [small_ba (Lib.digits36.extract i (i + 1)) (Lib.decDigits i) (by rw [extr_data]; exact Lib.digits36_piece h10)]
  · have hsl : ∀ w, (Instr.slice 9 (.string Lib.smalls) (some (.int .i64 ((i : Int) * 2))) (some (.int .i64 ((i : Int) * 2 + 2))) none).run Tryd.prog w = .ok (.string (Lib.smalls.extract (i * 2) (i * 2 + 2))) w := fun w => by
      rw [run_slice_string w 9 Lib.smalls .i64 .i64 _ _ Tryd.underlying9 (by omega) (by omega) (by rw [Lib.smalls_size]; omega), show ((i : Int) * 2).toNat = i * 2 by omega, show ((i : Int) * 2 + 2).toNat = i * 2 + 2 by omega]
    go_wp2
    go_ret
    refine ⟨?_, rfl⟩
    show Ending.returned (Value.string (Lib.smalls.extract (i * 2) (i * 2 + 2))) = _
    rw [small_ba (Lib.smalls.extract (i * 2) (i * 2 + 2)) (Lib.decDigits i) (by rw [extr_data]; exact Lib.smalls_piece h10 h)]
set_option maxRecDepth 100000 in
theorem itoa_F (i : Nat) (h : i < 100) (w : World) : Calls Tryd.prog 56 #[.int .i64 i] w fun e w' => e = .returned (.string (strB (numB i))) ∧ w = w' := by
  go_enter Tryd.func56, Tryd.ntmps56
  go_wp2_with (first
    | (go_at_call 69; refine (small_F i h _).mono ?_; rintro e w' ⟨rfl, rfl⟩)
    | go_in)
  go_ret
  exact ⟨rfl, rfl⟩
/-- a half's name -/
def nameB (k h : Nat) : List UInt8 := (if h / 2 < k then 100 :: numB (h / 2) else 112 :: numB (h / 2 - k)) ++ [if h % 2 = 0 then 97 else 98]
theorem ab0 : (⟨#[97, 98]⟩ : ByteArray).extract 0 1 = strB [97] := by decide +kernel
theorem ab1 : (⟨#[97, 98]⟩ : ByteArray).extract 1 2 = strB [98] := by decide +kernel
theorem strB_app (a b : List UInt8) : strB a ++ strB b = strB (a ++ b) := by
  apply ByteArray.ext
  simp [strB]
theorem strB_size (l : List UInt8) : (strB l).size = l.length := by simp [strB, ByteArray.size]
theorem numB_size (n : Nat) : (strB (numB n)).size ≤ 2 := by
  rw [strB_size, numB]
  split <;> simp
theorem strB_one (c : UInt8) : (⟨#[c]⟩ : ByteArray) = strB [c] := rfl
theorem strB_nil : (⟨#[]⟩ : ByteArray) = strB [] := rfl
theorem strB_inj {a b : List UInt8} (h : strB a = strB b) : a = b := by
  have := congrArg (fun x => x.data.toList) h
  simpa [strB] using this
theorem nameOf_d0 (k h s : Nat) (w : World) (hh : h = 2 * s + 0) (hs : s < 100) (hk : k ≤ 100) (hlt : s < k) :
    Calls Tryd.prog 42 #[.int .i64 k, .agg #[.int .i64 s, .int .i64 0]] w fun e w' => e = .returned (.string (strB (nameB k h))) ∧ Below w.heap.size w w' := by
  have hn : nameB k h = 100 :: numB s ++ [97] := by
    rw [nameB, show h / 2 = s by omega, if_pos hlt, if_pos (by omega)]
  clear hh
  have HN : Hid _ := hn
  clear hn
  go_enter Tryd.func42, Tryd.ntmps42
  go_wp2_with fail

  refine (itoa_F s (by omega) _).mono ?_
  rintro e w' ⟨rfl, rfl⟩
  have hz := numB_size s
  go_wp2
  go_ret
  refine ⟨?_, (Below.refl w.heap.size w).alloc (Nat.le_refl _) _⟩
  show Ending.returned (Value.string (⟨#[100]⟩ ++ strB (numB s) ++ ByteArray.extract ⟨#[97, 98]⟩ 0 1)) = _
  rw [ab0, strB_one, strB_app, strB_app, HN.out]
  rfl
theorem nameOf_d1 (k h s : Nat) (w : World) (hh : h = 2 * s + 1) (hs : s < 100) (hk : k ≤ 100) (hlt : s < k) :
    Calls Tryd.prog 42 #[.int .i64 k, .agg #[.int .i64 s, .int .i64 1]] w fun e w' => e = .returned (.string (strB (nameB k h))) ∧ Below w.heap.size w w' := by
  have hn : nameB k h = 100 :: numB s ++ [98] := by
    rw [nameB, show h / 2 = s by omega, if_pos hlt, if_neg (by omega)]
  clear hh
  have HN : Hid _ := hn
  clear hn
  go_enter Tryd.func42, Tryd.ntmps42
  go_wp2_with fail

  refine (itoa_F s (by omega) _).mono ?_
  rintro e w' ⟨rfl, rfl⟩
  have hz := numB_size s
  go_wp2
  go_ret
  refine ⟨?_, (Below.refl w.heap.size w).alloc (Nat.le_refl _) _⟩
  show Ending.returned (Value.string (⟨#[100]⟩ ++ strB (numB s) ++ ByteArray.extract ⟨#[97, 98]⟩ 1 2)) = _
  rw [ab1, strB_one, strB_app, strB_app, HN.out]
  rfl
theorem nameOf_p0 (k h s : Nat) (w : World) (hh : h = 2 * s + 0) (hs : s < 100) (hk : k ≤ 100) (hlt : ¬ s < k) :
    Calls Tryd.prog 42 #[.int .i64 k, .agg #[.int .i64 s, .int .i64 0]] w fun e w' => e = .returned (.string (strB (nameB k h))) ∧ Below w.heap.size w w' := by
  have hn : nameB k h = 112 :: numB (s - k) ++ [97] := by
    rw [nameB, show h / 2 = s by omega, if_neg hlt, if_pos (by omega)]
  clear hh
  obtain ⟨q, rfl⟩ : ∃ q, s = k + q := ⟨s - k, by omega⟩
  rw [show k + q - k = q by omega] at hn
  have E : Hid ((k : Int) + q - k = q) := by show _ = _; omega
  have HN : Hid _ := hn
  clear hn
  go_enter Tryd.func42, Tryd.ntmps42
  go_wp2_with fail
  rw [E.out]
  refine (itoa_F q (by omega) _).mono ?_
  rintro e w' ⟨rfl, rfl⟩
  have hz := numB_size q
  go_wp2
  go_ret
  refine ⟨?_, (Below.refl w.heap.size w).alloc (Nat.le_refl _) _⟩
  show Ending.returned (Value.string (⟨#[112]⟩ ++ strB (numB q) ++ ByteArray.extract ⟨#[97, 98]⟩ 0 1)) = _
  rw [ab0, strB_one, strB_app, strB_app, HN.out]
  rfl
theorem nameOf_p1 (k h s : Nat) (w : World) (hh : h = 2 * s + 1) (hs : s < 100) (hk : k ≤ 100) (hlt : ¬ s < k) :
    Calls Tryd.prog 42 #[.int .i64 k, .agg #[.int .i64 s, .int .i64 1]] w fun e w' => e = .returned (.string (strB (nameB k h))) ∧ Below w.heap.size w w' := by
  have hn : nameB k h = 112 :: numB (s - k) ++ [98] := by
    rw [nameB, show h / 2 = s by omega, if_neg hlt, if_neg (by omega)]
  clear hh
  obtain ⟨q, rfl⟩ : ∃ q, s = k + q := ⟨s - k, by omega⟩
  rw [show k + q - k = q by omega] at hn
  have E : Hid ((k : Int) + q - k = q) := by show _ = _; omega
  have HN : Hid _ := hn
  clear hn
  go_enter Tryd.func42, Tryd.ntmps42
  go_wp2_with fail
  rw [E.out]
  refine (itoa_F q (by omega) _).mono ?_
  rintro e w' ⟨rfl, rfl⟩
  have hz := numB_size q
  go_wp2
  go_ret
  refine ⟨?_, (Below.refl w.heap.size w).alloc (Nat.le_refl _) _⟩
  show Ending.returned (Value.string (⟨#[112]⟩ ++ strB (numB q) ++ ByteArray.extract ⟨#[97, 98]⟩ 1 2)) = _
  rw [ab1, strB_one, strB_app, strB_app, HN.out]
  rfl
theorem nameOf_F (k h s p : Nat) (w : World) (hh : h = 2 * s + p) (hp : p < 2) (hs : s < 100) (hk : k ≤ 100) :
    Calls Tryd.prog 42 #[.int .i64 k, .agg #[.int .i64 s, .int .i64 p]] w fun e w' => e = .returned (.string (strB (nameB k h))) ∧ Below w.heap.size w w' := by
  rcases (show p = 0 ∨ p = 1 by omega) with rfl | rfl
  · by_cases hlt : s < k
    · exact nameOf_d0 k h s w hh hs hk hlt
    · exact nameOf_p0 k h s w hh hs hk hlt
  · by_cases hlt : s < k
    · exact nameOf_d1 k h s w hh hs hk hlt
    · exact nameOf_p1 k h s w hh hs hk hlt
def dig (d : Nat) : UInt8 := UInt8.ofNat (48 + d)
theorem numB_one {n : Nat} (h : n < 10) : numB n = [dig n] := if_pos h
theorem numB_two {n : Nat} (h : ¬ n < 10) : numB n = [dig (n / 10), dig (n % 10)] := if_neg h
theorem strB_list (l : List UInt8) : (strB l).toList = l := by simp [strB]
theorem strB_some {l : List UInt8} (h : l ≠ []) : (strB l).toList.isEmpty = false := by rw [strB_list]; cases l with | nil => exact absurd rfl h | cons => rfl
theorem numB_ne (n : Nat) : numB n ≠ [] := by rw [numB]; split <;> simp
def emptyN : Value → Nat | .string b => if b.size = 0 then 1 else 0 | _ => 0
theorem vf_digit {d : Nat} (h : d < 10) : Value.int .u8 (48 + (d : Int)) = vf (dig d) := by
  have : (UInt8.ofNat (48 + d)).toNat = 48 + d := by rw [UInt8.toNat_ofNat']; omega
  simp only [vf, dig, this]
  simp
theorem conv_digit {d : Nat} (h : d < 10) (w : World) : (convert 38 9 (.slice (some ⟨w.heap.size, 0, none⟩) 1 1)).run Tryd.prog (w.alloc (.cells #[.int .u8 (48 + (d : Int))] 5)) = .ok (.string (strB [dig d])) (w.alloc (.cells #[.int .u8 (48 + (d : Int))] 5)) := by
  rw [vf_digit h]
  exact conv8 (xs := [dig d]) rfl (row8_own (heap_alloc_last w (.cells (vfs [dig d]) 5)))
set_option maxHeartbeats 1000000 in
/-- the document's own number in decimal -/
theorem rnumber_F (n : Nat) (w : World) (h : n < 100) : Calls Tryd.prog 43 #[.int .i64 n] w fun e w' => e = .returned (.string (strB (numB n))) ∧ Below w.heap.size w w' := by
  obtain ⟨q, d, hd, hq, e1, e2, en⟩ : ∃ q d : Nat, d < 10 ∧ q < 10 ∧ (n : Int) % 10 = d ∧ (n : Int) / 10 = q ∧ n = 10 * q + d := ⟨n / 10, n % 10, by omega, by omega, by omega, by omega, by omega⟩
  have HE : Hid _ := en
  clear en
  go_enter Tryd.func43, Tryd.ntmps43
  go_wp2
  go_loopw [0, 3] (fun v s wr => Below w.heap.size w wr ∧ (v = .int .i64 n ∧ s = .string ⟨#[]⟩ ∨ 1 ≤ q ∧ v = .int .i64 q ∧ s = .string (strB [dig d]) ∨ v = .int .i64 0 ∧ s = .string (strB (numB n)))) (fun v s wr => (intOf v).toNat + emptyN s)
  case atStart => exact ⟨Below.refl _ _, .inl ⟨rfl, rfl⟩⟩
  case round =>
    obtain ⟨hb, ⟨rfl, rfl⟩ | ⟨h10, rfl, rfl⟩ | ⟨rfl, rfl⟩⟩ := hrel
    · have HB : Hid _ := hb
      clear hb
      have hcv := conv_digit hd wr
      go_wp2
      have hB2 := HB.out.alloc HB.out.size (.cells #[.int .u8 (48 + (d : Int))] 5)
      have hst : strB [dig d] ++ ⟨#[]⟩ = strB [dig d] := strB_app [dig d] []
      rw [hst]
      by_cases hq0 : q = 0
      · subst hq0
        have hn : n = d := by have := HE.out; omega
        refine ⟨⟨hB2, .inr (.inr ⟨rfl, ?_⟩)⟩, ?_⟩
        · rw [numB_one (by omega), hn]
        · simp [intOf, emptyN, strB_size, strB_nil]
      · refine ⟨⟨hB2, .inr (.inl ⟨by omega, rfl, rfl⟩)⟩, ?_⟩
        have := HE.out
        simp [intOf, emptyN, strB_size, strB_nil]; omega
    · have HB : Hid _ := hb
      clear hb
      have hcv := conv_digit hq wr
      have hse := strB_some (show [dig d] ≠ [] by simp)
      have e3 : (q : Int) % 10 = q := by omega
      have e4 : (q : Int) / 10 = 0 := by omega
      go_wp2
      have hB2 := HB.out.alloc HB.out.size (.cells #[.int .u8 (48 + (q : Int))] 5)
      have hst : strB [dig q] ++ strB [dig d] = strB [dig q, dig d] := strB_app [dig q] [dig d]
      rw [hst]
      have hn := HE.out
      refine ⟨⟨hB2, .inr (.inr ⟨rfl, ?_⟩)⟩, ?_⟩
      · rw [numB_two (by omega), show n / 10 = q by omega, show n % 10 = d by omega]
      · simp [intOf, emptyN, strB_size]; omega
    · have HB : Hid _ := hb
      clear hb
      have hse := strB_some (numB_ne n)
      go_wp2
      go_ret
      exact ⟨rfl, HB.out⟩
/-- the document's own name of a half -/
theorem rname_F (k h : Nat) (w : World) (hh : h < 200) (hk : k ≤ 100) : Calls Tryd.prog 25 #[.int .i64 k, .int .i64 h] w fun e w' => e = .returned (.string (strB (nameB k h))) ∧ Below w.heap.size w w' := by
  obtain ⟨s, p, hp, hs, e1, e2, en⟩ : ∃ s p : Nat, p < 2 ∧ s < 100 ∧ (h : Int) % 2 = p ∧ (h : Int) / 2 = s ∧ h = 2 * s + p := ⟨h / 2, h % 2, by omega, by omega, by omega, by omega, by omega⟩
  have HE : Hid _ := en
  clear en
  go_enter Tryd.func25, Tryd.ntmps25
  go_wp2_with fail
  refine (rnumber_F s _ hs).mono ?_
  rintro e w1 ⟨rfl, hb1⟩
  have HB1 : Hid _ := hb1
  clear hb1
  have hz := numB_size s
  by_cases hlt : k ≤ s
  · obtain ⟨q, rfl⟩ : ∃ q, s = k + q := ⟨s - k, by omega⟩
    have E : (k : Int) + q - k = q := by omega
    have hz2 := numB_size q
    go_wp2_with fail
    refine (rnumber_F q _ (by omega)).mono ?_
    rintro e w2 ⟨rfl, hb2⟩
    have HB2 : Hid (Below w.heap.size w w2) := HB1.out.trans (hb2.mono HB1.out.size)
    clear hb2
    have hn : nameB k h = 112 :: numB q ++ [if p = 0 then 97 else 98] := by
      have := HE.out
      rw [nameB, show h / 2 = k + q by omega, if_neg (by omega), show k + q - k = q by omega, show h % 2 = p by omega]
    have HN : Hid _ := hn
    clear hn
    rcases (show p = 0 ∨ p = 1 by omega) with rfl | rfl
    · go_wp2
      go_ret
      refine ⟨?_, HB2.out⟩
      show Ending.returned (Value.string (⟨#[112]⟩ ++ strB (numB q) ++ ⟨#[97]⟩)) = _
      rw [strB_one, strB_app, strB_one, strB_app, HN.out]
      rfl
    · go_wp2
      go_ret
      refine ⟨?_, HB2.out⟩
      show Ending.returned (Value.string (⟨#[112]⟩ ++ strB (numB q) ++ ⟨#[98]⟩)) = _
      rw [strB_one, strB_app, strB_one, strB_app, HN.out]
      rfl
  · have hn : nameB k h = 100 :: numB s ++ [if p = 0 then 97 else 98] := by
      have := HE.out
      rw [nameB, show h / 2 = s by omega, if_pos (by omega), show h % 2 = p by omega]
    have HN : Hid _ := hn
    clear hn
    rcases (show p = 0 ∨ p = 1 by omega) with rfl | rfl
    · go_wp2
      go_ret
      refine ⟨?_, HB1.out⟩
      show Ending.returned (Value.string (⟨#[100]⟩ ++ strB (numB s) ++ ⟨#[97]⟩)) = _
      rw [strB_one, strB_app, strB_one, strB_app, HN.out]
      rfl
    · go_wp2
      go_ret
      refine ⟨?_, HB1.out⟩
      show Ending.returned (Value.string (⟨#[100]⟩ ++ strB (numB s) ++ ⟨#[98]⟩)) = _
      rw [strB_one, strB_app, strB_one, strB_app, HN.out]
      rfl
end Go.Proofs.YtlcaodnimnghoaaDoor

/- What Name and Parse of package half answer, at all numbers and texts; unlike halves have unlike names; nothing that was there turns. -/
namespace Go.Proofs.YtlcaodnimnghoaaDoor
open Go.RowKit Gf
set_option linter.unusedVariables false
set_option maxRecDepth 20000
theorem strB_eq {a b : List UInt8} (h : a = b) : ((strB a).toList == (strB b).toList) = true := by rw [h]; exact beq_self_eq_true _
theorem strB_ne {a b : List UInt8} (h : ¬ a = b) : ((strB a).toList == (strB b).toList) = false := by rw [strB_list, strB_list]; exact beq_eq_false_iff_ne.2 h
theorem nameB_inj : ∀ k < 15, ∀ h < 32, ∀ j < 32, nameB k h = nameB k j → h = j := by decide +kernel
theorem nameB_len : ∀ k < 15, ∀ h < 32, 3 ≤ (nameB k h).length ∧ (nameB k h).length ≤ 4 := by decide +kernel
set_option maxHeartbeats 1000000 in
theorem name_ok (k r h : Nat) (w : World) (h1 : 1 ≤ k) (h2 : 2 ≤ r) (h3 : k + r ≤ 16) (hh : h < 2 * (k + r)) :
    Calls Tryd.prog 23 #[.int .i64 k, .int .i64 r, .int .i64 h] w fun e w' => e = .returned (.tuple #[.string (strB (nameB k h)), .nilIface]) ∧ Below w.heap.size w w' := by
  obtain ⟨s, p, hp, hs, en⟩ : ∃ s p : Nat, p < 2 ∧ s < k + r ∧ h = 2 * s + p := ⟨h / 2, h % 2, by omega, by omega, by omega⟩
  have HE : Hid _ := en
  clear en hh
  go_enter Tryd.func23, Tryd.ntmps23
  go_wp2_with fail
  refine (find_ok k r h s p _ h1 h2 h3 HE.out hp hs).mono ?_
  rintro e w1 ⟨rfl, hb1⟩
  have HB1 : Hid _ := hb1.alloc hb1.size (.cells #[.int .i64 s, .int .i64 p] 66)
  clear hb1
  go_wp2_with fail
  refine (nameOf_F k h s p _ HE.out hp (by omega) (by omega)).mono ?_
  rintro e w2 ⟨rfl, hb2⟩
  have HB2 : Hid (Below w.heap.size w w2) := HB1.out.trans (hb2.mono HB1.out.size)
  clear hb2
  go_wp2
  go_ret2
  exact ⟨rfl, HB2.out⟩
theorem name_err (k r h : Int) (s : Addr) (w : World) (hF : ∀ w0 : World, w0 = w → Calls Tryd.prog 34 #[.int .i64 k, .int .i64 r, .int .i64 h] w0 fun e w' => e = .returned (.tuple #[.agg #[.int .i64 0, .int .i64 0], errAt s]) ∧ Below w0.heap.size w0 w') :
    Calls Tryd.prog 23 #[.int .i64 k, .int .i64 r, .int .i64 h] w fun e w' => e = .returned (.tuple #[.string (strB []), errAt s]) ∧ Below w.heap.size w w' := by
  have HF : Hid _ := hF
  clear hF
  unfold errAt at HF ⊢
  go_enter Tryd.func23, Tryd.ntmps23
  go_wp2_with fail
  refine (HF.out _ rfl).mono ?_
  rintro e w1 ⟨rfl, hb⟩
  have HB : Hid _ := hb
  clear hb
  go_wp2
  go_ret2
  exact ⟨rfl, HB.out.alloc HB.out.size _⟩
theorem name_bad (k r h : Int) (w : World) (s : Addr) (hs : w.cell? ⟨0, 0, none⟩ = some (errAt s)) (hk0 : -9223372036854775808 ≤ k) (hk1 : k ≤ 9223372036854775807) (hr0 : -9223372036854775808 ≤ r) (hr1 : r ≤ 9223372036854775807) (hL : ¬ LegalP k r) :
    Calls Tryd.prog 23 #[.int .i64 k, .int .i64 r, .int .i64 h] w fun e w' => e = .returned (.tuple #[.string (strB []), errAt s]) ∧ Below w.heap.size w w' :=
  name_err k r h s w fun w0 e => find_bad k r h w0 s (e ▸ hs) hk0 hk1 hr0 hr1 hL
theorem name_no (k r : Nat) (h : Int) (w : World) (s : Addr) (hs : w.cell? ⟨1, 0, none⟩ = some (errAt s)) (h1 : 1 ≤ k) (h2 : 2 ≤ r) (h3 : k + r ≤ 16) (hh : ¬ (0 ≤ h ∧ h < 2 * (k + r))) :
    Calls Tryd.prog 23 #[.int .i64 k, .int .i64 r, .int .i64 h] w fun e w' => e = .returned (.tuple #[.string (strB []), errAt s]) ∧ Below w.heap.size w w' :=
  name_err k r h s w fun w0 e => find_no k r h w0 s (e ▸ hs) h1 h2 h3 hh
theorem parse_bad (k r : Int) (b : ByteArray) (w : World) (s : Addr) (hs : w.cell? ⟨0, 0, none⟩ = some (errAt s)) (hk0 : -9223372036854775808 ≤ k) (hk1 : k ≤ 9223372036854775807) (hr0 : -9223372036854775808 ≤ r) (hr1 : r ≤ 9223372036854775807) (hL : ¬ LegalP k r) :
    Calls Tryd.prog 24 #[.int .i64 k, .int .i64 r, .string b] w fun e w' => e = .returned (.tuple #[.int .i64 0, errAt s]) ∧ w = w' := by
  have HS : Hid _ := hs
  have H : Hid _ := hL
  clear hs hL
  go_enter Tryd.func24, Tryd.ntmps24
  go_wp2_with fail
  refine (bcheck_bad k r _ s HS.out hk0 hk1 hr0 hr1 H.out).mono ?_
  unfold errAt
  rintro e w' ⟨rfl, rfl⟩
  go_wp2
  go_ret2
  exact ⟨rfl, rfl⟩
/-- which half a name is -/
def ParsedAs (k n : Nat) (l : List UInt8) (s : Addr) (v : Value) : Prop :=
  (∃ h : Nat, h < n ∧ nameB k h = l ∧ v = .tuple #[.int .i64 h, .nilIface]) ∨ (∀ h, h < n → nameB k h ≠ l) ∧ v = .tuple #[.int .i64 0, errAt s]
set_option maxHeartbeats 1000000 in
theorem parse_F (k r : Nat) (l : List UInt8) (w : World) (s : Addr) (hs : w.cell? ⟨1, 0, none⟩ = some (errAt s)) (h1 : 1 ≤ k) (h2 : 2 ≤ r) (h3 : k + r ≤ 16) :
    Calls Tryd.prog 24 #[.int .i64 k, .int .i64 r, .string (strB l)] w fun e w' => (∃ v, e = .returned v ∧ ParsedAs k (2 * (k + r)) l s v) ∧ Below w.heap.size w w' := by
  have HS : Hid _ := hs
  clear hs
  go_enter Tryd.func24, Tryd.ntmps24
  go_wp2_with fail
  refine (bcheck_ok _ _ _ h1 h2 h3).mono ?_
  rintro e w' ⟨rfl, rfl⟩
  go_wp2
  go_loopw [20] (fun i wr => ∃ j : Nat, j ≤ 2 * (k + r) ∧ i = .int .i64 j ∧ Below w.heap.size w wr ∧ ∀ h, h < j → nameB k h ≠ l) (fun i _ => 2 * (k + r) - (intOf i).toNat)
  case atStart => exact ⟨0, by omega, rfl, Below.refl _ _, fun h hh => absurd hh (Nat.not_lt_zero h)⟩
  case round =>
    obtain ⟨j, hj, rfl, hb, hno⟩ := hrel
    have HB : Hid _ := hb
    have HNO : Hid _ := hno
    clear hb hno
    by_cases hlt : j < 2 * (k + r)
    · have a1 : (j : Int) < 2 * ((k : Int) + r) := by omega
      obtain ⟨s1, p, hp, hs1, en⟩ : ∃ s p : Nat, p < 2 ∧ s < k + r ∧ j = 2 * s + p := ⟨j / 2, j % 2, by omega, by omega, by omega⟩
      have HE : Hid _ := en
      clear en
      go_wp2_with fail
      refine (placeOf_F j s1 p _ HE.out hp (by omega)).mono ?_
      rintro e w2 ⟨rfl, hb2⟩
      have HB2 : Hid (Below w.heap.size w w2) := HB.out.trans (hb2.mono HB.out.size)
      clear hb2
      go_wp2_with fail
      refine (nameOf_F k j s1 p _ HE.out hp (by omega) (by omega)).mono ?_
      rintro e w3 ⟨rfl, hb3⟩
      have HB3 : Hid (Below w.heap.size w w3) := HB2.out.trans (hb3.mono HB2.out.size)
      clear hb3
      by_cases he : nameB k j = l
      · have hq := strB_eq he
        go_wp2
        go_ret2
        exact ⟨⟨_, rfl, .inl ⟨j, hlt, he, rfl⟩⟩, HB3.out⟩
      · have hq := strB_ne he
        go_wp2
        refine ⟨⟨j + 1, by omega, by go_num, HB3.out, fun h hh => ?_⟩, by simp [intOf]; omega⟩
        by_cases e : h = j
        · rw [e]; exact he
        · exact HNO.out h (by omega)
    · have a1 : ¬ (j : Int) < 2 * ((k : Int) + r) := by omega
      obtain rfl : j = 2 * (k + r) := by omega
      have hsx := cell_later HB.out HS.out
      have hg := World.block_lt_of_cell? _ _ hsx
      unfold errAt at hsx
      go_wp2
      go_region
      go_wp2
      go_ret2
      exact ⟨⟨_, rfl, .inr ⟨HNO.out, rfl⟩⟩, HB.out.drew⟩
end Go.Proofs.YtlcaodnimnghoaaDoor

/- What Row of package half answers, and Rows of numbers that aren't legal; alive of stage 5; nothing that was there turns. -/
namespace Go.Proofs.YtlcaodnimnghoaaDoor
open Go.RowKit Gf
set_option linter.unusedVariables false
set_option maxRecDepth 20000
set_option maxHeartbeats 1000000 in
theorem hrows_bad (k r : Int) (w : World) (s : Addr) (hs : w.cell? ⟨0, 0, none⟩ = some (errAt s)) (hk0 : -9223372036854775808 ≤ k) (hk1 : k ≤ 9223372036854775807) (hr0 : -9223372036854775808 ≤ r) (hr1 : r ≤ 9223372036854775807) (h : ¬ LegalP k r) :
    Calls Tryd.prog 18 #[.int .i64 k, .int .i64 r] w fun e w' => e = .returned (.tuple #[.agg #[.int .i64 0, .int .i64 0, .slice none 0 0], errAt s]) ∧ Below w.heap.size w w' := by
  have HB0 : Hid _ := (Below.refl w.heap.size w).alloc (Nat.le_refl _) (.cells #[.int .i64 0, .int .i64 0, .slice none 0 0] 42)
  have HA0 : Hid _ := holds_new (holds_nil w) #[.int .i64 0, .int .i64 0, .slice none 0 0] 42
  have HS : Hid _ := cell_later HB0.out hs
  have H : Hid _ := h
  clear h hs
  unfold errAt at *
  go_enter Tryd.func18, Tryd.ntmps18
  go_wp2_with fail
  refine Calls.mono (generator_bad k r _ s HS.out hk0 hk1 hr0 hr1 H.out) ?_
  unfold errAt
  rintro e w1 ⟨rfl, hb1⟩
  have HA1 : Hid _ := holds_alloc (holds_later HA0.out hb1) (.cells #[.int .i64 0, .int .i64 0, .slice none 0 0] 42)
  have hB1 := HB0.out.trans (hb1.mono HB0.out.size)
  have HB1 : Hid _ := hB1.alloc hB1.size (.cells #[.int .i64 0, .int .i64 0, .slice none 0 0] 42)
  have zz := hb1.size
  have k2 := holds_at (holds_later HA0.out hb1) 0 rfl
  have d4 : w1.frozen? ⟨w.heap.size, 0, none⟩ = false := frozen_of_row _ _ _ _ _ k2
  have d5 : w1.frozen? ⟨w.heap.size, 1, none⟩ = false := frozen_of_row _ _ _ _ _ k2
  have d6 : w1.frozen? ⟨w.heap.size, 2, none⟩ = false := frozen_of_row _ _ _ _ _ k2
  have c4 := cellAt k2 0 _ rfl
  have c5 := cellAt k2 1 _ rfl
  have c6 := cellAt k2 2 _ rfl
  have z4 := ltHeap k2
  have hbX : Hid _ := hb1
  clear hb1 hB1 k2
  go_wp2
  refine bodyPost_ret (v := .tuple #[.agg #[.int .i64 0, .int .i64 0, .slice none 0 0], .iface 121 (.pointer (some s))]) (by simp [results, Tryd.results18, go_sem, c4, c5, c6, z4]) rfl ⟨rfl, ?_⟩
  have hX := (((HB0.out.trans (hbX.out.mono HB0.out.size)).setCell (p := ⟨w.heap.size, 0, none⟩) (Nat.le_refl _) (.int .i64 0)).setCell (p := ⟨w.heap.size, 1, none⟩) (Nat.le_refl _) (.int .i64 0)).setCell (p := ⟨w.heap.size, 2, none⟩) (Nat.le_refl _) (.slice none 0 0)
  exact hX.alloc hX.size _
theorem rowAt_half {k r h : Nat} (hh : h < 2 * (k + r)) : rowAt (2 * k) (halfM k r) h = rowF (2 * k) (halfF k (carN (groupN k r)) h) := rowAt_grid hh
set_option maxHeartbeats 1000000 in
theorem hrow_F (k r h : Nat) (w : World) (s0 : Addr) (hs0 : w.cell? ⟨3, 0, none⟩ = some (errAt s0)) (h1 : 1 ≤ k) (h2 : 2 ≤ r) (h3 : k + r ≤ 16) (hh : h < 2 * (k + r)) :
    Calls Tryd.prog 17 #[.int .i64 k, .int .i64 r, .int .i64 h] w fun e w' => ∃ g cap, e = .returned (.tuple #[.slice (some ⟨g, 0, none⟩) (2 * k) cap, .nilIface]) ∧ w.heap.size ≤ g ∧ Has8 w' g (rowF (2 * k) (halfF k (carN (groupN k r)) h)) cap ∧ Below w.heap.size w w' := by
  obtain ⟨s, p, hp, hst, en⟩ : ∃ s p : Nat, p < 2 ∧ s < k + r ∧ h = 2 * s + p := ⟨h / 2, h % 2, by omega, by omega, by omega⟩
  have HE : Hid _ := en
  have HV : Hid _ := fun w s hs => hrows_F k r w s hs h1 h2 h3
  have hrh := rowAt_half hh
  have hml := halfM_len k r
  obtain ⟨n, hn⟩ : ∃ n, n = 2 * (k + r) := ⟨_, rfl⟩
  obtain ⟨c, hc⟩ : ∃ c, c = 2 * k := ⟨_, rfl⟩
  rw [← hn] at hh
  rw [← hn, ← hc] at HV hml
  rw [← hc] at hrh ⊢
  rw [← hrh]
  have hn32 : n ≤ 32 := by omega
  have hc32 : c ≤ 32 := by omega
  have HML : Hid _ := hml
  have HS : Hid _ := hs0
  clear en hrh hml hn hc hs0
  go_enter Tryd.func17, Tryd.ntmps17
  go_wp2_with fail
  refine (find_ok k r h s p _ h1 h2 h3 HE.out hp hst).mono ?_
  rintro e w1 ⟨rfl, hb1⟩
  have HB1 : Hid _ := hb1.alloc hb1.size (.cells #[.int .i64 s, .int .i64 p] 66)
  clear hb1
  go_wp2_with fail
  refine Calls.mono (HV.out _ s0 (cell_later HB1.out HS.out)) ?_
  rintro e w2 ⟨g2, m2, rfl, hm2, hg2, hh2, hb2⟩
  have HM2 : Hid _ := hm2
  have HA2 : Hid _ := holds_new (holds_cons (holds_nil w2) hh2) #[.int .i64 n, .int .i64 c, .slice (some ⟨g2, 0, none⟩) m2 m2] 42
  have hB2 := HB1.out.trans (hb2.mono HB1.out.size)
  have HB2 : Hid _ := hB2.alloc hB2.size (.cells #[.int .i64 n, .int .i64 c, .slice (some ⟨g2, 0, none⟩) m2 m2] 42)
  clear hb2 hh2 hm2 hB2
  have c1 := cellAt (holds_at HA2.out 0 rfl) 0 _ rfl
  have c2 := cellAt (holds_at HA2.out 0 rfl) 1 _ rfl
  have c3 := cellAt (holds_at HA2.out 0 rfl) 2 _ rfl
  have z3 := ltHeap (holds_at HA2.out 0 rfl)
  go_wp2_with fail
  refine Calls.mono (row_F n c m2 m2 h (some ⟨g2, 0, none⟩) (halfM k r) _ (by omega) (by omega) HM2.out HML.out (Nat.le_refl _) (holds_row HA2.out 1 rfl) (fun h => by cases h) hh) ?_
  rintro e w5 ⟨a5, cap5, rfl, hr5, hn5, h5, hb5⟩
  obtain ⟨g5, rfl, hg5, h8⟩ := h5 (by simp)
  have H8 : Hid _ := h8
  have HB5 : Hid (Below w.heap.size w w5) := HB2.out.trans (hb5.mono HB2.out.size)
  have hz := HB2.out.size
  clear hb5 hr5 hn5 h5 h8 c1 c2 c3 z3
  go_wp2
  go_ret2
  exact ⟨g5, cap5, rfl, by omega, H8.out, HB5.out⟩
theorem hrow_err (k r h : Int) (s : Addr) (w : World) (hF : ∀ w0 : World, w0 = w → Calls Tryd.prog 34 #[.int .i64 k, .int .i64 r, .int .i64 h] w0 fun e w' => e = .returned (.tuple #[.agg #[.int .i64 0, .int .i64 0], errAt s]) ∧ Below w0.heap.size w0 w') :
    Calls Tryd.prog 17 #[.int .i64 k, .int .i64 r, .int .i64 h] w fun e w' => e = .returned (.tuple #[.slice none 0 0, errAt s]) ∧ Below w.heap.size w w' := by
  have HF : Hid _ := hF
  clear hF
  unfold errAt at HF ⊢
  go_enter Tryd.func17, Tryd.ntmps17
  go_wp2_with fail
  refine (HF.out _ rfl).mono ?_
  rintro e w1 ⟨rfl, hb⟩
  have HB : Hid _ := hb
  clear hb
  go_wp2
  go_ret2
  exact ⟨rfl, HB.out.alloc HB.out.size _⟩
theorem hrow_bad (k r h : Int) (w : World) (s : Addr) (hs : w.cell? ⟨0, 0, none⟩ = some (errAt s)) (hk0 : -9223372036854775808 ≤ k) (hk1 : k ≤ 9223372036854775807) (hr0 : -9223372036854775808 ≤ r) (hr1 : r ≤ 9223372036854775807) (hL : ¬ LegalP k r) :
    Calls Tryd.prog 17 #[.int .i64 k, .int .i64 r, .int .i64 h] w fun e w' => e = .returned (.tuple #[.slice none 0 0, errAt s]) ∧ Below w.heap.size w w' :=
  hrow_err k r h s w fun w0 e => find_bad k r h w0 s (e ▸ hs) hk0 hk1 hr0 hr1 hL
theorem hrow_no (k r : Nat) (h : Int) (w : World) (s : Addr) (hs : w.cell? ⟨1, 0, none⟩ = some (errAt s)) (h1 : 1 ≤ k) (h2 : 2 ≤ r) (h3 : k + r ≤ 16) (hh : ¬ (0 ≤ h ∧ h < 2 * (k + r))) :
    Calls Tryd.prog 17 #[.int .i64 k, .int .i64 r, .int .i64 h] w fun e w' => e = .returned (.tuple #[.slice none 0 0, errAt s]) ∧ Below w.heap.size w w' :=
  hrow_err k r h s w fun w0 e => find_no k r h w0 s (e ▸ hs) h1 h2 h3 hh
theorem alive5_row : rowF (2 * 1) (halfF 1 (carN (groupN 1 2)) 5) = [1, 142] := by decide +kernel
theorem alive5_name : strB (nameB 4 9) = ⟨#[112, 48, 98]⟩ := by decide +kernel
set_option maxHeartbeats 2000000 in
theorem alive5_ok (w : World) (s0 : Addr) (hs0 : w.cell? ⟨3, 0, none⟩ = some (errAt s0)) : Calls Tryd.prog 9 #[] w fun e w' => e = .returned (.bool true) ∧ Below w.heap.size w w' := by
  have HS : Hid _ := hs0
  clear hs0
  go_enter Tryd.func9, Tryd.ntmps9
  go_wp2_with fail
  refine Calls.mono (name_ok 4 3 9 _ (by decide) (by decide) (by decide) (by decide)) ?_
  rw [alive5_name]
  rintro e w1 ⟨rfl, hb1⟩
  have HB1 : Hid _ := hb1
  clear hb1
  go_wp2_with fail
  refine Calls.mono (hrow_F 1 2 5 _ s0 (cell_later HB1.out HS.out) (by decide) (by decide) (by decide) (by decide)) ?_
  rw [alive5_row]
  rintro e w2 ⟨g, cap, rfl, hg, hh, hb2⟩
  have HB2 : Hid (Below w.heap.size w w2) := HB1.out.trans (hb2.mono HB1.out.size)
  have hcv := conv8 (la := 2) (ca := cap) (show 2 = ([1, 142] : List F).length from rfl) (row8_has hh)
  rw [show str8 [1, 142] = { data := #[1, 142] } by decide +kernel] at hcv
  have hcv2 := conv8 (ca := 2) (show 2 = ([1, 142] : List F).length from rfl) (row8_own (heap_alloc_last w2 (.cells #[.int .u8 1, .int .u8 142] 5)) (xs := [1, 142]))
  rw [show str8 [1, 142] = { data := #[1, 142] } by decide +kernel] at hcv2
  clear hb2 hh
  go_wp2
  go_ret
  exact ⟨rfl, HB2.out.alloc HB2.out.size _⟩
end Go.Proofs.YtlcaodnimnghoaaDoor

/- What the statements' own choice of numbers answers: so many numbers, rising, all below the bound; nothing that was there turns. -/
namespace Go.Proofs.YtlcaodnimnghoaaDoor
open Go.RowKit Gf
set_option linter.unusedVariables false
set_option maxRecDepth 20000
/-- marks in memory -/
def bvs (n : Nat) (f : Nat → Bool) : Array Value := ((List.range n).map fun i => Value.bool (f i)).toArray
theorem bvs_size (n : Nat) (f : Nat → Bool) : (bvs n f).size = n := by simp [bvs]
theorem bvs_get {n i : Nat} {f : Nat → Bool} (h : i < n) : (bvs n f)[i]? = some (.bool (f i)) := by simp [bvs, h]
def upB (f : Nat → Bool) (i : Nat) : Nat → Bool := fun j => f j || decide (j = i)
theorem bvs_set {n i : Nat} {f : Nat → Bool} : (bvs n f).setIfInBounds i (.bool true) = bvs n (upB f i) := by
  apply Array.ext_getElem?
  intro j
  simp only [bvs, Array.getElem?_setIfInBounds, List.size_toArray, List.length_map, List.length_range, List.getElem?_toArray, List.getElem?_map, upB]
  by_cases h : i = j
  · subst h; by_cases h2 : i < n <;> simp [h2]
  · rw [if_neg h]
    by_cases h2 : j < n <;> simp [h2, Ne.symm h]
theorem madeB (n : Nat) : madeCells (Value.bool false).cells n = bvs n (fun _ => false) := by
  apply Array.ext_getElem?
  intro i
  by_cases h : i < n <;> simp [madeCells, bvs, Value.cells, h, Nat.mod_one]
theorem run_makeB (n : Nat) (hn : n ≤ 65536) (w : World) :
    (Instr.makeSlice 58 (.int .i64 (n : Int)) (.int .i64 (n : Int))).run Tryd.prog w = .ok (.slice (some ⟨w.heap.size, 0, none⟩) n n) (w.alloc (.cells (bvs n (fun _ => false)) 4)) := by
  have hi : (Tryd.prog.info? 4).map (fun i => (i.size, i.bytes, i.zero)) = some (1, 1, some (.bool false)) := by kernel_rfl
  cases hq : Tryd.prog.info? 4 with
  | none => simp [hq] at hi
  | some i =>
    simp only [hq, Option.map_some, Option.some.injEq, Prod.mk.injEq] at hi
    have := run_make (P := Tryd.prog) w 58 4 i _ Tryd.underlying58 hq hi.2.2 .i64 .i64 n n (by omega) (by omega) (by rw [hi.2.1]; omega) (by omega)
    rw [this, hi.1]
    simp only [Int.toNat_natCast, Nat.mul_one, madeB]
/-- how many are marked -/
def cntB (f : Nat → Bool) (n : Nat) : Nat := ((List.range n).filter f).length
theorem cntB_le (f : Nat → Bool) (n : Nat) : cntB f n ≤ n := by have := List.length_filter_le f (List.range n); simpa [cntB] using this
theorem cntB_succ (f : Nat → Bool) (n : Nat) : cntB f (n + 1) = cntB f n + if f n then 1 else 0 := by
  simp only [cntB, List.range_succ, List.filter_append, List.length_append, List.filter_cons, List.filter_nil]
  split <;> rfl
theorem cntB_same {f g : Nat → Bool} : ∀ {n : Nat}, (∀ i, i < n → f i = g i) → cntB f n = cntB g n
  | 0, _ => rfl
  | n + 1, h => by rw [cntB_succ, cntB_succ, cntB_same (n := n) (fun i hi => h i (by omega)), h n (by omega)]
theorem cntB_up {f : Nat → Bool} {i : Nat} (hf : f i = false) : ∀ {n : Nat}, i < n → cntB (upB f i) n = cntB f n + 1
  | 0, h => absurd h (Nat.not_lt_zero _)
  | n + 1, h => by
    rw [cntB_succ, cntB_succ]
    by_cases e : i = n
    · subst e
      rw [cntB_same (f := upB f i) (g := f) (fun j hj => by simp [upB, Nat.ne_of_lt hj]), hf]
      simp [upB]
    · rw [cntB_up hf (n := n) (by omega)]
      have : upB f i n = f n := by simp [upB, Ne.symm e]
      rw [this]; omega
theorem cntB_all {f : Nat → Bool} : ∀ {n : Nat}, (∀ i, i < n → f i = true) → cntB f n = n
  | 0, _ => rfl
  | n + 1, h => by rw [cntB_succ, cntB_all (n := n) (fun i hi => h i (by omega)), h n (by omega)]; rfl
theorem cntB_none (n : Nat) : cntB (fun _ => false) n = 0 := by simp [cntB]
/-- the marked numbers -/
def pickB (f : Nat → Bool) (n : Nat) : List Nat := (List.range n).filter f
theorem pickB_same {f g : Nat → Bool} {n : Nat} (h : ∀ i, i < n → f i = g i) : pickB f n = pickB g n := List.filter_congr fun i hi => h i (by simpa using hi)
theorem pickB_yes {f : Nat → Bool} {n : Nat} (h : f n = true) : pickB f (n + 1) = pickB f n ++ [n] := by simp [pickB, List.range_succ, h]
theorem pickB_no {f : Nat → Bool} {n : Nat} (h : f n = false) : pickB f (n + 1) = pickB f n := by simp [pickB, List.range_succ, h]
theorem pickB_up {f : Nat → Bool} {n : Nat} : pickB (upB f n) n = pickB f n := pickB_same fun i hi => by simp [upB, Nat.ne_of_lt hi]
theorem pickB_sorted (f : Nat → Bool) (n : Nat) : (pickB f n).Pairwise (· < ·) := List.pairwise_lt_range.filter _
theorem pickB_lt {f : Nat → Bool} {n : Nat} : ∀ x ∈ pickB f n, x < n := fun x hx => by simpa using (List.mem_filter.1 hx).1
/-- numbers as values -/
def nvs (L : List Nat) : List Value := L.map fun i => Value.int .i64 ((i : Nat) : Int)
theorem nvs_snoc (L : List Nat) (i : Nat) : nvs L ++ [.int .i64 (i : Int)] = nvs (L ++ [i]) := by simp [nvs]
theorem own_setCell {w : World} {B n g i : Nat} {v x : Value} {e : TypeId} {s : Nat} {xs : List Value} (h : w.ownsRow B e s v n xs) (hg : g < B) : (w.setCell ⟨g, i, none⟩ x).ownsRow B e s v n xs := by
  refine ⟨h.1, h.2.imp id fun ⟨b, cap, cur, h1, h2, h3, h4⟩ => ⟨b, cap, cur, h1, h2, (heap_setCell_other _ _ _ _ (by show b ≠ g; omega)).trans h3, h4⟩⟩
theorem mod_place (x : Int) {n : Nat} (hn : 1 ≤ n) : (-(n : Int) < x.tmod n ∧ x.tmod n < n) ∧ ∃ j : Nat, j < n ∧ x.tmod n % (n : Int) = j := by
  have h1 : -(n : Int) < x.tmod n := by
    rcases Int.le_total 0 x with h | h
    · have := Int.tmod_nonneg n h; omega
    · have h2 := Int.neg_tmod (a := -x) (b := (n : Int))
      have h3 := Int.tmod_lt_of_pos (-x) (show (0 : Int) < n by omega)
      rw [Int.neg_neg] at h2; omega
  have h2 := Int.tmod_lt_of_pos x (show (0 : Int) < n by omega)
  have h3 : 0 ≤ x.tmod n % (n : Int) := Int.emod_nonneg _ (by omega)
  have h4 := Int.emod_lt_of_pos (x.tmod n) (show (0 : Int) < n by omega)
  exact ⟨⟨h1, h2⟩, (x.tmod n % (n : Int)).toNat, by omega, by omega⟩
end Go.Proofs.YtlcaodnimnghoaaDoor

/- What Carried of package half answers, at all numbers; nothing that was there turns. -/
namespace Go.Proofs.YtlcaodnimnghoaaDoor
open Go.RowKit Gf
set_option linter.unusedVariables false
set_option maxRecDepth 20000
/-- what a parity carries -/
def carL (k g i : Nat) : List Nat := pickB (fun x => decide (carN g x = i)) k
def castL (L : List Nat) : List Int := L.map fun x => ((x : Nat) : Int)
theorem castL_len (L : List Nat) : (castL L).length = L.length := by simp [castL]
theorem nvs_cast (L : List Nat) : nvs L = (castL L).map (Value.int .i64) := by simp [nvs, castL]
theorem ownI_slice {w : World} {B n : Nat} {v : Value} {L : List Nat} (ho : w.ownsRow B 3 1 v n (nvs L)) : ∃ a cap, v = .slice a n cap ∧ RowI w a (castL L) ∧ n = L.length ∧ (a = none → cap = 0) := by
  have hl := ho.1
  rw [nvs, List.length_map] at hl
  rcases ho.2 with ⟨rfl, e⟩ | ⟨g, cap, cur, rfl, h2⟩
  · exact ⟨none, 0, by rw [e], .inl (by rw [List.eq_nil_of_length_eq_zero (l := L) (by omega)]; rfl), by omega, fun _ => rfl⟩
  · rw [nvs_cast] at ho
    exact ⟨_, _, rfl, rowI_own ho, by omega, fun h => by cases h⟩
set_option maxHeartbeats 4000000 in
theorem hcarried_F (k r i : Nat) (w : World) (h1 : 1 ≤ k) (h2 : 2 ≤ r) (h3 : k + r ≤ 16) (hi : i < r) :
    Calls Tryd.prog 13 #[.int .i64 k, .int .i64 r, .int .i64 i] w fun e w' => ∃ a n cap, e = .returned (.tuple #[.slice a n cap, .nilIface]) ∧ n = (carL k (groupN k r) i).length ∧ RowI w' a (castL (carL k (groupN k r) i)) ∧ (a = none → cap = 0) ∧ Below w.heap.size w w' := by
  obtain ⟨g1, _, _, g2⟩ := groupN_least h1 h2 h3
  have HG : Hid _ := fun w => bgroup_ok k r w h1 h2 h3
  generalize groupN k r = g at *
  have HCF : Hid _ := fun j w (hj : j ≤ 1000) => carrier_F g j w g1 (by omega) hj
  obtain ⟨f, hf⟩ : ∃ f : Nat → Bool, f = fun x => decide (carN g x = i) := ⟨_, rfl⟩
  have hcl : carL k g i = pickB f k := by rw [hf]; rfl
  have hft : Hid (∀ x, carN g x = i → f x = true) := fun x h => by rw [hf]; exact decide_eq_true h
  have hff : Hid (∀ x, ¬ carN g x = i → f x = false) := fun x h => by rw [hf]; exact decide_eq_false h
  rw [hcl]
  generalize carN g = car at *
  have i1 : (i : Int) < r := by omega
  have HI : Hid _ := i1
  clear hf hcl i1
  go_enter Tryd.func13, Tryd.ntmps13
  go_wp2_with fail
  refine (HG.out _).mono ?_
  rintro e w1 ⟨rfl, rfl⟩
  go_wp2_with fail
  refine (hthere_yes _ _ _ (by omega) HI.out).mono ?_
  rintro e w1 ⟨rfl, rfl⟩
  go_wp2
  go_loopw [10, 27] (fun v t wr => ∃ j : Nat, j ≤ k ∧ t = .int .i64 j ∧ Below w.heap.size w wr ∧ wr.ownsRow w.heap.size 3 1 v (pickB f j).length (nvs (pickB f j))) (fun _ t _ => k - (intOf t).toNat)
  case atStart => exact ⟨0, by omega, rfl, Below.refl _ _, World.ownsRow_nil _ _ _ _⟩
  case round =>
    obtain ⟨j, hj, rfl, hb, ho⟩ := hrel
    have HB : Hid _ := hb
    have HO : Hid _ := ho
    obtain ⟨av, cv, rfl, hv, hn, hnil⟩ := ownI_slice ho
    have HV : Hid _ := hv
    have HNN : Hid _ := hnil
    have hl : (pickB f j).length ≤ 16 := by have := cntB_le f j; show cntB f j ≤ 16; omega
    clear hb ho hv hn hnil
    by_cases hlt : j < k
    · go_wp2_with fail
      refine (HCF.out j _ (by omega)).mono ?_
      rintro e w2 ⟨rfl, rfl⟩
      by_cases hc : car j = i
      · have hci : (car j : Int) = i := by omega
        have ho := World.ownsRow.alloc HO.out (.cells #[.int .i64 j] 3)
        obtain ⟨g2, cap2, w6, hrun, ho2, hgr, hor, hlt2⟩ := appendI (b := wr.heap.size) (c := 1) (x := (j : Int)) 31 ho (cellAt (heap_alloc_last wr (.cells #[.int .i64 j] 3)) 0 _ rfl) (by omega) (by have := HB.out.size; simp; omega)
        rw [nvs_snoc, ← pickB_yes (hft.out j hc)] at ho2
        have hb6 := below_own (B := w.heap.size) (HB.out.alloc HB.out.size (.cells #[.int .i64 j] 3)) ho hgr (by have := HB.out.size; simp; omega)
        have hlen : (pickB f j).length + 1 = (pickB f (j + 1)).length := by rw [pickB_yes (hft.out j hc)]; simp
        have HRun : Hid _ := hrun
        have HO2 : Hid _ := ho2
        have HB6 : Hid _ := hb6
        have HL : Hid _ := hlen
        clear ho hrun ho2 hb6 hgr hor hlt2 hlen hc
        go_wp2_with (at_builtin; refine wpList_append_run rfl _ _ 31 rfl _ _ _ _ rfl rfl HRun.out ?_)
        have ho9 := HO2.out
        rw [HL.out] at ho9
        rw [HL.out]
        exact ⟨⟨j + 1, by omega, by go_num, HB6.out, ho9⟩, by simp [intOf]; omega⟩
      · have hci : ¬ (car j : Int) = i := by omega
        have hpk := pickB_no (hff.out j hc)
        have HPK : Hid _ := hpk
        clear hc hpk
        go_wp2
        have ho9 := HO.out
        exact ⟨⟨j + 1, by omega, by go_num, HB.out, by rw [HPK.out]; exact ho9⟩, by simp [intOf]; omega⟩
    · obtain rfl : j = k := by omega
      go_wp2
      go_ret2
      exact ⟨av, _, cv, rfl, rfl, HV.out, HNN.out, HB.out⟩
theorem hcarried_bad (k r x : Int) (w : World) (s : Addr) (hs : w.cell? ⟨0, 0, none⟩ = some (errAt s)) (hk0 : -9223372036854775808 ≤ k) (hk1 : k ≤ 9223372036854775807) (hr0 : -9223372036854775808 ≤ r) (hr1 : r ≤ 9223372036854775807) (hL : ¬ LegalP k r) :
    Calls Tryd.prog 13 #[.int .i64 k, .int .i64 r, .int .i64 x] w fun e w' => e = .returned (.tuple #[.slice none 0 0, errAt s]) ∧ w = w' := by
  have HS : Hid _ := hs
  have H : Hid _ := hL
  clear hs hL
  go_enter Tryd.func13, Tryd.ntmps13
  go_wp2_with fail
  refine (bgroup_bad k r _ s HS.out hk0 hk1 hr0 hr1 H.out).mono ?_
  unfold errAt
  rintro e w' ⟨rfl, rfl⟩
  go_wp2
  go_ret2
  exact ⟨rfl, rfl⟩
theorem hcarried_no (k r : Nat) (x : Int) (w : World) (s : Addr) (hs : w.cell? ⟨2, 0, none⟩ = some (errAt s)) (h1 : 1 ≤ k) (h2 : 2 ≤ r) (h3 : k + r ≤ 16) (hx : ¬ (0 ≤ x ∧ x < r)) :
    Calls Tryd.prog 13 #[.int .i64 k, .int .i64 r, .int .i64 x] w fun e w' => e = .returned (.tuple #[.slice none 0 0, errAt s]) ∧ Below w.heap.size w w' := by
  have hlt := World.block_lt_of_cell? w _ hs
  simp at hlt
  have HX : Hid _ := hx
  unfold errAt at *
  clear hx
  go_enter Tryd.func13, Tryd.ntmps13
  go_wp2_with fail
  refine (bgroup_ok _ _ _ h1 h2 h3).mono ?_
  rintro e w' ⟨rfl, rfl⟩
  go_wp2_with fail
  refine (hthere_no _ _ _ HX.out).mono ?_
  rintro e w' ⟨rfl, rfl⟩
  go_wp2
  go_region
  go_wp2
  go_ret2
  exact ⟨rfl, (Below.refl _ _).drew⟩
end Go.Proofs.YtlcaodnimnghoaaDoor

/- The walk of HalfCarries: at all numbers. -/
namespace Go.Proofs.YtlcaodnimnghoaaDoor
open Go.RowKit Gf
set_option linter.unusedVariables false
set_option maxRecDepth 20000
def gsHalf : List Nat := [0, 3, 1, 2]
/-- so many data shards do the first parities carry -/
def carS (k g i : Nat) : Nat := ((List.range i).map fun x => (carL k g x).length).sum
theorem carS_succ (k g i : Nat) : carS k g (i + 1) = carS k g i + (carL k g i).length := by simp [carS, List.range_succ]
theorem carS_all : ∀ k < 15, ∀ r < 17, 1 ≤ k → 2 ≤ r → k + r ≤ 16 → carS k (groupN k r) r = k := by decide +kernel
theorem carL_le1 : ∀ k < 15, ∀ r < 17, (1 ≤ k ∧ 2 ≤ r ∧ k + r ≤ 16) → ∀ i < r, (carL k (groupN k r) i).length ≤ groupN k r := by decide +kernel
theorem carS_le : ∀ k < 15, ∀ r < 17, (1 ≤ k ∧ 2 ≤ r ∧ k + r ≤ 16) → ∀ i < r, carS k (groupN k r) i ≤ 16 := by decide +kernel
theorem carL_zero (k g : Nat) : (carL k g 0).length = 0 := by
  rw [List.length_eq_zero_iff, carL, pickB, List.filter_eq_nil_iff]
  intro x _
  simp [carN]
theorem carL_at {k g i q x : Nat} (h : (carL k g i)[q]? = some x) : x < k ∧ carN g x = i := by
  have hm : x ∈ carL k g i := List.mem_of_getElem? h
  rw [carL, pickB, List.mem_filter] at hm
  exact ⟨List.mem_range.1 hm.1, of_decide_eq_true hm.2⟩
theorem carL_up {k g i q x y : Nat} (h : (carL k g i)[q]? = some y) (h2 : (carL k g i)[q + 1]? = some x) : y < x := by
  have hp := pickB_sorted (fun x => decide (carN g x = i)) k
  obtain ⟨a1, a2⟩ := List.getElem?_eq_some_iff.1 h
  obtain ⟨b1, b2⟩ := List.getElem?_eq_some_iff.1 h2
  have := List.pairwise_iff_getElem.1 hp q (q + 1) a1 b1 (by omega)
  rw [← a2, ← b2]; exact this
theorem castL_at {L : List Nat} {q x : Nat} (h : L[q]? = some x) : (castL L)[q]? = some (x : Int) := by simp [castL, h]
set_option maxHeartbeats 4000000 in
theorem carries_ok (k r : Nat) (w : World) (s0 : Addr) (hs : w.cell? ⟨3, 0, none⟩ = some (errAt s0)) (h1 : 1 ≤ k) (h2 : 2 ≤ r) (h3 : k + r ≤ 16) :
    Calls Tryd.prog 6 #[.int .i64 k, .int .i64 r] w fun e w' => e = .returned (.bool true) ∧ Below w.heap.size w w' := by
  have HS : Hid _ := hs
  have HRG : Hid _ := fun w => rgroup_F k r w h1 h2 h3
  have HCD : Hid _ := fun i w hi => hcarried_F k r i w h1 h2 h3 hi
  have HCR : Hid _ := fun j w hj => hcarrier_ok k r j w h1 h2 h3 hj
  have HLE : Hid (∀ i, i < r → (carL k (groupN k r) i).length ≤ groupN k r ∧ (i = 0 → (carL k (groupN k r) i).length = 0) ∧ carS k (groupN k r) i ≤ 16) := fun i hi => ⟨carL_le1 k (by omega) r (by omega) ⟨h1, h2, h3⟩ i hi, fun e => by rw [e]; exact carL_zero _ _, carS_le k (by omega) r (by omega) ⟨h1, h2, h3⟩ i hi⟩
  have HSUM : Hid _ := carS_all k (by omega) r (by omega) h1 h2 h3
  obtain ⟨_, _, _, g16⟩ := groupN_least h1 h2 h3
  generalize groupN k r = g at *
  clear hs
  go_enter Tryd.func6, Tryd.ntmps6
  go_wp2_with fail
  refine Calls.mono (alive5_ok _ s0 HS.out) ?_
  rintro e w1 ⟨rfl, hb⟩
  have HB1 : Hid _ := hb
  clear hb
  go_wp2_with fail
  refine Calls.mono (legal_yes k r _ h1 h2 h3) ?_
  rintro e w2 ⟨rfl, rfl⟩
  go_wp2_with fail
  refine Calls.mono (HRG.out _) ?_
  rintro e w2 ⟨rfl, rfl⟩
  go_wp2
  go_loopw [6, 7] (fun c v wr => ∃ i : Nat, i ≤ r ∧ v = .int .i64 i ∧ c = .int .i64 (carS k g i) ∧ Below w.heap.size w wr) (fun _ v _ => r - (intOf v).toNat)
  case atStart => exact ⟨0, by omega, rfl, rfl, HB1.out⟩
  case round =>
    obtain ⟨i, hi, rfl, rfl, hb⟩ := hrel
    have HB : Hid _ := hb
    clear hb
    by_cases hlt : i < r
    · obtain ⟨l1, l2, l3⟩ := HLE.out i hlt
      go_wp2_with fail
      refine Calls.mono (HCD.out i _ hlt) ?_
      rintro e w3 ⟨a, n, cap, rfl, hn, hrow, _, hb3⟩
      have HN : Hid _ := hn
      have HR : Hid _ := hrow
      have HB3 : Hid (Below w.heap.size w w3) := HB.out.trans (hb3.mono HB.out.size)
      rw [← hn] at l1 l2
      have hss : carS k g (i + 1) = carS k g i + n := by rw [carS_succ, hn]
      have HSS : Hid _ := hss
      clear hn hrow hb3 hss
      generalize hsi : carS k g i = si at *
      have HSI : Hid _ := hsi
      clear hsi
      go_upto_region 11 with fail
      go_cut [51] (fun s51 wx => s51 = .bool false ∧ w3 = wx)
      case first =>
        by_cases hi0 : i = 0
        · have n0 := l2 hi0
          subst hi0
          subst n0
          go_wp2
          go_meet
          exact ⟨rfl, rfl⟩
        · go_wp2
          go_meet
          exact ⟨congrArg Value.bool (decide_eq_false (by omega)), rfl⟩
      case rest =>
      obtain ⟨rfl, rfl⟩ := hcut
      go_wp2
      go_loopw [6, 54] (fun c v wr => ∃ q : Nat, q ≤ n ∧ v = .int .i64 q ∧ c = .int .i64 (si + q : Nat) ∧ Below w3.heap.size w3 wr) (fun _ v _ => n - (intOf v).toNat)
      case atStart => exact ⟨0, by omega, rfl, rfl, Below.refl _ _⟩
      case round =>
        obtain ⟨q, hq, rfl, rfl, hb⟩ := hrel
        have HBB : Hid _ := hb
        clear hb
        by_cases hqn : q < n
        · obtain ⟨x, hx⟩ : ∃ x, (carL k g i)[q]? = some x := ⟨_, List.getElem?_eq_getElem (by rw [← HN.out]; exact hqn)⟩
          rcases HR.out with e0 | ⟨b, off, rfl, hrows⟩
          · have := congrArg List.length e0
            rw [castL_len, ← HN.out] at this
            simp at this; omega
          have c1 := cell_later HBB.out (hrows q _ (castL_at hx))
          obtain ⟨x1, x2⟩ := carL_at hx
          go_wp2_with fail
          refine Calls.mono (HCR.out x _ x1) ?_
          rw [x2]
          rintro e w5 ⟨rfl, rfl⟩
          cases q with
          | zero =>
            clear hrows
            go_wp2
            exact ⟨⟨1, by omega, by go_num, by go_num, HBB.out⟩, by simp [intOf]; omega⟩
          | succ p =>
            obtain ⟨y, hy⟩ : ∃ y, (carL k g i)[p]? = some y := ⟨_, List.getElem?_eq_getElem (by rw [← HN.out]; omega)⟩
            have c2 := cell_later HBB.out (hrows p _ (castL_at hy))
            have hyx := carL_up hy hx
            have hyx2 : (y : Int) < x := by omega
            clear hrows hx hy hyx
            go_wp2
            exact ⟨⟨p + 1 + 1, by omega, by go_num, by go_num, HBB.out⟩, by simp [intOf]; omega⟩
        · obtain rfl : q = n := by omega
          go_wp2
          exact ⟨⟨i + 1, by omega, by go_num, by rw [HSS.out], HB3.out.trans (HBB.out.mono HB3.out.size)⟩, by simp [intOf]; omega⟩
    · obtain rfl : i = r := by omega
      rw [HSUM.out]
      go_wp2
      go_ret
      exact ⟨rfl, HB.out⟩
set_option maxHeartbeats 4000000 in
theorem carries_walk (k r : Int) (w : World) (hk0 : -9223372036854775808 ≤ k) (hk1 : k ≤ 9223372036854775807) (hr0 : -9223372036854775808 ≤ r) (hr1 : r ≤ 9223372036854775807) (es : List Addr) (hes : ErrsAt w gsHalf es) :
    Calls Tryd.prog 6 #[.int .i64 k, .int .i64 r] w fun e w' => e = .returned (.bool true) ∧ Below w.heap.size w w' := by
  obtain ⟨s3, _, hs3, _⟩ := errs_at hes 1 _ rfl
  by_cases hL : LegalP k r
  · obtain ⟨a, b, rfl, rfl, h1, h2, h3⟩ := legal_nat hL
    exact carries_ok a b w s3 hs3 h1 h2 h3
  · have H : Hid _ := hL
    have HS : Hid _ := hs3
    clear hL hs3 hes
    go_enter Tryd.func6, Tryd.ntmps6
    go_wp2_with fail
    refine Calls.mono (alive5_ok _ s3 HS.out) ?_
    rintro e w1 ⟨rfl, hb⟩
    have HB1 : Hid _ := hb
    clear hb
    go_wp2_with fail
    refine Calls.mono (legal_no k r _ hk0 hk1 hr0 hr1 H.out) ?_
    rintro e w2 ⟨rfl, rfl⟩
    go_wp2
    go_ret
    exact ⟨rfl, HB1.out⟩
end Go.Proofs.YtlcaodnimnghoaaDoor

/- What the document's own Row of package half's chapter answers, of all legal numbers; nothing that was there turns. -/
namespace Go.Proofs.YtlcaodnimnghoaaDoor
open Go.RowKit Gf
set_option linter.unusedVariables false
set_option maxRecDepth 20000
theorem half_unit {k c s p : Nat} {car : Nat → Nat} (hc : c = 2 * k) (hs : s < k) (hp : p < 2) : (zeros c).set (2 * s + p) 1 = rowF c (halfF k car (2 * s + p)) := by
  rw [colP_zero c (halfF k car (2 * s + p)), colP, rowF_set]
  refine rowF_congr fun v hv => ?_
  by_cases e : v = 2 * s + p
  · rw [if_pos e, e]
    unfold halfF
    rw [if_pos rfl, show (2 * s + p) / 2 = s by omega, genF, if_pos hs, if_pos rfl]
  · rw [if_neg e, if_neg (Nat.not_lt_zero v)]
    simp only [halfF]
    rw [show (2 * s + p) / 2 = s by omega]
    by_cases h2 : v % 2 = (2 * s + p) % 2
    · rw [if_pos h2, genF, if_pos hs, if_neg (by omega)]
    · rw [if_neg h2, if_neg (by omega)]
set_option maxHeartbeats 4000000 in
theorem rrow_unit (k r h s p : Nat) (w : World) (h1 : 1 ≤ k) (h2 : 2 ≤ r) (h3 : k + r ≤ 16) (hh : h = 2 * s + p) (hp : p < 2) (hs : s < k) :
    Calls Tryd.prog 21 #[.int .i64 k, .int .i64 r, .int .i64 h] w fun e w' => ∃ g n, e = .returned (.slice (some ⟨g, 0, none⟩) n n) ∧ n = 2 * k ∧ w.heap.size ≤ g ∧
      w'.heap[g]? = some (.cells (vfs (rowF (2 * k) (halfF k (carN (groupN k r)) h))) 5 (0, 0)) ∧ Below w.heap.size w w' := by
  obtain ⟨c, hc⟩ : ∃ c, c = 2 * k := ⟨_, rfl⟩
  have ec : (2 : Int) * (k : Int) = c := by omega
  have hu := half_unit (car := carN (groupN k r)) hc hs hp
  rw [← hc, hh]
  rw [← hh]
  rw [← hh] at hu
  have HU : Hid _ := hu
  have e1 : (h : Int) / 2 = s := by omega
  have e2 : (h : Int) % 2 = p := by omega
  have hlt : h < c := by omega
  have hc32 : c ≤ 32 := by omega
  have hmk := run_make8 c (by omega)
  have HH : Hid _ := hh
  clear hc hu hh
  go_enter Tryd.func21, Tryd.ntmps21
  have B1 := heap_alloc_last w (.cells (vfs (zeros c)) 5)
  have HB : Hid _ := (Below.refl w.heap.size w).alloc (Nat.le_refl _) (.cells (vfs (zeros c)) 5)
  have c5 := cellAt B1 h _ (vfs_get _ _ (by rw [zeros_len]; exact hlt))
  have c6 := frozen_of_row _ w.heap.size h _ _ B1
  have HB1 : Hid _ := B1
  clear B1
  go_wp2
  go_ret
  refine ⟨w.heap.size, c, rfl, rfl, Nat.le_refl _, ?_, (Below.refl w.heap.size w).alloc (Nat.le_refl _) _⟩
  rw [← HU.out, ← vfs_set]
  exact heap_alloc_last w _
theorem parM_at {k r i j : Nat} (hi : i < r) (hj : j < k) : at8 (parM k r) (i * k + j) = cyN (k + i) j := at8_grid hi hj
theorem half_even {k h i q p : Nat} {car : Nat → Nat} (hh : h = 2 * (k + i) + p) (hp : p < 2) : halfF k car h (2 * q + p) = cyN (k + i) q := by
  simp only [halfF]
  rw [if_pos (by omega), show h / 2 = k + i by omega, show (2 * q + p) / 2 = q by omega, genF, if_neg (by omega)]
theorem half_odd {k h i q : Nat} {car : Nat → Nat} (hh : h = 2 * (k + i)) : halfF k car h (2 * q + 1) = 0 := by
  simp only [halfF]
  rw [if_neg (by omega), if_neg (by omega)]
theorem half_car {k h i q : Nat} {car : Nat → Nat} (hh : h = 2 * (k + i) + 1) : halfF k car h (2 * q) = if car q = i then 1 else 0 := by
  simp only [halfF]
  rw [if_neg (by omega), show h / 2 = k + i by omega, show 2 * q / 2 = q by omega]
  by_cases e : car q = i
  · rw [if_pos e, if_pos ⟨by omega, by omega, by omega⟩]
  · rw [if_neg e, if_neg (fun h => e (by omega))]
theorem colP_at {r j : Nat} {f : Nat → F} (h : j < r) (k : Nat) (hk : k ≤ j) : at8 (colP r f k) j = 0 := by
  rw [colP, at8_rowF h, if_neg (by omega)]
set_option maxHeartbeats 4000000 in
theorem rrow_0 (k r h i : Nat) (w : World) (h1 : 1 ≤ k) (h2 : 2 ≤ r) (h3 : k + r ≤ 16) (hh : h = 2 * (k + i) + 0) (hi : i < r) :
    Calls Tryd.prog 21 #[.int .i64 k, .int .i64 r, .int .i64 h] w fun e w' => ∃ g n, e = .returned (.slice (some ⟨g, 0, none⟩) n n) ∧ n = 2 * k ∧ w.heap.size ≤ g ∧
      w'.heap[g]? = some (.cells (vfs (rowF (2 * k) (halfF k (carN (groupN k r)) h))) 5 (0, 0)) ∧ Below w.heap.size w w' := by
  obtain ⟨c, hc⟩ : ∃ c, c = 2 * k := ⟨_, rfl⟩
  have ec : (2 : Int) * (k : Int) = c := by omega
  have HCA : Hid _ := fun j w (hj : j ≤ 1000) => rcarrier_F k r j w h1 h2 h3 hj
  generalize carN (groupN k r) = car at *
  rw [← hc]
  obtain ⟨s, hs⟩ : ∃ s, s = k + i := ⟨_, rfl⟩
  have e1 : (h : Int) / 2 = s := by omega
  have e2 : (h : Int) % 2 = 0 := by omega
  have e3 : (s : Int) - k = i := by omega
  have hks : (k : Int) ≤ s := by omega
  have hs16 : s ≤ 16 := by omega
  have hh33 : h ≤ 33 := by omega
  obtain ⟨ik, hik⟩ : ∃ ik, ik = i * k := ⟨_, rfl⟩
  have e4 : (i : Int) * k = ik := by rw [hik]; simp
  have hik2 : ik + k ≤ 256 := by
    have h4 := Nat.mul_le_mul (show i + 1 ≤ 16 by omega) (show k ≤ 16 by omega)
    rw [Nat.succ_mul] at h4; omega
  have hikr : ik + k ≤ r * k := by
    have h4 := Nat.mul_le_mul_right k (show i + 1 ≤ r by omega)
    rw [Nat.succ_mul] at h4; omega
  have hc32 : c ≤ 32 := by omega
  have hmk := run_make8 c (by omega)
  have HH : Hid _ := hh
  have HC : Hid _ := hc
  have HIK : Hid _ := hik
  have HIKR : Hid _ := hikr
  have HI : Hid _ := hi
  clear hc hh hs hik hikr hi
  go_enter Tryd.func21, Tryd.ntmps21
  go_wp2_with fail
  have B1 := heap_alloc_last w (.cells (vfs (zeros c)) 5)
  have HB : Hid _ := (Below.refl w.heap.size w).alloc (Nat.le_refl _) (.cells (vfs (zeros c)) 5)
  have HA : Hid (Holds (w.alloc (.cells (vfs (zeros c)) 5)) [(w.heap.size, .cells (vfs (zeros c)) 5 (0, 0))]) := holds_cons (holds_nil _) B1
  clear B1
  refine Calls.mono (rparity_F k r _ h1 h2 h3) ?_
  rintro e w2 ⟨g, m, rfl, hm, hg, hh2, hb2⟩
  have HA2 : Hid _ := holds_new (holds_cons (holds_later HA.out hb2) hh2) #[.int .i64 r, .int .i64 k, .slice (some ⟨g, 0, none⟩) m m] 42
  have hB2 := HB.out.trans (hb2.mono HB.out.size)
  have HB2 : Hid _ := hB2.alloc hB2.size (.cells #[.int .i64 r, .int .i64 k, .slice (some ⟨g, 0, none⟩) m m] 42)
  have HM : Hid _ := hm
  have hz := hB2.size
  have HGN : Hid (w.heap.size < g) := by simp only [World.size_alloc] at hg; exact hg
  clear hb2 hh2 hm hB2 HA HB hmk hg
  go_wp2
  generalize hMM : w2.heap.size = M at *
  generalize (w2.alloc (.cells #[.int .i64 r, .int .i64 k, .slice (some ⟨g, 0, none⟩) m m] 42)) = W3 at *
  clear hMM
  obtain ⟨f, hf⟩ : ∃ f, f = halfF k car h := ⟨_, rfl⟩
  have HF : Hid _ := hf
  clear hf
  go_loopw [11] (fun v wr => ∃ j : Nat, j ≤ k ∧ v = .int .i64 j ∧ Below w.heap.size w wr ∧ Holds wr [(M, .cells #[.int .i64 r, .int .i64 k, .slice (some ⟨g, 0, none⟩) m m] 42 (0, 0)), (g, .cells (vfs (parM k r)) 5 (0, 0)), (w.heap.size, .cells (vfs (colP c f (2 * j))) 5 (0, 0))]) (fun v _ => k - (intOf v).toNat)
  case atStart => exact ⟨0, by omega, rfl, HB2.out, by rw [Nat.mul_zero, ← colP_zero]; exact HA2.out⟩
  case round =>
    obtain ⟨j, hj, rfl, hb, hh⟩ := hrel
    have HB : Hid _ := hb
    have HH1 : Hid _ := hh
    clear hb hh
    by_cases hlt : j < k
    · have c1 := cellAt (holds_at HH1.out 0 rfl) 2 _ rfl
      have hjc : 2 * j < c := by have := HC.out; omega
      have c2 := cellAt (holds_at HH1.out 2 rfl) (2 * j) _ (vfs_get _ _ (by rw [colP_len]; exact hjc))
      rw [colP_at hjc (2 * j) (by omega)] at c2
      have hc2 : (((0 : F).toNat : Nat) : Int) = 0 := rfl
      rw [hc2] at c2
      have c3 := frozen_of_row _ w.heap.size (2 * j) _ _ (holds_at HH1.out 2 rfl)
      have hpa : at8 (parM k r) (ik + j) = cyN (k + i) j := by rw [HIK.out]; exact parM_at HI.out hlt
      have c4 := cellAt (holds_at HH1.out 1 rfl) (ik + j) _ (vfs_get _ _ (by have := HIKR.out; rw [parM_len]; omega))
      rw [hpa] at c4
      have hx := xor_val 0 (cyN (k + i) j)
      rw [hc2, show ga 0 (cyN (k + i) j) = cyN (k + i) j from F.zero_add _] at hx
      have hfo : f (2 * j) = cyN (k + i) j := by rw [HF.out]; exact half_even (q := j) HH.out (by decide)
      rw [← hfo] at c4 hx
      have HFO : Hid _ := hfo
      clear hpa hc2 hfo
      have hjm : ik + j < m := by have := HIKR.out; rw [HM.out]; omega
      go_upto_region 10 with fail
      go_region
      have hL : (colP c f (2 * j)).set (2 * j) (f (2 * j)) = colP c f (2 * (j + 1)) := by
        rw [colP_step, colP_skip (by rw [HF.out]; exact half_odd HH.out)]
        rfl
      have k1 : (wr.setCell ⟨w.heap.size, 2 * j, none⟩ (.int .u8 ((f (2 * j)).toNat : Int))).drew.heap[w.heap.size]? = some (.cells (vfs (colP c f (2 * (j + 1)))) 5 (0, 0)) := by
        rw [← hL, ← vfs_set]
        exact heap_setCell_same _ _ _ _ _ _ (holds_at HH1.out 2 rfl)
      have kA : (wr.setCell ⟨w.heap.size, 2 * j, none⟩ (.int .u8 ((f (2 * j)).toNat : Int))).drew.heap[M]? = some (.cells #[.int .i64 r, .int .i64 k, .slice (some ⟨g, 0, none⟩) m m] 42 (0, 0)) := (heap_setCell_other _ _ _ _ (hkind_ne (holds_at HH1.out 0 rfl) (holds_at HH1.out 2 rfl) (by decide))).trans (holds_at HH1.out 0 rfl)
      have kG : (wr.setCell ⟨w.heap.size, 2 * j, none⟩ (.int .u8 ((f (2 * j)).toNat : Int))).drew.heap[g]? = some (.cells (vfs (parM k r)) 5 (0, 0)) := (heap_setCell_other _ _ _ _ (by have := HGN.out; show g ≠ w.heap.size; omega)).trans (holds_at HH1.out 1 rfl)
      have HBx : Hid _ := (HB.out.setCell (p := ⟨w.heap.size, 2 * j, none⟩) (Nat.le_refl _) (.int .u8 ((f (2 * j)).toNat : Int))).drew
      have HHx : Hid _ := holds_cons (holds_cons (holds_cons (holds_nil _) k1) kG) kA
      clear k1 kA kG c1 c2 c3 c4 hx
      generalize (wr.setCell ⟨w.heap.size, 2 * j, none⟩ (.int .u8 ((f (2 * j)).toNat : Int))).drew = wx at *
      go_wp2
      exact ⟨⟨j + 1, by omega, by go_num, HBx.out, HHx.out⟩, by simp [intOf]; omega⟩
    · obtain rfl : j = k := by omega
      have k1 := holds_at HH1.out 2 rfl
      rw [← HC.out, colP_done, HF.out] at k1
      have HK1 : Hid _ := k1
      clear k1
      go_wp2
      go_ret
      exact ⟨w.heap.size, c, rfl, rfl, Nat.le_refl _, HK1.out, HB.out⟩
set_option maxHeartbeats 4000000 in
theorem rrow_1 (k r h i : Nat) (w : World) (h1 : 1 ≤ k) (h2 : 2 ≤ r) (h3 : k + r ≤ 16) (hh : h = 2 * (k + i) + 1) (hi : i < r) :
    Calls Tryd.prog 21 #[.int .i64 k, .int .i64 r, .int .i64 h] w fun e w' => ∃ g n, e = .returned (.slice (some ⟨g, 0, none⟩) n n) ∧ n = 2 * k ∧ w.heap.size ≤ g ∧
      w'.heap[g]? = some (.cells (vfs (rowF (2 * k) (halfF k (carN (groupN k r)) h))) 5 (0, 0)) ∧ Below w.heap.size w w' := by
  obtain ⟨c, hc⟩ : ∃ c, c = 2 * k := ⟨_, rfl⟩
  have ec : (2 : Int) * (k : Int) = c := by omega
  have HCA : Hid _ := fun j w (hj : j ≤ 1000) => rcarrier_F k r j w h1 h2 h3 hj
  generalize carN (groupN k r) = car at *
  rw [← hc]
  obtain ⟨s, hs⟩ : ∃ s, s = k + i := ⟨_, rfl⟩
  have e1 : (h : Int) / 2 = s := by omega
  have e2 : (h : Int) % 2 = 1 := by omega
  have e3 : (s : Int) - k = i := by omega
  have hks : (k : Int) ≤ s := by omega
  have hs16 : s ≤ 16 := by omega
  have hh33 : h ≤ 33 := by omega
  obtain ⟨ik, hik⟩ : ∃ ik, ik = i * k := ⟨_, rfl⟩
  have e4 : (i : Int) * k = ik := by rw [hik]; simp
  have hik2 : ik + k ≤ 256 := by
    have h4 := Nat.mul_le_mul (show i + 1 ≤ 16 by omega) (show k ≤ 16 by omega)
    rw [Nat.succ_mul] at h4; omega
  have hikr : ik + k ≤ r * k := by
    have h4 := Nat.mul_le_mul_right k (show i + 1 ≤ r by omega)
    rw [Nat.succ_mul] at h4; omega
  have hc32 : c ≤ 32 := by omega
  have hmk := run_make8 c (by omega)
  have HH : Hid _ := hh
  have HC : Hid _ := hc
  have HIK : Hid _ := hik
  have HIKR : Hid _ := hikr
  have HI : Hid _ := hi
  clear hc hh hs hik hikr hi
  go_enter Tryd.func21, Tryd.ntmps21
  go_wp2_with fail
  have B1 := heap_alloc_last w (.cells (vfs (zeros c)) 5)
  have HB : Hid _ := (Below.refl w.heap.size w).alloc (Nat.le_refl _) (.cells (vfs (zeros c)) 5)
  have HA : Hid (Holds (w.alloc (.cells (vfs (zeros c)) 5)) [(w.heap.size, .cells (vfs (zeros c)) 5 (0, 0))]) := holds_cons (holds_nil _) B1
  clear B1
  refine Calls.mono (rparity_F k r _ h1 h2 h3) ?_
  rintro e w2 ⟨g, m, rfl, hm, hg, hh2, hb2⟩
  have HA2 : Hid _ := holds_new (holds_cons (holds_later HA.out hb2) hh2) #[.int .i64 r, .int .i64 k, .slice (some ⟨g, 0, none⟩) m m] 42
  have hB2 := HB.out.trans (hb2.mono HB.out.size)
  have HB2 : Hid _ := hB2.alloc hB2.size (.cells #[.int .i64 r, .int .i64 k, .slice (some ⟨g, 0, none⟩) m m] 42)
  have HM : Hid _ := hm
  have hz := hB2.size
  have HGN : Hid (w.heap.size < g) := by simp only [World.size_alloc] at hg; exact hg
  clear hb2 hh2 hm hB2 HA HB hmk hg
  go_wp2
  generalize hMM : w2.heap.size = M at *
  generalize (w2.alloc (.cells #[.int .i64 r, .int .i64 k, .slice (some ⟨g, 0, none⟩) m m] 42)) = W3 at *
  clear hMM
  obtain ⟨f, hf⟩ : ∃ f, f = halfF k car h := ⟨_, rfl⟩
  have HF : Hid _ := hf
  clear hf
  go_loopw [11] (fun v wr => ∃ j : Nat, j ≤ k ∧ v = .int .i64 j ∧ Below w.heap.size w wr ∧ Holds wr [(M, .cells #[.int .i64 r, .int .i64 k, .slice (some ⟨g, 0, none⟩) m m] 42 (0, 0)), (g, .cells (vfs (parM k r)) 5 (0, 0)), (w.heap.size, .cells (vfs (colP c f (2 * j))) 5 (0, 0))]) (fun v _ => k - (intOf v).toNat)
  case atStart => exact ⟨0, by omega, rfl, HB2.out, by rw [Nat.mul_zero, ← colP_zero]; exact HA2.out⟩
  case round =>
    obtain ⟨j, hj, rfl, hb, hh⟩ := hrel
    have HB : Hid _ := hb
    have HH1 : Hid _ := hh
    clear hb hh
    by_cases hlt : j < k
    · have c1 := cellAt (holds_at HH1.out 0 rfl) 2 _ rfl
      have hjc : 2 * j + 1 < c := by have := HC.out; omega
      have c2 := cellAt (holds_at HH1.out 2 rfl) (2 * j + 1) _ (vfs_get _ _ (by rw [colP_len]; exact hjc))
      rw [colP_at hjc (2 * j) (by omega)] at c2
      have hc2 : (((0 : F).toNat : Nat) : Int) = 0 := rfl
      rw [hc2] at c2
      have c3 := frozen_of_row _ w.heap.size (2 * j + 1) _ _ (holds_at HH1.out 2 rfl)
      have hpa : at8 (parM k r) (ik + j) = cyN (k + i) j := by rw [HIK.out]; exact parM_at HI.out hlt
      have c4 := cellAt (holds_at HH1.out 1 rfl) (ik + j) _ (vfs_get _ _ (by have := HIKR.out; rw [parM_len]; omega))
      rw [hpa] at c4
      have hx := xor_val 0 (cyN (k + i) j)
      rw [hc2, show ga 0 (cyN (k + i) j) = cyN (k + i) j from F.zero_add _] at hx
      have hfo : f (2 * j + 1) = cyN (k + i) j := by rw [HF.out]; exact half_even (q := j) HH.out (by decide)
      rw [← hfo] at c4 hx
      have HFO : Hid _ := hfo
      clear hpa hc2 hfo
      have hjm : ik + j < m := by have := HIKR.out; rw [HM.out]; omega
      go_upto_region 10 with fail
      go_region
      obtain ⟨L1, hL⟩ : ∃ L1, L1 = (colP c f (2 * j)).set (2 * j + 1) (f (2 * j + 1)) := ⟨_, rfl⟩
      have k1 : (wr.setCell ⟨w.heap.size, 2 * j + 1, none⟩ (.int .u8 ((f (2 * j + 1)).toNat : Int))).drew.heap[w.heap.size]? = some (.cells (vfs L1) 5 (0, 0)) := by
        rw [hL, ← vfs_set]
        exact heap_setCell_same _ _ _ _ _ _ (holds_at HH1.out 2 rfl)
      have kA : (wr.setCell ⟨w.heap.size, 2 * j + 1, none⟩ (.int .u8 ((f (2 * j + 1)).toNat : Int))).drew.heap[M]? = some (.cells #[.int .i64 r, .int .i64 k, .slice (some ⟨g, 0, none⟩) m m] 42 (0, 0)) := (heap_setCell_other _ _ _ _ (hkind_ne (holds_at HH1.out 0 rfl) (holds_at HH1.out 2 rfl) (by decide))).trans (holds_at HH1.out 0 rfl)
      have kG : (wr.setCell ⟨w.heap.size, 2 * j + 1, none⟩ (.int .u8 ((f (2 * j + 1)).toNat : Int))).drew.heap[g]? = some (.cells (vfs (parM k r)) 5 (0, 0)) := (heap_setCell_other _ _ _ _ (by have := HGN.out; show g ≠ w.heap.size; omega)).trans (holds_at HH1.out 1 rfl)
      have HBx : Hid _ := (HB.out.setCell (p := ⟨w.heap.size, 2 * j + 1, none⟩) (Nat.le_refl _) (.int .u8 ((f (2 * j + 1)).toNat : Int))).drew
      have HHx : Hid _ := holds_cons (holds_cons (holds_cons (holds_nil _) k1) kG) kA
      clear k1 kA kG c1 c2 c3 c4 hx
      generalize (wr.setCell ⟨w.heap.size, 2 * j + 1, none⟩ (.int .u8 ((f (2 * j + 1)).toNat : Int))).drew = wx at *
      have HL : Hid _ := hL
      clear hL
      go_wp2_with fail
      refine (HCA.out j _ (by omega)).mono ?_
      rintro e wy ⟨rfl, rfl⟩
      by_cases hcar : car j = i
      · have hff : f (2 * j) = 1 := by rw [HF.out, half_car HH.out, if_pos hcar]
        have hL2 : L1.set (2 * j) 1 = colP c f (2 * (j + 1)) := by
          rw [HL.out, ← hff, List.set_comm _ _ (by omega), colP_step, colP_step]
          rfl
        have c2 := cellAt (holds_at HHx.out 2 rfl) (2 * j) _ (vfs_get _ _ (by rw [HL.out, List.length_set, colP_len]; omega))
        have c0 : at8 L1 (2 * j) = 0 := by
          have := colP_at (f := f) (show 2 * j < c by omega) (2 * j) (Nat.le_refl _)
          rw [HL.out]
          simp only [at8] at this ⊢
          rw [List.getD_eq_getElem?_getD, List.getElem?_set_ne (by omega), ← List.getD_eq_getElem?_getD]
          exact this
        rw [c0, show (((0 : F).toNat : Nat) : Int) = 0 from rfl] at c2
        have c3 := frozen_of_row _ w.heap.size (2 * j) _ _ (holds_at HHx.out 2 rfl)
        have hx1 : bits .xor .u8 0 1 = 1 := by decide
        have hci : (car j : Int) = i := by omega
        have HL2 : Hid _ := hL2
        clear hL2 c0 hff hcar
        go_wp2
        have k1 : (wx.setCell ⟨w.heap.size, 2 * j, none⟩ (.int .u8 1)).heap[w.heap.size]? = some (.cells (vfs (colP c f (2 * (j + 1)))) 5 (0, 0)) := by
          rw [heap_setCell_same _ _ _ _ _ _ (holds_at HHx.out 2 rfl), ← HL2.out, ← vfs_set]
          rfl
        have kA : (wx.setCell ⟨w.heap.size, 2 * j, none⟩ (.int .u8 1)).heap[M]? = some (.cells #[.int .i64 r, .int .i64 k, .slice (some ⟨g, 0, none⟩) m m] 42 (0, 0)) := (heap_setCell_other _ _ _ _ (hkind_ne (holds_at HHx.out 0 rfl) (holds_at HHx.out 2 rfl) (by decide))).trans (holds_at HHx.out 0 rfl)
        have kG : (wx.setCell ⟨w.heap.size, 2 * j, none⟩ (.int .u8 1)).heap[g]? = some (.cells (vfs (parM k r)) 5 (0, 0)) := (heap_setCell_other _ _ _ _ (by have := HGN.out; show g ≠ w.heap.size; omega)).trans (holds_at HHx.out 1 rfl)
        exact ⟨⟨j + 1, by omega, by go_num, HBx.out.setCell (Nat.le_refl _) _, holds_cons (holds_cons (holds_cons (holds_nil _) k1) kG) kA⟩, by simp [intOf]; omega⟩
      · have hff : f (2 * j) = 0 := by rw [HF.out, half_car HH.out, if_neg hcar]
        have hL2 : L1 = colP c f (2 * (j + 1)) := by
          rw [HL.out, colP_skip hff, colP_step]
          rfl
        rw [hL2] at HHx
        have hci : ¬ (car j : Int) = i := by omega
        clear hL2 hff hcar
        go_wp2
        exact ⟨⟨j + 1, by omega, by go_num, HBx.out, HHx.out⟩, by simp [intOf]; omega⟩
    · obtain rfl : j = k := by omega
      have k1 := holds_at HH1.out 2 rfl
      rw [← HC.out, colP_done, HF.out] at k1
      have HK1 : Hid _ := k1
      clear k1
      go_wp2
      go_ret
      exact ⟨w.heap.size, c, rfl, rfl, Nat.le_refl _, HK1.out, HB.out⟩
theorem rrow_F (k r h : Nat) (w : World) (h1 : 1 ≤ k) (h2 : 2 ≤ r) (h3 : k + r ≤ 16) (hh : h < 2 * (k + r)) :
    Calls Tryd.prog 21 #[.int .i64 k, .int .i64 r, .int .i64 h] w fun e w' => ∃ g n, e = .returned (.slice (some ⟨g, 0, none⟩) n n) ∧ n = 2 * k ∧ w.heap.size ≤ g ∧
      w'.heap[g]? = some (.cells (vfs (rowF (2 * k) (halfF k (carN (groupN k r)) h))) 5 (0, 0)) ∧ Below w.heap.size w w' := by
  by_cases hs : h / 2 < k
  · exact rrow_unit k r h (h / 2) (h % 2) w h1 h2 h3 (by omega) (by omega) hs
  · rcases (show h % 2 = 0 ∨ h % 2 = 1 by omega) with e | e
    · exact rrow_0 k r h (h / 2 - k) w h1 h2 h3 (by omega) (by omega)
    · exact rrow_1 k r h (h / 2 - k) w h1 h2 h3 (by omega) (by omega)
end Go.Proofs.YtlcaodnimnghoaaDoor

/- The walk of HalfImages: at all numbers. -/
namespace Go.Proofs.YtlcaodnimnghoaaDoor
open Go.RowKit Gf
set_option linter.unusedVariables false
set_option maxRecDepth 20000
/-- which data shards have been marked: the first q of a list -/
def markF (k : Nat) (L : List Nat) (q : Nat) : List F := rowF k (fun j => if j ∈ L.take q then 1 else 0)
theorem markF_len (k : Nat) (L : List Nat) (q : Nat) : (markF k L q).length = k := rowF_len _ _
theorem markF_zero (k : Nat) (L : List Nat) : zeros k = markF k L 0 := rowF_eq (zeros_len k) fun j hj => by simp [at8_zeros]
theorem markF_step {k q x : Nat} {L : List Nat} (h : L[q]? = some x) : (markF k L q).set x 1 = markF k L (q + 1) := by
  rw [markF, rowF_set]
  refine rowF_congr fun j hj => ?_
  have hq : q < L.length := (List.getElem?_eq_some_iff.1 h).1
  have hx : L[q] = x := (List.getElem?_eq_some_iff.1 h).2
  rw [List.take_succ_eq_append_getElem hq, hx]
  by_cases e : j = x
  · rw [if_pos e, if_pos (by simp [e])]
  · rw [if_neg e]
    by_cases e2 : j ∈ L.take q
    · rw [if_pos e2, if_pos (by simp [e2])]
    · rw [if_neg e2, if_neg (by simp [e2, e])]
theorem markF_at {k g i j : Nat} (hj : j < k) : at8 (markF k (carL k g i) (carL k g i).length) j = if carN g j = i then 1 else 0 := by
  rw [markF, at8_rowF hj, List.take_length]
  by_cases e : carN g j = i
  · rw [if_pos e, if_pos (by rw [carL, pickB, List.mem_filter]; exact ⟨List.mem_range.2 hj, decide_eq_true e⟩)]
  · rw [if_neg e, if_neg (fun h => by rw [carL, pickB, List.mem_filter] at h; exact e (of_decide_eq_true h.2))]
theorem hgrown_cell {w w' : World} {g b off : Nat} {v : Value} (h : w.grownBy w' (some g)) (hc : w.cell? ⟨b, off, none⟩ = some v) (hne : b ≠ g) : w'.cell? ⟨b, off, none⟩ = some v := by
  have hlt := World.block_lt_of_cell? _ _ hc
  have := h.block b (by simpa using hlt) (by simpa using hne)
  simpa [World.cell?, this] using hc
/-- a number's block is no block of bytes -/
theorem hsmall {w : World} {b off q g : Nat} {ns : List Int} {n : Int} {xs : List F} {t : TypeId} {fr : Nat × Nat} (h : ∀ j m, ns[j]? = some m → w.cell? ⟨b, off + j, none⟩ = some (.int .i64 m)) (hq : ns[q]? = some n) (hg : w.heap[g]? = some (.cells (vfs xs) t fr)) : b ≠ g := by
  intro e
  subst e
  have h1 := h q n hq
  rw [cell_of_row _ _ _ _ _ _ hg] at h1
  simp [vfs] at h1
  obtain ⟨x, _, hx⟩ := h1
  simp [vf] at hx
theorem cyN_ne {i j : Nat} (hi : i < 256) (hj : j < 256) (h : i ≠ j) : cyN i j ≠ 0 := by
  intro e
  have h0 : ga (elN i) (elN j) ≠ 0 := ga_ne fun e => h (elN_inj hi hj e)
  exact F.inv_ne_zero h0 e
set_option maxHeartbeats 8000000 in
theorem images_ok (k r : Nat) (w : World) (s1 : Addr) (hs1 : w.cell? ⟨3, 0, none⟩ = some (errAt s1)) (h1 : 1 ≤ k) (h2 : 2 ≤ r) (h3 : k + r ≤ 16) :
    Calls Tryd.prog 8 #[.int .i64 k, .int .i64 r] w fun e w' => e = .returned (.bool true) ∧ Below w.heap.size w w' := by
  have HS1 : Hid _ := hs1
  clear hs1
  have hmk := run_make8 k (by omega)
  go_enter Tryd.func8, Tryd.ntmps8
  go_wp2_with fail
  refine Calls.mono (alive5_ok _ s1 HS1.out) ?_
  rintro e w1 ⟨rfl, hb⟩
  have HB1 : Hid _ := hb
  clear hb
  go_wp2_with fail
  refine Calls.mono (legal_yes k r _ h1 h2 h3) ?_
  rintro e w2 ⟨rfl, rfl⟩
  go_wp2_with fail
  refine Calls.mono (hrows_F k r _ s1 (cell_later HB1.out HS1.out) h1 h2 h3) ?_
  obtain ⟨m, hm⟩ : ∃ m, m = 2 * (k + r) := ⟨_, rfl⟩
  obtain ⟨c, hc⟩ : ∃ c, c = 2 * k := ⟨_, rfl⟩
  have hml := halfM_len k r
  have hrh : Hid (∀ h, h < m → rowAt c (halfM k r) h = rowF c (halfF k (carN (groupN k r)) h)) := fun h hh => by rw [hc]; exact rowAt_grid (by omega)
  have em : (2 : Int) * ((k : Int) + r) = m := by omega
  have ec : (2 : Int) * (k : Int) = c := by omega
  rw [← hm, ← hc] at hml ⊢
  have HM : Hid _ := hm
  have HC : Hid _ := hc
  have HML : Hid _ := hml
  have hm32 : m ≤ 32 := by omega
  have hc32 : c ≤ 32 := by omega
  clear hm hc hml
  rintro e w3 ⟨g3, l3, rfl, hl3, hg3, hh3, hb⟩
  have HA3 : Hid _ := holds_new (holds_cons (holds_nil w3) hh3) #[.int .i64 m, .int .i64 c, .slice (some ⟨g3, 0, none⟩) l3 l3] 42
  have hb3 : Below w.heap.size w w3 := HB1.out.trans (hb.mono HB1.out.size)
  have HB3 : Hid _ := hb3.alloc hb3.size (.cells #[.int .i64 m, .int .i64 c, .slice (some ⟨g3, 0, none⟩) l3 l3] 42)
  have HL3 : Hid _ := hl3
  clear hb hb3 hl3 hg3 hh3
  have c1 := cellAt (holds_at HA3.out 0 rfl) 0 _ rfl
  have c2 := cellAt (holds_at HA3.out 0 rfl) 1 _ rfl
  go_wp2
  clear c1 c2
  generalize (w3.alloc (.cells #[.int .i64 m, .int .i64 c, .slice (some ⟨g3, 0, none⟩) l3 l3] 42)) = W3 at *
  generalize w3.heap.size = N at *
  go_loopw [7] (fun v wr => ∃ i : Nat, i ≤ r ∧ v = .int .i64 i ∧ Below w.heap.size w wr ∧ Holds wr [(N, .cells #[.int .i64 m, .int .i64 c, .slice (some ⟨g3, 0, none⟩) l3 l3] 42 (0, 0)), (g3, .cells (vfs (halfM k r)) 5 (0, 0))]) (fun v _ => r - (intOf v).toNat)
  case atStart => exact ⟨0, by omega, rfl, HB3.out, HA3.out⟩
  case round =>
    obtain ⟨i, hi, rfl, hb, hh⟩ := hrel
    have HB : Hid _ := hb
    have HH : Hid _ := hh
    clear hb hh
    by_cases hlt : i < r
    rotate_left
    · obtain rfl : i = r := by omega
      go_wp2
      go_ret
      exact ⟨rfl, HB.out⟩
    obtain ⟨h, hh⟩ : ∃ h, h = 2 * (k + i) := ⟨_, rfl⟩
    have eh : (2 : Int) * ((k : Int) + i) = h := by omega
    have hhm : h + 1 < m := by have := HM.out; omega
    have HHE : Hid _ := hh
    clear hh
    have c1 := cellAt (holds_at HH.out 0 rfl) 0 _ rfl
    have c2 := cellAt (holds_at HH.out 0 rfl) 1 _ rfl
    have c3 := cellAt (holds_at HH.out 0 rfl) 2 _ rfl
    have z3 := ltHeap (holds_at HH.out 0 rfl)
    go_wp2_with fail
    refine Calls.mono (row_F m c l3 l3 h (some ⟨g3, 0, none⟩) (halfM k r) _ (by omega) (by omega) HL3.out HML.out (Nat.le_refl _) (holds_row HH.out 1 rfl) (fun h => by cases h) (by omega)) ?_
    rw [hrh.out h (by omega)]
    rintro e w4 ⟨a4, cap4, rfl, hr4, hn4, h4, hb4⟩
    obtain ⟨g4, rfl, hg4, hh4⟩ := h4 (by simp)
    have HX4 : Hid (Has8 w4 g4 (rowF c (halfF k (carN (groupN k r)) h)) cap4) := hh4
    have HB4 : Hid (Below w.heap.size w w4) := HB.out.trans (hb4.mono HB.out.size)
    have HH4 : Hid _ := holds_later HH.out hb4
    clear hr4 hn4 h4 hb4 hg4 hh4 c1 c2 c3 z3
    have c1 := cellAt (holds_at HH4.out 0 rfl) 0 _ rfl
    have c2 := cellAt (holds_at HH4.out 0 rfl) 1 _ rfl
    have c3 := cellAt (holds_at HH4.out 0 rfl) 2 _ rfl
    have z3 := ltHeap (holds_at HH4.out 0 rfl)
    go_wp2_with fail
    refine Calls.mono (row_F m c l3 l3 (h + 1) (some ⟨g3, 0, none⟩) (halfM k r) _ (by omega) (by omega) HL3.out HML.out (Nat.le_refl _) (holds_row HH4.out 1 rfl) (fun h => by cases h) (by omega)) ?_
    rw [hrh.out (h + 1) (by omega)]
    rintro e w5 ⟨a5, cap5, rfl, hr5, hn5, h5, hb5⟩
    obtain ⟨g5, rfl, hg5, hh5⟩ := h5 (by simp)
    have HX5 : Hid (Has8 w5 g5 (rowF c (halfF k (carN (groupN k r)) (h + 1))) cap5) := hh5
    have HY5 : Hid (Has8 w5 g4 (rowF c (halfF k (carN (groupN k r)) h)) cap4) := has8_below HX4.out hb5
    have HB5 : Hid (Below w.heap.size w w5) := HB4.out.trans (hb5.mono HB4.out.size)
    have HH5 : Hid _ := holds_later HH4.out hb5
    clear hr5 hn5 h5 hb5 hg5 hh5 c1 c2 c3 z3 HX4 HH4 HB4
    go_wp2_with fail
    refine Calls.mono (hcarried_F k r i _ h1 h2 h3 hlt) ?_
    rintro e w6 ⟨a6, n6, cap6, rfl, hn6, hrow6, _, hb6⟩
    have HX6 : Hid (Has8 w6 g5 (rowF c (halfF k (carN (groupN k r)) (h + 1))) cap5) := has8_below HX5.out hb6
    have HY6 : Hid (Has8 w6 g4 (rowF c (halfF k (carN (groupN k r)) h)) cap4) := has8_below HY5.out hb6
    have HB6 : Hid (Below w.heap.size w w6) := HB5.out.trans (hb6.mono HB5.out.size)
    have HH6 : Hid _ := holds_later HH5.out hb6
    have hn16 : n6 ≤ 16 := by rw [hn6]; have := cntB_le (fun x => decide (carN (groupN k r) x = i)) k; show cntB _ k ≤ 16; omega
    have HN6 : Hid _ := hn6
    have HROW6 : Hid _ := hrow6
    clear hn6 hrow6 hb6 HX5 HY5 HB5 HH5
    go_wp2
    have B0 := heap_alloc_last w6 (.cells (vfs (zeros k)) 5)
    have HX7 : Hid (Has8 (w6.alloc (.cells (vfs (zeros k)) 5)) g5 (rowF c (halfF k (carN (groupN k r)) (h + 1))) cap5) := has8_below HX6.out ((Below.refl _ _).alloc (Nat.le_refl _) _)
    have HY7 : Hid (Has8 (w6.alloc (.cells (vfs (zeros k)) 5)) g4 (rowF c (halfF k (carN (groupN k r)) h)) cap4) := has8_below HY6.out ((Below.refl _ _).alloc (Nat.le_refl _) _)
    have HB7 : Hid _ := HB6.out.alloc HB6.out.size (.cells (vfs (zeros k)) 5)
    have HH7 : Hid _ := holds_alloc HH6.out (.cells (vfs (zeros k)) 5)
    have HR7 : Hid (RowI (w6.alloc (.cells (vfs (zeros k)) 5)) a6 (castL (carL k (groupN k r) i))) := rowI_below HROW6.out ((Below.refl _ _).alloc (Nat.le_refl _) _)
    have hg5 : g5 < w6.heap.size := by obtain ⟨cur, h9, _⟩ := HX6.out; exact ltHeap h9
    have hg4 : g4 < w6.heap.size := by obtain ⟨cur, h9, _⟩ := HY6.out; exact ltHeap h9
    have hgw : w.heap.size ≤ w6.heap.size := HB6.out.size
    have HNG : Hid (N < w6.heap.size ∧ g3 < w6.heap.size) := ⟨ltHeap (holds_at HH6.out 0 rfl), ltHeap (holds_at HH6.out 1 rfl)⟩
    have HB00 : Hid _ := B0
    clear B0 HX6 HY6 HB6 HH6 HROW6
    generalize (w6.alloc (.cells (vfs (zeros k)) 5)) = W7 at *
    generalize w6.heap.size = gi at *
    go_loopw [107] (fun v wr => ∃ q : Nat, q ≤ n6 ∧ v = .int .i64 q ∧ W7.grownBy wr (some gi) ∧ wr.heap[gi]? = some (.cells (vfs (markF k (carL k (groupN k r) i) q)) 5 (0, 0))) (fun v _ => n6 - (intOf v).toNat)
    case atStart => exact ⟨0, by omega, rfl, World.grownBy.refl _ _, by rw [← markF_zero]; exact HB00.out⟩
    case round =>
      obtain ⟨q, hq, rfl, hgb, hin⟩ := hrel
      have HGB : Hid _ := hgb
      have HIN : Hid _ := hin
      clear hgb hin
      by_cases hqn : q < n6
      · obtain ⟨x, hx⟩ : ∃ x, (carL k (groupN k r) i)[q]? = some x := ⟨_, List.getElem?_eq_getElem (by rw [← HN6.out]; exact hqn)⟩
        rcases HR7.out with e0 | ⟨b, off, rfl, hrows⟩
        · have := congrArg List.length e0
          rw [castL_len, ← HN6.out] at this
          simp at this; omega
        have c1 := hgrown_cell HGB.out (hrows q _ (castL_at hx)) (hsmall hrows (castL_at hx) HB00.out)
        obtain ⟨x1, x2⟩ := carL_at hx
        have c2 := cellAt HIN.out x _ (vfs_get _ _ (by rw [markF_len]; exact x1))
        have c3 := frozen_of_row _ gi x _ _ HIN.out
        have hst := markF_step (k := k) hx
        have HST : Hid _ := hst
        clear hrows hx hst x2
        go_wp2
        refine ⟨⟨q + 1, by omega, by go_num, grownBy_setCell HGB.out _, ?_⟩, by simp [intOf]; omega⟩
        rw [heap_setCell_same _ _ _ _ _ _ HIN.out, ← HST.out, ← vfs_set]
        rfl
      · obtain rfl : q = n6 := by omega
        generalize wr = wq at *
        have HX8 : Hid _ := has8_grown HX7.out HGB.out (by simp; omega)
        have HY8 : Hid _ := has8_grown HY7.out HGB.out (by simp; omega)
        have HB8 : Hid (Below w.heap.size w wq) := below_grown HB7.out HGB.out hgw
        have HH8 : Hid (Holds wq [(N, .cells #[.int .i64 m, .int .i64 c, .slice (some ⟨g3, 0, none⟩) l3 l3] 42 (0, 0)), (g3, .cells (vfs (halfM k r)) 5 (0, 0))]) := holds_cons (holds_cons (holds_nil _) (grown_block HGB.out (holds_at HH7.out 1 rfl) (by have := HNG.out.2; omega))) (grown_block HGB.out (holds_at HH7.out 0 rfl) (by have := HNG.out.1; omega))
        clear HX7 HY7 HB7 HH7 HGB
        go_wp2
        go_loopw [17] (fun v wr => ∃ j : Nat, j ≤ k ∧ v = .int .i64 j ∧ Below wq.heap.size wq wr) (fun v _ => k - (intOf v).toNat)
        case atStart => exact ⟨0, by omega, rfl, Below.refl _ _⟩
        case round =>
          obtain ⟨j, hj, rfl, hbt⟩ := hrel
          generalize wr = wt at *
          have HBT : Hid _ := hbt
          clear hbt
          by_cases hjk : j < k
          · have hjc : 2 * j + 1 < c := by have := HC.out; omega
            obtain ⟨y, hy⟩ : ∃ y, y = cyN (k + i) j := ⟨_, rfl⟩
            obtain ⟨t, ht⟩ : ∃ t : F, t = if carN (groupN k r) j = i then 1 else 0 := ⟨_, rfl⟩
            have d1 := has8_cell HY8.out (j := 2 * j + 1) (by rw [rowF_len]; omega)
            have d2 := has8_cell HY8.out (j := 2 * j) (by rw [rowF_len]; omega)
            have d3 := has8_cell HX8.out (j := 2 * j + 1) (by rw [rowF_len]; omega)
            have d4 := has8_cell HX8.out (j := 2 * j) (by rw [rowF_len]; omega)
            have d5 := cellAt HIN.out j _ (vfs_get _ _ (by rw [markF_len]; exact hjk))
            rw [at8_rowF (by omega), half_odd HHE.out] at d1
            have f2 : halfF k (carN (groupN k r)) h (2 * j) = y := by rw [hy]; exact half_even (q := j) (p := 0) HHE.out (by decide)
            have f2' : at8 (rowF c (halfF k (carN (groupN k r)) h)) (2 * j) = y := by rw [at8_rowF (by omega)]; exact f2
            rw [f2'] at d2
            have f3 : halfF k (carN (groupN k r)) (h + 1) (2 * j + 1) = y := by rw [hy]; exact half_even (q := j) (p := 1) (by rw [HHE.out]) (by decide)
            have f3' : at8 (rowF c (halfF k (carN (groupN k r)) (h + 1))) (2 * j + 1) = y := by rw [at8_rowF hjc]; exact f3
            rw [f3'] at d3
            rw [at8_rowF (by omega), half_car (h := h + 1) (show h + 1 = 2 * (k + i) + 1 by rw [HHE.out]), ← ht] at d4
            rw [HN6.out, markF_at hjk, ← ht] at d5
            have hy0 : ¬ ((y.toNat : Int) = 0) := fun e => cyN_ne (i := k + i) (j := j) (by omega) (by omega) (by omega) (by rw [← hy]; exact F.val_eq_zero.1 (by omega))
            have hy1 : ((y.toNat : Int) == 0) = false := beq_eq_false_iff_ne.2 hy0
            obtain ⟨p0, hp0⟩ : ∃ p0, p0 = 2 * j := ⟨_, rfl⟩
            obtain ⟨p1, hp1⟩ : ∃ p1, p1 = 2 * j + 1 := ⟨_, rfl⟩
            rw [← hp1] at d1 d3
            rw [← hp0] at d2 d4
            have e0 : 2 * (j : Int) = p0 := by omega
            have e1 : (p0 : Int) + 1 = p1 := by omega
            have w1 : IntKind.i64.wrap (p0 : Int) = p0 := IntWalk.i64_in _ (by omega)
            have w2 : IntKind.i64.wrap (p1 : Int) = p1 := IntWalk.i64_in _ (by omega)
            have b1 : p1 < c := by omega
            have b0 : p0 < c := by omega
            have j1 : (p1 : Int) < c := by omega
            have j2 : (p0 : Int) < c := by omega
            have j3 : (j : Int) < k := by omega
            have c1 : ∀ u, Below wt.heap.size wt u → u.cell? ⟨g4, p1, none⟩ = some (.int .u8 0) := fun u hb => cell_later hb (cell_later HBT.out d1.1)
            have c2 : ∀ u, Below wt.heap.size wt u → u.cell? ⟨g4, p0, none⟩ = some (.int .u8 (y.toNat : Int)) := fun u hb => cell_later hb (cell_later HBT.out d2.1)
            have c3 : ∀ u, Below wt.heap.size wt u → u.cell? ⟨g5, p1, none⟩ = some (.int .u8 (y.toNat : Int)) := fun u hb => cell_later hb (cell_later HBT.out d3.1)
            have c4 : ∀ u, Below wt.heap.size wt u → u.cell? ⟨g5, p0, none⟩ = some (.int .u8 (t.toNat : Int)) := fun u hb => cell_later hb (cell_later HBT.out d4.1)
            have c5 : ∀ u, Below wt.heap.size wt u → u.cell? ⟨gi, j, none⟩ = some (.int .u8 (t.toNat : Int)) := fun u hb => cell_later hb (cell_later HBT.out d5)
            clear hp0 hp1 hjc
            have hR2 : Below wt.heap.size wt wt.drew := (Below.refl _ _).drew
            clear d1 d2 d3 d4 d5 hy ht f2 f2' f3 f3'
            go_upto_region 25 with fail
            go_region_held3 (fun w' => Below wt.heap.size wt w') (first | assumption | (refine Below.drew ?_; assumption)) (first | (go_at_call 30; refine Calls.mono (add_s t _) ?_; rintro e wz ⟨rfl, rfl⟩))
            go_wp2
            exact ⟨⟨j + 1, by omega, by go_num, HBT.out.drew⟩, by simp [intOf]; omega⟩
          · obtain rfl : j = k := by omega
            go_wp2
            exact ⟨⟨i + 1, by omega, by go_num, HB8.out.trans (HBT.out.mono HB8.out.size), holds_later HH8.out HBT.out⟩, by simp [intOf]; omega⟩
theorem images_walk (k r : Int) (w : World) (hk0 : -9223372036854775808 ≤ k) (hk1 : k ≤ 9223372036854775807) (hr0 : -9223372036854775808 ≤ r) (hr1 : r ≤ 9223372036854775807) (es : List Addr) (hes : ErrsAt w gsHalf es) :
    Calls Tryd.prog 8 #[.int .i64 k, .int .i64 r] w fun e w' => e = .returned (.bool true) ∧ Below w.heap.size w w' := by
  obtain ⟨s1, _, hs1, _⟩ := errs_at hes 1 _ rfl
  by_cases hL : LegalP k r
  · obtain ⟨a, b, rfl, rfl, h1, h2, h3⟩ := legal_nat hL
    exact images_ok a b w s1 hs1 h1 h2 h3
  · have H : Hid _ := hL
    have HS : Hid _ := hs1
    clear hL hs1 hes
    go_enter Tryd.func8, Tryd.ntmps8
    go_wp2_with fail
    refine Calls.mono (alive5_ok _ s1 HS.out) ?_
    rintro e w1 ⟨rfl, hb⟩
    have HB1 : Hid _ := hb
    clear hb
    go_wp2_with fail
    refine Calls.mono (legal_no k r _ hk0 hk1 hr0 hr1 H.out) ?_
    rintro e w2 ⟨rfl, rfl⟩
    go_wp2
    go_ret
    exact ⟨rfl, HB1.out⟩
end Go.Proofs.YtlcaodnimnghoaaDoor
