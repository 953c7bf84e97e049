/- What rowAt of package half answers; nothing that was there turns. -/
import Derived.Test.YtkoakingmnjdoabDoorHalfF
import Derived.Test.YtkoakingmnjdoabDoorHalfL
import Derived.Test.YtkoakingmnjdoabDoorMatV
import Derived.BigRegion
import Derived.Deep.DeepCutAuto
import Derived.Deep.RegionHeld3
namespace Go.Proofs.YtkoakingmnjdoabDoor
open Go.RowKit Gf
set_option linter.unusedVariables false
set_option maxRecDepth 20000
/-- what stands at a variable of the half that stands at (s, p) -/
def placeF (k g s p : Nat) (xs : List F) : Nat → F := fun v => if v % 2 = p then at8 xs (v / 2) else if p = 1 ∧ s = k + carN g (v / 2) then 1 else 0
theorem placeF_same {k g s p q b : Nat} {xs : List F} (h : b = p) (hb : b < 2) : placeF k g s p xs (2 * q + b) = at8 xs q := by
  rw [placeF, if_pos (by omega), show (2 * q + b) / 2 = q by omega]
theorem placeF_yes {k g s q : Nat} {xs : List F} (h : s = k + carN g q) : placeF k g s 1 xs (2 * q) = 1 := by
  rw [placeF, if_neg (by omega), show 2 * q / 2 = q by omega, if_pos ⟨rfl, h⟩]
theorem placeF_no {k g s p q b : Nat} {xs : List F} (h : b ≠ p) (hb : b < 2) (h2 : p = 1 → s ≠ k + carN g q) : placeF k g s p xs (2 * q + b) = 0 := by
  rw [placeF, if_neg (by omega), show (2 * q + b) / 2 = q by omega, if_neg (fun h => h2 h.1 h.2)]
theorem colP_skip {r j : Nat} {f : Nat → F} (h : f j = 0) : colP r f j = colP r f (j + 1) := rowF_congr fun i hi => by
  by_cases e : i = j
  · subst e; rw [if_neg (by omega), if_pos (by omega), h]
  · by_cases e2 : i < j
    · rw [if_pos e2, if_pos (by omega)]
    · rw [if_neg e2, if_neg (by omega)]
set_option maxHeartbeats 4000000 in
theorem hrowAt_0 (k g s cap : Nat) (a : Option Addr) (xs : List F) (w : World) (h1 : 1 ≤ k) (h2 : k ≤ 16) (hg : 1 ≤ g) (hg2 : g ≤ 16) (hs : s ≤ 16) (hx : xs.length = k) (hX : Row8 w a xs) :
    Calls Tryd.prog 23 #[.agg #[.int .i64 s, .int .i64 0], .slice a k cap, .int .i64 g] w fun e w' => ∃ gb n, e = .returned (.slice (some ⟨gb, 0, none⟩) n n) ∧ n = 2 * k ∧ w.heap.size ≤ gb ∧
      w'.heap[gb]? = some (.cells (vfs (rowF (2 * k) (placeF k g s 0 xs))) 5 (0, 0)) ∧ Below w.heap.size w w' := by
  obtain ⟨m, hm⟩ : ∃ m, m = 2 * k := ⟨_, rfl⟩
  have em : (2 : Int) * k = m := by omega
  have hm32 : m ≤ 32 := by omega
  rw [← hm]
  have HM : Hid _ := hm
  clear hm
  have hmk := run_make8 m (by omega)
  rcases hX with e0 | ⟨b, off, rfl, hc⟩
  · rw [e0] at hx; simp at hx; omega
  have HX : Hid _ := hx
  have HC : Hid _ := hc
  clear hx hc
  obtain ⟨f, hf⟩ : ∃ f, f = placeF k g s 0 xs := ⟨_, rfl⟩
  rw [← hf]
  have HFE : Hid _ := hf
  clear hf
  go_enter Tryd.func23, Tryd.ntmps23
  go_wp2
  have B0 := heap_alloc2_old w (.cells #[.int .i64 s, .int .i64 0] 57) (.cells (vfs (zeros m)) 5)
  have B1 := heap_alloc2_new w (.cells #[.int .i64 s, .int .i64 0] 57) (.cells (vfs (zeros m)) 5)
  have B3 := ((Below.refl w.heap.size w).alloc (Nat.le_refl _) (.cells #[.int .i64 s, .int .i64 0] 57)).alloc (by simp) (.cells (vfs (zeros m)) 5)
  generalize hW : ((w.alloc (.cells #[.int .i64 s, .int .i64 0] 57)).alloc (.cells (vfs (zeros m)) 5)) = W3 at *
  have HS0 : Hid _ := B0
  have HS1 : Hid _ := B1
  have HS3 : Hid _ := B3
  clear hW hmk B0 B1 B3
  go_loopw [18] (fun i wr => ∃ j : Nat, j ≤ m ∧ i = .int .i64 j ∧ Below w.heap.size w wr ∧ wr.heap[w.heap.size]? = some (.cells #[.int .i64 s, .int .i64 0] 57 (0, 0)) ∧ wr.heap[w.heap.size + 1]? = some (.cells (vfs (colP m f j)) 5 (0, 0))) (fun i _ => m - (intOf i).toNat)
  case atStart => exact ⟨0, by omega, rfl, HS3.out, HS0.out, by rw [← colP_zero]; exact HS1.out⟩
  case round =>
    obtain ⟨j, hj, rfl, hb, hp0, hr0⟩ := hrel
    have HB : Hid _ := hb
    have HP : Hid _ := hp0
    have HR : Hid _ := hr0
    clear hb hp0 hr0
    by_cases hlt : j < m
    rotate_left
    · have e : j = m := by omega
      subst e
      have hr := HR.out
      rw [colP_done] at hr
      have HR' : Hid _ := hr
      clear hr
      go_wp2
      go_ret
      exact ⟨w.heap.size + 1, j, rfl, rfl, by omega, HR'.out, HB.out⟩
    obtain ⟨q, b, rfl, hb2⟩ : ∃ q b : Nat, j = 2 * q + b ∧ b < 2 := ⟨j / 2, j % 2, by omega, by omega⟩
    have hqk : q < k := by have := HM.out; omega
    rcases (show b = 0 ∨ b = 1 by omega) with rfl | rfl
    ·
      go_wp2_with fail
      refine (placeOf_F (2 * q) q 0 _ rfl (by decide) (by omega)).mono ?_
      rintro e w2 ⟨rfl, hb2⟩
      have zz := hb2.size
      have HP2 : Hid (w2.heap[w.heap.size]? = some (.cells #[.int .i64 s, .int .i64 0] 57 (0, 0))) := heap_later HP.out hb2
      have HR2 : Hid (w2.heap[w.heap.size + 1]? = some (.cells (vfs (colP m f (2 * q))) 5 (0, 0))) := heap_later HR.out hb2
      have HB2 : Hid (Below w.heap.size w w2) := HB.out.trans (hb2.mono HB.out.size)
      clear hb2
      have hA := holds_new (holds_cons (holds_cons (holds_nil w2) HP2.out) HR2.out) #[.int .i64 q, .int .i64 0] 57
      have HA : Hid _ := hA
      have HB3 : Hid _ := HB2.out.alloc HB2.out.size (.cells #[.int .i64 q, .int .i64 0] 57)
      clear hA
      have c1 := cellAt (holds_at HA.out 0 rfl) 0 _ rfl
      have c2 := cellAt (holds_at HA.out 0 rfl) 1 _ rfl
      have c3 := cellAt (holds_at HA.out 2 rfl) 0 _ rfl
      have c4 := cellAt (holds_at HA.out 2 rfl) 1 _ rfl
      have z4 := ltHeap (holds_at HA.out 2 rfl)
      have c5 := cell_later HB3.out (HC.out q (by rw [HX.out]; omega))
      have c6 := cellAt (holds_at HA.out 1 rfl) (2 * q) _ (vfs_get _ _ (by rw [colP_len]; omega))
      have c7 := frozen_of_row _ (w.heap.size + 1) (2 * q) _ _ (holds_at HA.out 1 rfl)
      have z5 : w.heap.size + 1 < w2.heap.size := ltHeap HR2.out
      go_upto_region 9 with fail
      have hfq : f (2 * q) = at8 xs q := by rw [HFE.out]; exact placeF_same (q := q) (b := 0) rfl (by decide)
      have hR5 : (w2.setCell ⟨w.heap.size + 1, (2 * q), none⟩ (.int .u8 ((at8 xs q).toNat : Int))).heap[w.heap.size + 1]? = some (.cells (vfs (colP m f ((2 * q) + 1))) 5 (0, 0)) := by
        rw [heap_setCell_same _ _ _ _ _ _ HR2.out, vfs_set, ← colP_step m f (2 * q), hfq]
      have hP5 : (w2.setCell ⟨w.heap.size + 1, (2 * q), none⟩ (.int .u8 ((at8 xs q).toNat : Int))).heap[w.heap.size]? = some (.cells #[.int .i64 s, .int .i64 0] 57 (0, 0)) := (heap_setCell_other _ _ _ _ (by show w.heap.size ≠ w.heap.size + 1; omega)).trans HP2.out
      have hB5 : Below w.heap.size w (w2.setCell ⟨w.heap.size + 1, (2 * q), none⟩ (.int .u8 ((at8 xs q).toNat : Int))) := HB2.out.setCell (by show w.heap.size ≤ w.heap.size + 1; omega) _
      have hZ5 : (w2.setCell ⟨w.heap.size + 1, (2 * q), none⟩ (.int .u8 ((at8 xs q).toNat : Int))).heap.size = w2.heap.size := by simp
      have k0 : Hid (((w2.setCell ⟨w.heap.size + 1, (2 * q), none⟩ (.int .u8 ((at8 xs q).toNat : Int))).alloc (.cells #[.int .i64 q, .int .i64 0] 57)).heap[w.heap.size]? = some (.cells #[.int .i64 s, .int .i64 0] 57 (0, 0))) := (Below.heap_alloc _ _ _ (ltHeap hP5)).trans hP5
      have k1 : Hid (((w2.setCell ⟨w.heap.size + 1, (2 * q), none⟩ (.int .u8 ((at8 xs q).toNat : Int))).alloc (.cells #[.int .i64 q, .int .i64 0] 57)).heap[w.heap.size + 1]? = some (.cells (vfs (colP m f ((2 * q) + 1))) 5 (0, 0))) := (Below.heap_alloc _ _ _ (ltHeap hR5)).trans hR5
      have k2 : Hid (((w2.setCell ⟨w.heap.size + 1, (2 * q), none⟩ (.int .u8 ((at8 xs q).toNat : Int))).alloc (.cells #[.int .i64 q, .int .i64 0] 57)).heap[w2.heap.size]? = some (.cells #[.int .i64 q, .int .i64 0] 57 (0, 0))) := by
        have := heap_alloc_last (w2.setCell ⟨w.heap.size + 1, (2 * q), none⟩ (.int .u8 ((at8 xs q).toNat : Int))) (.cells #[.int .i64 q, .int .i64 0] 57)
        rw [hZ5] at this
        exact this
      have kb : Hid (Below w.heap.size w ((w2.setCell ⟨w.heap.size + 1, (2 * q), none⟩ (.int .u8 ((at8 xs q).toNat : Int))).alloc (.cells #[.int .i64 q, .int .i64 0] 57))) := hB5.alloc hB5.size _
      clear hR5 hP5 hB5 hZ5
      generalize hWA : ((w2.setCell ⟨w.heap.size + 1, (2 * q), none⟩ (.int .u8 ((at8 xs q).toNat : Int))).alloc (.cells #[.int .i64 q, .int .i64 0] 57)) = wa at *
      clear hWA c1 c2 c3 c4 c5 c6 c7
      clear HA HB2 HB3 HP2 HR2
      have c1 := boxB (B := wa.heap.size) k0.out (ltHeap k0.out) 0 _ rfl
      have c2 := boxB (B := wa.heap.size) k0.out (ltHeap k0.out) 1 _ rfl
      have c3 := boxB (B := wa.heap.size) k2.out (ltHeap k2.out) 0 _ rfl
      have c4 := boxB (B := wa.heap.size) k2.out (ltHeap k2.out) 1 _ rfl
      obtain ⟨c, hcc⟩ : ∃ c, c = carN g q := ⟨_, rfl⟩
      have HCC : Hid _ := hcc
      have hcr := fun w => carrying_F k g q w (by omega) hg (by omega) (by omega)
      rw [← hcc] at hcr
      have HCR : Hid _ := hcr
      clear hcr hcc
      have hR2 : Below wa.heap.size wa wa.drew := (Below.refl _ _).drew
      go_region_held3 (fun w' => Below wa.heap.size wa w') (first | assumption | (refine Below.drew ?_; assumption)) (first | (go_at_call 41; refine Calls.mono (HCR.out _) ?_; rintro e wj ⟨rfl, hbj⟩; have hTa : Below wa.heap.size wa wj := Below.trans ‹Below wa.heap.size wa _› (Below.mono hbj (below_size ‹Below wa.heap.size wa _›)); clear hbj))
      have hB9 : Below w.heap.size w wj := kb.out.trans (hTa.mono kb.out.size)
      have hP9 := heap_later k0.out hTa
      have hR9 := heap_later k1.out hTa
      have hB : Hid _ := hB9
      have hP : Hid _ := hP9
      have hR : Hid _ := hR9
      clear hB9 hP9 hR9
      go_wp2
      exact ⟨⟨(2 * q) + 1, by omega, by go_num, hB.out, hP.out, hR.out⟩, by simp [intOf]; omega⟩
    ·
      go_wp2_with fail
      refine (placeOf_F (2 * q + 1) q 1 _ rfl (by decide) (by omega)).mono ?_
      rintro e w2 ⟨rfl, hb2⟩
      have zz := hb2.size
      have HP2 : Hid (w2.heap[w.heap.size]? = some (.cells #[.int .i64 s, .int .i64 0] 57 (0, 0))) := heap_later HP.out hb2
      have HR2 : Hid (w2.heap[w.heap.size + 1]? = some (.cells (vfs (colP m f (2 * q + 1))) 5 (0, 0))) := heap_later HR.out hb2
      have HB2 : Hid (Below w.heap.size w w2) := HB.out.trans (hb2.mono HB.out.size)
      clear hb2
      have hA := holds_new (holds_cons (holds_cons (holds_nil w2) HP2.out) HR2.out) #[.int .i64 q, .int .i64 1] 57
      have HA : Hid _ := hA
      have HB3 : Hid _ := HB2.out.alloc HB2.out.size (.cells #[.int .i64 q, .int .i64 1] 57)
      clear hA
      have c1 := cellAt (holds_at HA.out 0 rfl) 0 _ rfl
      have c2 := cellAt (holds_at HA.out 0 rfl) 1 _ rfl
      have c3 := cellAt (holds_at HA.out 2 rfl) 0 _ rfl
      have c4 := cellAt (holds_at HA.out 2 rfl) 1 _ rfl
      have z4 := ltHeap (holds_at HA.out 2 rfl)
      have z5 : w.heap.size + 1 < w2.heap.size := ltHeap HR2.out
      go_upto_region 9 with fail
      have k0 : Hid ((w2.alloc (.cells #[.int .i64 q, .int .i64 1] 57)).heap[w.heap.size]? = some (.cells #[.int .i64 s, .int .i64 0] 57 (0, 0))) := holds_at HA.out 2 rfl
      have k1 : Hid ((w2.alloc (.cells #[.int .i64 q, .int .i64 1] 57)).heap[w.heap.size + 1]? = some (.cells (vfs (colP m f (2 * q + 1))) 5 (0, 0))) := holds_at HA.out 1 rfl
      have k2 : Hid ((w2.alloc (.cells #[.int .i64 q, .int .i64 1] 57)).heap[w2.heap.size]? = some (.cells #[.int .i64 q, .int .i64 1] 57 (0, 0))) := holds_at HA.out 0 rfl
      have kb : Hid (Below w.heap.size w (w2.alloc (.cells #[.int .i64 q, .int .i64 1] 57))) := HB3.out
      generalize hWA : (w2.alloc (.cells #[.int .i64 q, .int .i64 1] 57)) = wa at *
      clear hWA c1 c2 c3 c4 
      clear HA HB2 HB3 HP2 HR2
      have c1 := cellAt k0.out 0 _ rfl
      have c2 := cellAt k0.out 1 _ rfl
      have c3 := cellAt k2.out 0 _ rfl
      have c4 := cellAt k2.out 1 _ rfl
      go_region
      have hB9 := kb.out.drew
      have hP9 := k0.out
      have hR9 := k1.out
      have hfq : f (2 * q + 1) = 0 := by rw [HFE.out]; exact placeF_no (q := q) (b := 1) (by decide) (by decide) (fun h => absurd h (by decide))
      rw [colP_skip hfq] at hR9
      have hB : Hid _ := hB9
      have hP : Hid _ := hP9
      have hR : Hid _ := hR9
      clear hB9 hP9 hR9 hfq
      go_wp2
      exact ⟨⟨(2 * q + 1) + 1, by omega, by go_num, hB.out, hP.out, hR.out⟩, by simp [intOf]; omega⟩
set_option maxHeartbeats 4000000 in
theorem hrowAt_1 (k g s cap : Nat) (a : Option Addr) (xs : List F) (w : World) (h1 : 1 ≤ k) (h2 : k ≤ 16) (hg : 1 ≤ g) (hg2 : g ≤ 16) (hs : s ≤ 16) (hx : xs.length = k) (hX : Row8 w a xs) :
    Calls Tryd.prog 23 #[.agg #[.int .i64 s, .int .i64 1], .slice a k cap, .int .i64 g] w fun e w' => ∃ gb n, e = .returned (.slice (some ⟨gb, 0, none⟩) n n) ∧ n = 2 * k ∧ w.heap.size ≤ gb ∧
      w'.heap[gb]? = some (.cells (vfs (rowF (2 * k) (placeF k g s 1 xs))) 5 (0, 0)) ∧ Below w.heap.size w w' := by
  obtain ⟨m, hm⟩ : ∃ m, m = 2 * k := ⟨_, rfl⟩
  have em : (2 : Int) * k = m := by omega
  have hm32 : m ≤ 32 := by omega
  rw [← hm]
  have HM : Hid _ := hm
  clear hm
  have hmk := run_make8 m (by omega)
  rcases hX with e0 | ⟨b, off, rfl, hc⟩
  · rw [e0] at hx; simp at hx; omega
  have HX : Hid _ := hx
  have HC : Hid _ := hc
  clear hx hc
  obtain ⟨f, hf⟩ : ∃ f, f = placeF k g s 1 xs := ⟨_, rfl⟩
  rw [← hf]
  have HFE : Hid _ := hf
  clear hf
  go_enter Tryd.func23, Tryd.ntmps23
  go_wp2
  have B0 := heap_alloc2_old w (.cells #[.int .i64 s, .int .i64 1] 57) (.cells (vfs (zeros m)) 5)
  have B1 := heap_alloc2_new w (.cells #[.int .i64 s, .int .i64 1] 57) (.cells (vfs (zeros m)) 5)
  have B3 := ((Below.refl w.heap.size w).alloc (Nat.le_refl _) (.cells #[.int .i64 s, .int .i64 1] 57)).alloc (by simp) (.cells (vfs (zeros m)) 5)
  generalize hW : ((w.alloc (.cells #[.int .i64 s, .int .i64 1] 57)).alloc (.cells (vfs (zeros m)) 5)) = W3 at *
  have HS0 : Hid _ := B0
  have HS1 : Hid _ := B1
  have HS3 : Hid _ := B3
  clear hW hmk B0 B1 B3
  go_loopw [18] (fun i wr => ∃ j : Nat, j ≤ m ∧ i = .int .i64 j ∧ Below w.heap.size w wr ∧ wr.heap[w.heap.size]? = some (.cells #[.int .i64 s, .int .i64 1] 57 (0, 0)) ∧ wr.heap[w.heap.size + 1]? = some (.cells (vfs (colP m f j)) 5 (0, 0))) (fun i _ => m - (intOf i).toNat)
  case atStart => exact ⟨0, by omega, rfl, HS3.out, HS0.out, by rw [← colP_zero]; exact HS1.out⟩
  case round =>
    obtain ⟨j, hj, rfl, hb, hp0, hr0⟩ := hrel
    have HB : Hid _ := hb
    have HP : Hid _ := hp0
    have HR : Hid _ := hr0
    clear hb hp0 hr0
    by_cases hlt : j < m
    rotate_left
    · have e : j = m := by omega
      subst e
      have hr := HR.out
      rw [colP_done] at hr
      have HR' : Hid _ := hr
      clear hr
      go_wp2
      go_ret
      exact ⟨w.heap.size + 1, j, rfl, rfl, by omega, HR'.out, HB.out⟩
    obtain ⟨q, b, rfl, hb2⟩ : ∃ q b : Nat, j = 2 * q + b ∧ b < 2 := ⟨j / 2, j % 2, by omega, by omega⟩
    have hqk : q < k := by have := HM.out; omega
    rcases (show b = 0 ∨ b = 1 by omega) with rfl | rfl
    ·
      go_wp2_with fail
      refine (placeOf_F (2 * q) q 0 _ rfl (by decide) (by omega)).mono ?_
      rintro e w2 ⟨rfl, hb2⟩
      have zz := hb2.size
      have HP2 : Hid (w2.heap[w.heap.size]? = some (.cells #[.int .i64 s, .int .i64 1] 57 (0, 0))) := heap_later HP.out hb2
      have HR2 : Hid (w2.heap[w.heap.size + 1]? = some (.cells (vfs (colP m f (2 * q))) 5 (0, 0))) := heap_later HR.out hb2
      have HB2 : Hid (Below w.heap.size w w2) := HB.out.trans (hb2.mono HB.out.size)
      clear hb2
      have hA := holds_new (holds_cons (holds_cons (holds_nil w2) HP2.out) HR2.out) #[.int .i64 q, .int .i64 0] 57
      have HA : Hid _ := hA
      have HB3 : Hid _ := HB2.out.alloc HB2.out.size (.cells #[.int .i64 q, .int .i64 0] 57)
      clear hA
      have c1 := cellAt (holds_at HA.out 0 rfl) 0 _ rfl
      have c2 := cellAt (holds_at HA.out 0 rfl) 1 _ rfl
      have c3 := cellAt (holds_at HA.out 2 rfl) 0 _ rfl
      have c4 := cellAt (holds_at HA.out 2 rfl) 1 _ rfl
      have z4 := ltHeap (holds_at HA.out 2 rfl)
      have z5 : w.heap.size + 1 < w2.heap.size := ltHeap HR2.out
      go_upto_region 9 with fail
      have k0 : Hid ((w2.alloc (.cells #[.int .i64 q, .int .i64 0] 57)).heap[w.heap.size]? = some (.cells #[.int .i64 s, .int .i64 1] 57 (0, 0))) := holds_at HA.out 2 rfl
      have k1 : Hid ((w2.alloc (.cells #[.int .i64 q, .int .i64 0] 57)).heap[w.heap.size + 1]? = some (.cells (vfs (colP m f (2 * q))) 5 (0, 0))) := holds_at HA.out 1 rfl
      have k2 : Hid ((w2.alloc (.cells #[.int .i64 q, .int .i64 0] 57)).heap[w2.heap.size]? = some (.cells #[.int .i64 q, .int .i64 0] 57 (0, 0))) := holds_at HA.out 0 rfl
      have kb : Hid (Below w.heap.size w (w2.alloc (.cells #[.int .i64 q, .int .i64 0] 57))) := HB3.out
      generalize hWA : (w2.alloc (.cells #[.int .i64 q, .int .i64 0] 57)) = wa at *
      clear hWA c1 c2 c3 c4 
      clear HA HB2 HB3 HP2 HR2
      have c1 := boxB (B := wa.heap.size) k0.out (ltHeap k0.out) 0 _ rfl
      have c2 := boxB (B := wa.heap.size) k0.out (ltHeap k0.out) 1 _ rfl
      have c3 := boxB (B := wa.heap.size) k2.out (ltHeap k2.out) 0 _ rfl
      have c4 := boxB (B := wa.heap.size) k2.out (ltHeap k2.out) 1 _ rfl
      obtain ⟨c, hcc⟩ : ∃ c, c = carN g q := ⟨_, rfl⟩
      have HCC : Hid _ := hcc
      have hcr := fun w => carrying_F k g q w (by omega) hg (by omega) (by omega)
      rw [← hcc] at hcr
      have HCR : Hid _ := hcr
      clear hcr hcc
      by_cases hsc : s = k + c
      · have hcr2 := HCR.out
        rw [← hsc] at hcr2
        have HCS : Hid _ := hsc
        clear HCR hsc
        have HCR : Hid _ := hcr2
        clear hcr2
        have hR2 : Below wa.heap.size wa wa.drew := (Below.refl _ _).drew
        go_region_held3 (fun w' => Below wa.heap.size wa w') (first | assumption | (refine Below.drew ?_; assumption)) (first | (go_at_call 41; refine Calls.mono (HCR.out _) ?_; rintro e wj ⟨rfl, hbj⟩; have hTa : Below wa.heap.size wa wj := Below.trans ‹Below wa.heap.size wa _› (Below.mono hbj (below_size ‹Below wa.heap.size wa _›)); clear hbj))
        have hB9 : Below w.heap.size w wj := kb.out.trans (hTa.mono kb.out.size)
        have hP9 := heap_later k0.out hTa
        have hR9 := heap_later k1.out hTa
        have c5 := cellAt hR9 (2 * q) _ (vfs_get _ _ (by rw [colP_len]; omega))
        have c6 := frozen_of_row _ (w.heap.size + 1) (2 * q) _ _ hR9
        have hfq : f (2 * q) = 1 := by rw [HFE.out]; exact placeF_yes (HCS.out.trans (by rw [HCC.out]))
        have hB : Hid _ := hB9
        have hP : Hid _ := hP9
        have hR : Hid _ := hR9
        have HQ : Hid _ := hfq
        clear hB9 hP9 hR9 hfq
        go_wp2
        refine ⟨⟨(2 * q) + 1, by omega, by go_num, hB.out.setCell (by show w.heap.size ≤ w.heap.size + 1; omega) _, (heap_setCell_other _ _ _ _ (by show w.heap.size ≠ w.heap.size + 1; omega)).trans hP.out, ?_⟩, by simp [intOf]; omega⟩
        rw [heap_setCell_same _ _ _ _ _ _ hR.out, ← colP_step m f (2 * q), HQ.out, ← vfs_set]
        rfl
      · have hs1 : ¬ (s : Int) = (k : Int) + c := by omega
        have hs2 : ((s : Int) == (k : Int) + c) = false := beq_eq_false_iff_ne.2 hs1
        have hR2 : Below wa.heap.size wa wa.drew := (Below.refl _ _).drew
        go_region_held3 (fun w' => Below wa.heap.size wa w') (first | assumption | (refine Below.drew ?_; assumption)) (first | (go_at_call 41; refine Calls.mono (HCR.out _) ?_; rintro e wj ⟨rfl, hbj⟩; have hTa : Below wa.heap.size wa wj := Below.trans ‹Below wa.heap.size wa _› (Below.mono hbj (below_size ‹Below wa.heap.size wa _›)); clear hbj))
        have hB9 : Below w.heap.size w wj := kb.out.trans (hTa.mono kb.out.size)
        have hP9 := heap_later k0.out hTa
        have hR9 := heap_later k1.out hTa
        have hfq : f (2 * q) = 0 := by rw [HFE.out]; exact placeF_no (q := q) (b := 0) (by decide) (by decide) (fun _ h => hsc (h.trans (by rw [HCC.out])))
        rw [colP_skip hfq] at hR9
        have hB : Hid _ := hB9
        have hP : Hid _ := hP9
        have hR : Hid _ := hR9
        clear hB9 hP9 hR9 hfq
        go_wp2
        exact ⟨⟨(2 * q) + 1, by omega, by go_num, hB.out, hP.out, hR.out⟩, by simp [intOf]; omega⟩
    ·
      go_wp2_with fail
      refine (placeOf_F (2 * q + 1) q 1 _ rfl (by decide) (by omega)).mono ?_
      rintro e w2 ⟨rfl, hb2⟩
      have zz := hb2.size
      have HP2 : Hid (w2.heap[w.heap.size]? = some (.cells #[.int .i64 s, .int .i64 1] 57 (0, 0))) := heap_later HP.out hb2
      have HR2 : Hid (w2.heap[w.heap.size + 1]? = some (.cells (vfs (colP m f (2 * q + 1))) 5 (0, 0))) := heap_later HR.out hb2
      have HB2 : Hid (Below w.heap.size w w2) := HB.out.trans (hb2.mono HB.out.size)
      clear hb2
      have hA := holds_new (holds_cons (holds_cons (holds_nil w2) HP2.out) HR2.out) #[.int .i64 q, .int .i64 1] 57
      have HA : Hid _ := hA
      have HB3 : Hid _ := HB2.out.alloc HB2.out.size (.cells #[.int .i64 q, .int .i64 1] 57)
      clear hA
      have c1 := cellAt (holds_at HA.out 0 rfl) 0 _ rfl
      have c2 := cellAt (holds_at HA.out 0 rfl) 1 _ rfl
      have c3 := cellAt (holds_at HA.out 2 rfl) 0 _ rfl
      have c4 := cellAt (holds_at HA.out 2 rfl) 1 _ rfl
      have z4 := ltHeap (holds_at HA.out 2 rfl)
      have c5 := cell_later HB3.out (HC.out q (by rw [HX.out]; omega))
      have c6 := cellAt (holds_at HA.out 1 rfl) (2 * q + 1) _ (vfs_get _ _ (by rw [colP_len]; omega))
      have c7 := frozen_of_row _ (w.heap.size + 1) (2 * q + 1) _ _ (holds_at HA.out 1 rfl)
      have z5 : w.heap.size + 1 < w2.heap.size := ltHeap HR2.out
      go_upto_region 9 with fail
      have hfq : f (2 * q + 1) = at8 xs q := by rw [HFE.out]; exact placeF_same (q := q) (b := 1) rfl (by decide)
      have hR5 : (w2.setCell ⟨w.heap.size + 1, (2 * q + 1), none⟩ (.int .u8 ((at8 xs q).toNat : Int))).heap[w.heap.size + 1]? = some (.cells (vfs (colP m f ((2 * q + 1) + 1))) 5 (0, 0)) := by
        rw [heap_setCell_same _ _ _ _ _ _ HR2.out, vfs_set, ← colP_step m f (2 * q + 1), hfq]
      have hP5 : (w2.setCell ⟨w.heap.size + 1, (2 * q + 1), none⟩ (.int .u8 ((at8 xs q).toNat : Int))).heap[w.heap.size]? = some (.cells #[.int .i64 s, .int .i64 1] 57 (0, 0)) := (heap_setCell_other _ _ _ _ (by show w.heap.size ≠ w.heap.size + 1; omega)).trans HP2.out
      have hB5 : Below w.heap.size w (w2.setCell ⟨w.heap.size + 1, (2 * q + 1), none⟩ (.int .u8 ((at8 xs q).toNat : Int))) := HB2.out.setCell (by show w.heap.size ≤ w.heap.size + 1; omega) _
      have hZ5 : (w2.setCell ⟨w.heap.size + 1, (2 * q + 1), none⟩ (.int .u8 ((at8 xs q).toNat : Int))).heap.size = w2.heap.size := by simp
      have k0 : Hid (((w2.setCell ⟨w.heap.size + 1, (2 * q + 1), none⟩ (.int .u8 ((at8 xs q).toNat : Int))).alloc (.cells #[.int .i64 q, .int .i64 1] 57)).heap[w.heap.size]? = some (.cells #[.int .i64 s, .int .i64 1] 57 (0, 0))) := (Below.heap_alloc _ _ _ (ltHeap hP5)).trans hP5
      have k1 : Hid (((w2.setCell ⟨w.heap.size + 1, (2 * q + 1), none⟩ (.int .u8 ((at8 xs q).toNat : Int))).alloc (.cells #[.int .i64 q, .int .i64 1] 57)).heap[w.heap.size + 1]? = some (.cells (vfs (colP m f ((2 * q + 1) + 1))) 5 (0, 0))) := (Below.heap_alloc _ _ _ (ltHeap hR5)).trans hR5
      have k2 : Hid (((w2.setCell ⟨w.heap.size + 1, (2 * q + 1), none⟩ (.int .u8 ((at8 xs q).toNat : Int))).alloc (.cells #[.int .i64 q, .int .i64 1] 57)).heap[w2.heap.size]? = some (.cells #[.int .i64 q, .int .i64 1] 57 (0, 0))) := by
        have := heap_alloc_last (w2.setCell ⟨w.heap.size + 1, (2 * q + 1), none⟩ (.int .u8 ((at8 xs q).toNat : Int))) (.cells #[.int .i64 q, .int .i64 1] 57)
        rw [hZ5] at this
        exact this
      have kb : Hid (Below w.heap.size w ((w2.setCell ⟨w.heap.size + 1, (2 * q + 1), none⟩ (.int .u8 ((at8 xs q).toNat : Int))).alloc (.cells #[.int .i64 q, .int .i64 1] 57))) := hB5.alloc hB5.size _
      clear hR5 hP5 hB5 hZ5
      generalize hWA : ((w2.setCell ⟨w.heap.size + 1, (2 * q + 1), none⟩ (.int .u8 ((at8 xs q).toNat : Int))).alloc (.cells #[.int .i64 q, .int .i64 1] 57)) = wa at *
      clear hWA c1 c2 c3 c4 c5 c6 c7
      clear HA HB2 HB3 HP2 HR2
      have c1 := cellAt k0.out 0 _ rfl
      have c2 := cellAt k0.out 1 _ rfl
      have c3 := cellAt k2.out 0 _ rfl
      have c4 := cellAt k2.out 1 _ rfl
      go_region
      have hB9 := kb.out.drew
      have hP9 := k0.out
      have hR9 := k1.out
      have hB : Hid _ := hB9
      have hP : Hid _ := hP9
      have hR : Hid _ := hR9
      clear hB9 hP9 hR9
      go_wp2
      exact ⟨⟨(2 * q + 1) + 1, by omega, by go_num, hB.out, hP.out, hR.out⟩, by simp [intOf]; omega⟩
theorem hrowAt_F (k g s p cap : Nat) (a : Option Addr) (xs : List F) (w : World) (h1 : 1 ≤ k) (h2 : k ≤ 16) (hg : 1 ≤ g) (hg2 : g ≤ 16) (hs : s ≤ 16) (hp : p < 2) (hx : xs.length = k) (hX : Row8 w a xs) :
    Calls Tryd.prog 23 #[.agg #[.int .i64 s, .int .i64 p], .slice a k cap, .int .i64 g] w fun e w' => ∃ gb n, e = .returned (.slice (some ⟨gb, 0, none⟩) n n) ∧ n = 2 * k ∧ w.heap.size ≤ gb ∧
      w'.heap[gb]? = some (.cells (vfs (rowF (2 * k) (placeF k g s p xs))) 5 (0, 0)) ∧ Below w.heap.size w w' := by
  rcases (show p = 0 ∨ p = 1 by omega) with rfl | rfl
  · exact hrowAt_0 k g s cap a xs w h1 h2 hg hg2 hs hx hX
  · exact hrowAt_1 k g s cap a xs w h1 h2 hg hg2 hs hx hX
end Go.Proofs.YtkoakingmnjdoabDoor
