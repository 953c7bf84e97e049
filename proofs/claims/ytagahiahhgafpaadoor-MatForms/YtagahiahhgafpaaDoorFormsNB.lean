/- The walk of the statement MatForms, some of its ways. -/
import Derived.Test.YtagahiahhgafpaaDoorFormsL
namespace Go.Proofs.YtagahiahhgafpaaDoor
open Go.RowKit Gf
set_option linter.unusedVariables false
set_option maxRecDepth 100000 in
set_option maxHeartbeats 8000000 in
theorem forms_NN (r c : Int) (n0 : Int) (n1 : Int) (l cap lr cr : Nat) (a ar : Option Addr) (xs : List F) (L : List (List F)) (w : World) (hf : ¬ (0 ≤ r ∧ r ≤ 64 ∧ 0 ≤ c ∧ c ≤ 64 ∧ (l : Int) = r * c)) (hn1 : ¬ sz n1) (hx : l = xs.length) (hcap : l ≤ cap) (hm : cap ≤ 140737488351232) (hX : Row8 w a xs) (hna : a = none → cap = 0)
    (hlr : lr = L.length) (hR : Rows8 w ar L) (hcp : ∀ b off, ar = some ⟨b, off, none⟩ → ∀ j n a' cap', w.cell? ⟨b, off + j, none⟩ = some (.slice a' n cap') → j < L.length → a' = none → cap' = 0)
    (es : List Addr) (s : Addr) (hes : ErrsAt w gsNum es) (hs : es[1]? = some s) (hs2 : w.cell? ⟨0, 0, none⟩ = some (errAt s)) :
    Calls Tryd.prog 3 #[.agg #[.int .i64 r, .int .i64 c, .slice a l cap], .slice ar lr cr, .agg #[.int .i64 n0, .int .i64 n1]] w fun e w' => e = .returned (.bool true) ∧ Below w.heap.size w w' := by
  have HXL : Hid _ := hx
  have HX : Hid (Row8 w a xs) := hX
  have HNA : Hid _ := hna
  have HLR : Hid _ := hlr
  have HRR : Hid (Rows8 w ar L) := hR
  have HCP : Hid _ := hcp
  have HE : Hid _ := hes
  have HES : Hid _ := hs
  have HS : Hid _ := hs2
  clear hx hX hna hlr hR hcp hes hs hs2
  have HF : Hid _ := hf
  clear hf
  have HNO : Hid (¬ (sz n1 ∧ lr ≤ 64)) := fun h => hn1 h.1
  have hBA := heap_alloc2_old w (.cells #[.int .i64 r, .int .i64 c, .slice a l cap] 24) (.cells #[.int .i64 n0, .int .i64 n1] 26)
  have hBN := heap_alloc2_new w (.cells #[.int .i64 r, .int .i64 c, .slice a l cap] 24) (.cells #[.int .i64 n0, .int .i64 n1] 26)
  go_enter Tryd.func3, Tryd.ntmps3
  go_wp2_with fail
  refine Calls.mono (alive_ok _) ?_
  rintro e w1 ⟨rfl, hb1⟩
  have HA1 : Hid _ := holds_cons (holds_cons (holds_nil _) (heap_later hBN hb1)) (heap_later hBA hb1)
  have HW1 : Hid (Below w.heap.size w w1) := (((Below.refl w.heap.size w).alloc (Nat.le_refl _) _).alloc (by simp) _).trans (hb1.mono (by simp; omega))
  clear hBA hBN hb1
  have c1 := cellAt (holds_at HA1.out 0 rfl) 0 _ rfl
  have c2 := cellAt (holds_at HA1.out 0 rfl) 1 _ rfl
  have c3 := cellAt (holds_at HA1.out 0 rfl) 2 _ rfl
  go_wp2_with fail
  refine Calls.mono (inForm_no r c a l cap _ HF.out) ?_
  rintro e w2 ⟨rfl, hB⟩
  have HA2 : Hid _ := holds_later HA1.out hB
  have HW2 : Hid (Below w.heap.size w w2) := HW1.out.trans (hB.mono HW1.out.size)
  clear hB HA1 HW1 c1 c2 c3
  have c1 := box_cell (holds_at HA2.out 0 rfl) 0 _ rfl
  have c2 := box_cell (holds_at HA2.out 0 rfl) 1 _ rfl
  have c3 := box_cell (holds_at HA2.out 0 rfl) 2 _ rfl
  have c9 : ∀ w', Below w2.heap.size w2 w' → w'.cell? ⟨0, 0, none⟩ = some (errAt s) := fun w' hb => cell_later hb (cell_later HW2.out HS.out)
  have q9 := fun w' => neq_same w' s
  unfold errAt at c9
  have hR2 : Below w2.heap.size w2 w2.drew := (Below.refl _ _).drew
  go_upto_region 4 with fail
  go_region_held3 (fun w' => Below w2.heap.size w2 w') (first | assumption | (refine Below.drew ?_; assumption)) (first | (go_at_call 11; refine Calls.mono (check_bad r c a l cap _ _ (c9 _ ‹Below w2.heap.size w2 _›) HF.out) ?_; rintro e wi ⟨rfl, hbi⟩; have hTa : Below w2.heap.size w2 wi := Below.trans ‹Below w2.heap.size w2 _› (Below.mono hbi (below_size ‹Below w2.heap.size w2 _›)); clear hbi) | (go_at_call 13; refine Calls.mono (in_F r c l cap a xs _ HXL.out (by omega) (row8_below HX.out (HW2.out.trans (Below.mono ‹Below w2.heap.size w2 _› HW2.out.size))) HNA.out) ?_; rintro e wj ⟨gi, rfl, hgi, hhi, hbj⟩; have hTb : Below w2.heap.size w2 wj := Below.trans ‹Below w2.heap.size w2 _› (Below.mono hbj (below_size ‹Below w2.heap.size w2 _›)); have HHI : Hid _ := hhi; clear hbj hhi hgi) | (go_at_call 12; refine Calls.mono (same_F r c a _ l cap l (l + 6) xs xs _ HXL.out HXL.out (row8_below HX.out (HW2.out.trans (Below.mono ‹Below w2.heap.size w2 _› HW2.out.size))) (row8_front HHI.out)) ?_; rintro e wk ⟨rfl, hbk⟩; rw [eqB_true]; have hTc : Below w2.heap.size w2 wk := Below.trans ‹Below w2.heap.size w2 _› (Below.mono hbk (below_size ‹Below w2.heap.size w2 _›)); clear hbk))
  have hB := hTc
  have HA3 : Hid _ := holds_later HA2.out hB
  have HW3 : Hid _ := HW2.out.trans (hB.mono HW2.out.size)
  clear hB hTa hTb hTc HA2 HW2 c1 c2 c3 c9 q9 hR2 HHI
  generalize wk = w3 at *
  go_upto_region 6 with fail
  go_cut [8, 9] (fun s8 s9 wx => AnsM wx s8 s9 s (sz n0 ∧ sz n1) n0 n1 (zeros (n0.toNat * n1.toNat)) ∧ Below w3.heap.size w3 wx)
  case first =>
    have c1 := cellAt (holds_at HA3.out 1 rfl) 0 _ rfl
    have c2 := cellAt (holds_at HA3.out 1 rfl) 1 _ rfl
    by_cases hz : sz n0 ∧ sz n1
    · obtain ⟨k0, rfl⟩ := Int.eq_ofNat_of_zero_le hz.1.1
      obtain ⟨k1, rfl⟩ := Int.eq_ofNat_of_zero_le hz.2.1
      have h0 : k0 ≤ 64 := by have := hz.1.2; omega
      have h1 : k1 ≤ 64 := by have := hz.2.2; omega
      have HZ : Hid _ := hz
      clear hz
      go_wp2_with fail
      refine Calls.mono (zero_F k0 k1 _ h0 h1) ?_
      rintro e w4 ⟨g, n, rfl, hn, hg, hh, hb4⟩
      have HN : Hid _ := hn
      have HH : Hid _ := hh
      have HB : Hid _ := hb4
      clear hn hg hh hb4 c1 c2
      go_wp2
      go_meet
      exact ⟨⟨_, rfl, .inl ⟨HZ.out, rfl, g, n, heap_alloc_last _ _, (Below.heap_alloc _ _ _ (ltHeap HH.out)).trans HH.out, by rw [zeros_len]; exact HN.out⟩⟩, HB.out.alloc HB.out.size _⟩
    · have HZ : Hid _ := hz
      clear hz
      have c9 := cell_later HW3.out HS.out
      go_wp2_with fail
      refine Calls.mono (zero_bad n0 n1 _ _ c9 (fun h => HZ.out ⟨⟨h.1, h.2.1⟩, h.2.2.1, h.2.2.2⟩)) ?_
      rintro e w4 ⟨rfl, hb4⟩
      have HB : Hid _ := hb4
      clear hb4 c1 c2 c9
      unfold errAt
      go_wp2
      go_meet
      exact ⟨⟨_, rfl, .inr ⟨HZ.out, rfl, heap_alloc_last _ _⟩⟩, HB.out.alloc HB.out.size _⟩
  case rest =>
  obtain ⟨hans, hB⟩ := hcut
  generalize wc = w4 at *
  have HA4 : Hid _ := holds_later HA3.out hB
  have HW4 : Hid (Below w.heap.size w w4) := HW3.out.trans (hB.mono HW3.out.size)
  clear hB HA3 HW3
  have HANS : Hid _ := hans
  clear hans
  go_upto_region 7 with fail
  go_cut [57] (fun s57 wx => ((sz n0 ∧ sz n1) ∧ s57 = .bool true ∨ ¬ (sz n0 ∧ sz n1) ∧ s57 = .bool false) ∧ wx = w4)
  case first =>
    have c1 := cellAt (holds_at HA4.out 1 rfl) 0 _ rfl
    have c2 := cellAt (holds_at HA4.out 1 rfl) 1 _ rfl
    by_cases h0 : sz n0
    · by_cases h1 : sz n1
      · have HZ : Hid _ := And.intro h0 h1
        obtain ⟨a0, a1⟩ := h0
        obtain ⟨b0, b1⟩ := h1
        go_wp2_with (first | (go_at_call 15; refine (sized_yes _ _ (by assumption) (by assumption)).mono ?_; rintro e w' ⟨rfl, rfl⟩) | (go_at_call 15; refine (sized_no _ _ (by assumption)).mono ?_; rintro e w' ⟨rfl, rfl⟩))
        go_meet
        exact ⟨.inl ⟨HZ.out, rfl⟩, rfl⟩
      · have HZ : Hid (¬ (sz n0 ∧ sz n1)) := fun h => h1 h.2
        obtain ⟨a0, a1⟩ := h0
        unfold sz at h1
        go_wp2_with (first | (go_at_call 15; refine (sized_yes _ _ (by assumption) (by assumption)).mono ?_; rintro e w' ⟨rfl, rfl⟩) | (go_at_call 15; refine (sized_no _ _ (by assumption)).mono ?_; rintro e w' ⟨rfl, rfl⟩))
        go_meet
        exact ⟨.inr ⟨HZ.out, rfl⟩, rfl⟩
    · have HZ : Hid (¬ (sz n0 ∧ sz n1)) := fun h => h0 h.1
      unfold sz at h0
      go_wp2_with (first | (go_at_call 15; refine (sized_yes _ _ (by assumption) (by assumption)).mono ?_; rintro e w' ⟨rfl, rfl⟩) | (go_at_call 15; refine (sized_no _ _ (by assumption)).mono ?_; rintro e w' ⟨rfl, rfl⟩))
      go_meet
      exact ⟨.inr ⟨HZ.out, rfl⟩, rfl⟩
  case rest =>
  obtain ⟨h57, rfl⟩ := hcut
  generalize wc = w4 at *
  have H57 : Hid _ := h57
  clear h57
  go_upto_if 57 with fail
  go_cut [] (fun wx => Below w4.heap.size w4 wx)
  case first =>
    obtain ⟨N, rfl, ⟨hok, rfl, g, m, hbx, hdt, hm⟩ | ⟨hno, rfl, hbx⟩⟩ := HANS.out
    · rcases H57.out with ⟨_, rfl⟩ | ⟨hno, _⟩
      · have HD : Hid _ := hdt
        have HM : Hid _ := hm
        have b1 := box_cell hbx 0 _ rfl
        have b2 := box_cell hbx 1 _ rfl
        have b3 := box_cell hbx 2 _ rfl
        have c1 := box_cell (holds_at HA4.out 1 rfl) 0 _ rfl
        have c2 := box_cell (holds_at HA4.out 1 rfl) 1 _ rfl
        clear hbx hdt hm
        obtain ⟨k0, rfl⟩ := Int.eq_ofNat_of_zero_le hok.1.1
        obtain ⟨k1, rfl⟩ := Int.eq_ofNat_of_zero_le hok.2.1
        have h0 : k0 ≤ 64 := by have := hok.1.2; omega
        have h1 : k1 ≤ 64 := by have := hok.2.2; omega
        clear hok
        have hR2 : Below w4.heap.size w4 w4 := Below.refl _ _
        go_wp2
        go_region_held3 (fun w' => Below w4.heap.size w4 w') (first | assumption | (refine Below.drew ?_; assumption)) (first | (go_at_call 17; refine Calls.mono (rzero_F k0 k1 _ h0 h1) ?_; rintro e wi ⟨g2, m2, rfl, hm2, hg2, hh2, hb2⟩; have hTa : Below w4.heap.size w4 wi := Below.trans ‹Below w4.heap.size w4 _› (Below.mono hb2 (below_size ‹Below w4.heap.size w4 _›)); have HM2 : Hid _ := hm2; have HH2 : Hid _ := hh2; clear hm2 hb2 hg2 hh2) | (go_at_call 16; refine Calls.mono (as_ok k0 k1 _ _ _ _ _ _ (zeros (k0 * k1)) _ (by have := HM.out; simpa using this) (by rw [zeros_len]; exact HM2.out) (row8_below (row8_own (by have := HD.out; simpa using this)) ‹Below w4.heap.size w4 _›) (row8_own HH2.out)) ?_; rintro e wj ⟨rfl, hbj⟩; have hTb : Below w4.heap.size w4 wj := Below.trans ‹Below w4.heap.size w4 _› (Below.mono hbj (below_size ‹Below w4.heap.size w4 _›)); clear hbj))
        have hB9 := ‹Below w4.heap.size w4 _›
        have HB9 : Hid _ := hB9
        clear hB9
        go_wp2
        go_meet
        exact HB9.out
      · exact absurd hok hno
    · rcases H57.out with ⟨hok, _⟩ | ⟨_, rfl⟩
      · exact absurd hok hno
      · have b1 := cellAt hbx 0 _ rfl
        have b2 := cellAt hbx 1 _ rfl
        have b3 := cellAt hbx 2 _ rfl
        clear hno hbx
        unfold errAt
        go_wp2_with fail
        refine Calls.mono (as_shape _ 0 0 none 0 0 _ es s (errsAt_below HE.out HW4.out) HES.out rfl) ?_
        rintro e wj ⟨rfl, hbj⟩
        have HB : Hid _ := hbj
        clear hbj b1 b2 b3
        go_wp2
        go_meet
        exact HB.out
  case rest =>
  have hB := hcut
  clear HANS H57
  generalize wc = w5 at *
  have HA5 : Hid _ := holds_later HA4.out hB
  have HW5 : Hid (Below w.heap.size w w5) := HW4.out.trans (hB.mono HW4.out.size)
  clear hB HA4 HW4
  go_upto_region 12 with fail
  go_cut [10, 11] (fun s10 s11 wx => AnsM wx s10 s11 s (sz n0) n0 n0 (oneM n0.toNat) ∧ Below w5.heap.size w5 wx)
  case first =>
    have c1 := cellAt (holds_at HA5.out 1 rfl) 0 _ rfl
    have c2 := cellAt (holds_at HA5.out 1 rfl) 1 _ rfl
    by_cases hz : sz n0
    · obtain ⟨k0, rfl⟩ := Int.eq_ofNat_of_zero_le hz.1
      have h0 : k0 ≤ 64 := by have := hz.2; omega
      have HZ : Hid _ := hz
      clear hz
      go_wp2_with fail
      refine Calls.mono (one_F k0 _ h0) ?_
      rintro e w4 ⟨g, n, rfl, hn, hg, hh, hb4⟩
      have HN : Hid _ := hn
      have HH : Hid _ := hh
      have HB : Hid _ := hb4
      clear hn hg hh hb4 c1 c2
      go_wp2
      go_meet
      exact ⟨⟨_, rfl, .inl ⟨HZ.out, rfl, g, n, heap_alloc_last _ _, (Below.heap_alloc _ _ _ (ltHeap HH.out)).trans HH.out, by rw [oneM_len]; exact HN.out⟩⟩, HB.out.alloc HB.out.size _⟩
    · have HZ : Hid _ := hz
      clear hz
      have c9 := cell_later HW5.out HS.out
      have HC9 : Hid _ := c9
      clear c9
      go_wp2_with fail
      refine Calls.mono (one_bad n0 _ s HC9.out HZ.out) ?_
      rintro e w4 ⟨rfl, hb4⟩
      have HB : Hid _ := hb4
      clear hb4 c1 c2
      unfold errAt
      go_wp2
      go_meet
      exact ⟨⟨_, rfl, .inr ⟨HZ.out, rfl, heap_alloc_last _ _⟩⟩, HB.out.alloc HB.out.size _⟩
  case rest =>
  obtain ⟨hans, hB⟩ := hcut
  generalize wc = w6 at *
  have HA6 : Hid _ := holds_later HA5.out hB
  have HW6 : Hid (Below w.heap.size w w6) := HW5.out.trans (hB.mono HW5.out.size)
  clear hB HA5 HW5
  have HANS : Hid _ := hans
  clear hans
  go_upto_region 13 with fail
  go_cut [80] (fun s80 wx => (sz n0 ∧ s80 = .bool true ∨ ¬ sz n0 ∧ s80 = .bool false) ∧ wx = w6)
  case first =>
    have c1 := cellAt (holds_at HA6.out 1 rfl) 0 _ rfl
    by_cases h0 : sz n0
    · have HZ : Hid _ := h0
      obtain ⟨a0, a1⟩ := h0
      go_wp2_with (first | (go_at_call 15; refine (sized_yes _ _ (by assumption) (by assumption)).mono ?_; rintro e w' ⟨rfl, rfl⟩) | (go_at_call 15; refine (sized_no _ _ (by assumption)).mono ?_; rintro e w' ⟨rfl, rfl⟩))
      go_meet
      exact ⟨.inl ⟨HZ.out, rfl⟩, rfl⟩
    · have HZ : Hid (¬ sz n0) := h0
      unfold sz at h0
      go_wp2_with (first | (go_at_call 15; refine (sized_yes _ _ (by assumption) (by assumption)).mono ?_; rintro e w' ⟨rfl, rfl⟩) | (go_at_call 15; refine (sized_no _ _ (by assumption)).mono ?_; rintro e w' ⟨rfl, rfl⟩))
      go_meet
      exact ⟨.inr ⟨HZ.out, rfl⟩, rfl⟩
  case rest =>
  obtain ⟨h80, rfl⟩ := hcut
  generalize wc = w6 at *
  have H80 : Hid _ := h80
  clear h80
  go_upto_if 80 with fail
  go_cut [] (fun wx => Below w6.heap.size w6 wx)
  case first =>
    obtain ⟨N, rfl, ⟨hok, rfl, g, m, hbx, hdt, hm⟩ | ⟨hno, rfl, hbx⟩⟩ := HANS.out
    · rcases H80.out with ⟨_, rfl⟩ | ⟨hno, _⟩
      · have HD : Hid _ := hdt
        have HM : Hid _ := hm
        have b1 := box_cell hbx 0 _ rfl
        have b2 := box_cell hbx 1 _ rfl
        have b3 := box_cell hbx 2 _ rfl
        have c1 := box_cell (holds_at HA6.out 1 rfl) 0 _ rfl
        have c2 := box_cell (holds_at HA6.out 1 rfl) 1 _ rfl
        clear hbx hdt hm
        obtain ⟨k0, rfl⟩ := Int.eq_ofNat_of_zero_le hok.1
        have h0 : k0 ≤ 64 := by have := hok.2; omega
        clear hok c2
        have hR2 : Below w6.heap.size w6 w6.drew := (Below.refl _ _).drew
        by_cases h0p : 0 < k0
        · have h0d : decide ((0 : Int) < (k0 : Int)) = true := by simpa using h0p
          go_wp2
          go_region_held3 (fun w' => Below w6.heap.size w6 w') (first | assumption | (refine Below.drew ?_; assumption)) (first | (go_at_call 19; refine Calls.mono (rone_F k0 _ h0) ?_; rintro e wi ⟨g2, m2, rfl, hm2, hg2, hh2, hb2⟩; have hTa : Below w6.heap.size w6 wi := Below.trans ‹Below w6.heap.size w6 _› (Below.mono hb2 (below_size ‹Below w6.heap.size w6 _›)); have HM2 : Hid _ := hm2; have HH2 : Hid _ := hh2; clear hm2 hb2 hg2 hh2) | (go_at_call 16; refine Calls.mono (as_ok k0 k0 _ _ _ _ _ _ (oneM k0) _ (by have := HM.out; simpa using this) (by rw [oneM_len]; exact HM2.out) (row8_below (row8_own (by have := HD.out; simpa using this)) ‹Below w6.heap.size w6 _›) (row8_own HH2.out)) ?_; rintro e wj ⟨rfl, hbj⟩; have hTb : Below w6.heap.size w6 wj := Below.trans ‹Below w6.heap.size w6 _› (Below.mono hbj (below_size ‹Below w6.heap.size w6 _›)); clear hbj) | (go_at_call 17; refine Calls.mono (rzero_F k0 k0 _ h0 h0) ?_; rintro e wm ⟨g3, m3, rfl, hm3, hg3, hh3, hb3⟩; have hTc : Below w6.heap.size w6 wm := Below.trans ‹Below w6.heap.size w6 _› (Below.mono hb3 (below_size ‹Below w6.heap.size w6 _›)); have HM3 : Hid _ := hm3; have HH3 : Hid _ := hh3; clear hm3 hb3 hg3 hh3) | (go_at_call 12; refine Calls.mono (same_F k0 k0 _ _ _ _ _ _ (oneM k0) (zeros (k0 * k0)) _ (by have := HM.out; simpa using this) (by rw [zeros_len]; exact HM3.out) (row8_below (row8_own (by have := HD.out; simpa using this)) ‹Below w6.heap.size w6 _›) (row8_own HH3.out)) ?_; rintro e wk ⟨rfl, hbk⟩; rw [one_zeros h0p]; have hTd : Below w6.heap.size w6 wk := Below.trans ‹Below w6.heap.size w6 _› (Below.mono hbk (below_size ‹Below w6.heap.size w6 _›)); clear hbk))
          have hB9 := ‹Below w6.heap.size w6 _›; have HB9 : Hid _ := hB9; clear hB9; go_wp2; go_meet; exact HB9.out
        · obtain rfl : k0 = 0 := by omega
          go_wp2
          refine wp_region_noPanic ?_
          refine wp_region_held_drew (S := fun u => Below w6.heap.size w6 u) (by kernel_rfl) ?_ (fun hHeld => ?_)
          · exact hR2
          refine wpAnyH_take (i := 0) (oi := { dst := some 81, op := Op.load 24 (Operand.tmp 10), type := 24, pos := "law.go:52", after := #[], guard := none }) (v := ?_) rfl (by kernel_rfl) (by kernel_rfl) (by kernel_rfl) (fun _ _ _ h => h) (Or.inl ⟨by rfl, ?_⟩) hHeld ?_
          rotate_left
          · intro u hSw
            go_simp
            try with_reducible rfl
          try simp only [Act.put, List.setIfInBounds_toArray, List.set_cons_zero, List.set_cons_succ]
          refine wpAnyH_take (i := 1) (oi := { dst := some 82, op := Op.move (Operand.tmp 11), type := 30, pos := "law.go:52", after := #[], guard := none }) (v := ?_) rfl (by kernel_rfl) (by kernel_rfl) (by kernel_rfl) (fun _ _ _ h => h) (Or.inl ⟨by rfl, ?_⟩) hHeld ?_
          rotate_left
          · intro u hSw
            go_simp
            try with_reducible rfl
          try simp only [Act.put, List.setIfInBounds_toArray, List.set_cons_zero, List.set_cons_succ]
          refine wpAnyH_take (i := 2) (oi := { dst := some 83, op := Op.indexAddr 26 (Operand.tmp 5) (Operand.const (Value.int IntKind.i64 0)), type := 0, pos := "law.go:52", after := #[], guard := none }) (v := ?_) rfl (by kernel_rfl) (by kernel_rfl) (by kernel_rfl) (fun _ _ _ h => h) (Or.inl ⟨by rfl, ?_⟩) hHeld ?_
          rotate_left
          · intro u hSw
            go_simp
            try with_reducible rfl
          try simp only [Act.put, List.setIfInBounds_toArray, List.set_cons_zero, List.set_cons_succ]
          refine wpAnyH_take (i := 3) (oi := { dst := some 84, op := Op.load 3 (Operand.tmp 83), type := 3, pos := "law.go:52", after := #[{ on := 2, ground := Ground.data }], guard := none }) (v := ?_) rfl (by kernel_rfl) (by kernel_rfl) (by kernel_rfl) (fun _ _ _ h => h) (Or.inl ⟨by rfl, ?_⟩) hHeld ?_
          rotate_left
          · intro u hSw
            go_simp
            try with_reducible rfl
          try simp only [Act.put, List.setIfInBounds_toArray, List.set_cons_zero, List.set_cons_succ]
          refine wpAnyH_ready (rs := [4]) (by kernel_rfl) (by simp) ?_
          refine AllReadyH.cons (o := { dst := some 85, op := Op.call { callee := Callee.value (Operand.func 19), args := #[Operand.tmp 84], argTypes := #[3] }, type := 24, pos := "law.go:52", after := #[{ on := 3, ground := Ground.data }], guard := none }) rfl (fun K hK => ?_) AllReadyH.nil
          go_simp
          refine Calls.mono (rone_0 _) ?_
          rintro e wi ⟨g2, m2, rfl, hm2, hg2, hh2, hb2⟩
          have HM2 : Hid _ := hm2
          have HH2 : Hid _ := hh2
          clear hm2 hg2 hh2
          go_wp2_with fail
          refine hK.out _ _ ?_ (fun hHeld => ?_)
          · exact Below.trans hHeld (Below.mono hb2 (below_size hHeld))
          clear hK K
          try simp only [Act.put, List.setIfInBounds_toArray, List.set_cons_zero, List.set_cons_succ]
          refine wpAnyH_ready (rs := [5]) (by kernel_rfl) (by simp) ?_
          refine AllReadyH.cons (o := { dst := some 86, op := Op.call { callee := Callee.value (Operand.func 16), args := #[Operand.tmp 81, Operand.tmp 82, Operand.tmp 85, Operand.const (Value.int IntKind.i64 0)], argTypes := #[24, 30, 24, 3] }, type := 4, pos := "law.go:52", after := #[{ on := 0, ground := Ground.data }, { on := 1, ground := Ground.data }, { on := 4, ground := Ground.data }, { on := 4, ground := Ground.chain }], guard := none }) rfl (fun K hK => ?_) AllReadyH.nil
          go_simp
          refine Calls.mono (as_ok 0 0 _ _ _ _ _ _ (oneM 0) _ (by have := HM.out; simpa using this) (by rw [oneM_len]; exact HM2.out) (row8_below (row8_own (by have := HD.out; simpa using this)) hHeld) (row8_own HH2.out)) ?_
          rintro e wj ⟨rfl, hbj⟩
          go_wp2_with fail
          refine hK.out _ _ ?_ (fun hHeld => ?_)
          · exact Below.trans hHeld (Below.mono hbj (below_size hHeld))
          clear hK K
          try simp only [Act.put, List.setIfInBounds_toArray, List.set_cons_zero, List.set_cons_succ]
          refine wpAnyH_take (i := 6) (oi := { dst := some 87, op := Op.unOp UnOp.not 4 (Operand.tmp 86), type := 4, pos := "law.go:52", after := #[{ on := 5, ground := Ground.data }], guard := none }) (v := ?_) rfl (by kernel_rfl) (by kernel_rfl) (by kernel_rfl) (fun _ _ _ h => h) (Or.inl ⟨by rfl, ?_⟩) hHeld ?_
          rotate_left
          · intro u hSw
            go_simp
            try with_reducible rfl
          try simp only [Act.put, List.setIfInBounds_toArray, List.set_cons_zero, List.set_cons_succ]
          refine wpAnyH_take (i := 7) (oi := { dst := some 88, op := Op.move (Operand.tmp 87), type := 4, pos := "law.go:52", after := #[{ on := 6, ground := Ground.data }, { on := 5, ground := Ground.chain }], guard := none }) (v := ?_) rfl (by kernel_rfl) (by kernel_rfl) (by kernel_rfl) (fun _ _ _ h => h) (Or.inl ⟨by rfl, ?_⟩) hHeld ?_
          rotate_left
          · intro u hSw
            go_simp
            try with_reducible rfl
          try simp only [Act.put, List.setIfInBounds_toArray, List.set_cons_zero, List.set_cons_succ]
          refine wpAnyH_take (i := 8) (oi := { dst := some 89, op := Op.indexAddr 26 (Operand.tmp 5) (Operand.const (Value.int IntKind.i64 0)), type := 0, pos := "law.go:52", after := #[{ on := 7, ground := Ground.guard }], guard := some (7, false) }) (v := ?_) rfl (by kernel_rfl) (by kernel_rfl) (by kernel_rfl) (fun _ _ _ h => h) (Or.inl ⟨by rfl, ?_⟩) hHeld ?_
          rotate_left
          · intro u hSw
            go_simp
            try with_reducible rfl
          try simp only [Act.put, List.setIfInBounds_toArray, List.set_cons_zero, List.set_cons_succ]
          refine wpAnyH_take (i := 9) (oi := { dst := some 90, op := Op.load 3 (Operand.tmp 89), type := 3, pos := "law.go:52", after := #[{ on := 8, ground := Ground.data }, { on := 7, ground := Ground.guard }], guard := some (7, false) }) (v := ?_) rfl (by kernel_rfl) (by kernel_rfl) (by kernel_rfl) (fun _ _ _ h => h) (Or.inl ⟨by rfl, ?_⟩) hHeld ?_
          rotate_left
          · intro u hSw
            go_simp
            try with_reducible rfl
          try simp only [Act.put, List.setIfInBounds_toArray, List.set_cons_zero, List.set_cons_succ]
          refine wpAnyH_take (i := 10) (oi := { dst := some 91, op := Op.binOp BinOp.gtr 3 (Operand.tmp 90) (Operand.const (Value.int IntKind.i64 0)) 3, type := 4, pos := "law.go:52", after := #[{ on := 9, ground := Ground.data }, { on := 7, ground := Ground.guard }], guard := some (7, false) }) (v := ?_) rfl (by kernel_rfl) (by kernel_rfl) (by kernel_rfl) (fun _ _ _ h => h) (Or.inl ⟨by rfl, ?_⟩) hHeld ?_
          rotate_left
          · intro u hSw
            go_simp
            try with_reducible rfl
          try simp only [Act.put, List.setIfInBounds_toArray, List.set_cons_zero, List.set_cons_succ]
          refine wpAnyH_take (i := 11) (oi := { dst := some 92, op := Op.move (Operand.tmp 91), type := 4, pos := "law.go:52", after := #[{ on := 10, ground := Ground.data }, { on := 7, ground := Ground.chain }, { on := 7, ground := Ground.guard }], guard := some (7, false) }) (v := ?_) rfl (by kernel_rfl) (by kernel_rfl) (by kernel_rfl) (fun _ _ _ h => h) (Or.inl ⟨by rfl, ?_⟩) hHeld ?_
          rotate_left
          · intro u hSw
            go_simp
            try with_reducible rfl
          try simp only [Act.put, List.setIfInBounds_toArray, List.set_cons_zero, List.set_cons_succ]
          refine wpAnyH_take (i := 12) (oi := { dst := some 93, op := Op.load 24 (Operand.tmp 10), type := 24, pos := "law.go:52", after := #[{ on := 11, ground := Ground.guard }], guard := some (11, true) }) (v := undef) rfl (by kernel_rfl) (by kernel_rfl) (by kernel_rfl) (fun _ _ _ h => h) (Or.inr ⟨by rfl, rfl⟩) hHeld ?_
          try simp only [Act.put, List.setIfInBounds_toArray, List.set_cons_zero, List.set_cons_succ]
          refine wpAnyH_take (i := 13) (oi := { dst := some 94, op := Op.indexAddr 26 (Operand.tmp 5) (Operand.const (Value.int IntKind.i64 0)), type := 0, pos := "law.go:52", after := #[{ on := 11, ground := Ground.guard }], guard := some (11, true) }) (v := undef) rfl (by kernel_rfl) (by kernel_rfl) (by kernel_rfl) (fun _ _ _ h => h) (Or.inr ⟨by rfl, rfl⟩) hHeld ?_
          try simp only [Act.put, List.setIfInBounds_toArray, List.set_cons_zero, List.set_cons_succ]
          refine wpAnyH_take (i := 14) (oi := { dst := some 95, op := Op.load 3 (Operand.tmp 94), type := 3, pos := "law.go:52", after := #[{ on := 13, ground := Ground.data }, { on := 11, ground := Ground.guard }], guard := some (11, true) }) (v := undef) rfl (by kernel_rfl) (by kernel_rfl) (by kernel_rfl) (fun _ _ _ h => h) (Or.inr ⟨by rfl, rfl⟩) hHeld ?_
          try simp only [Act.put, List.setIfInBounds_toArray, List.set_cons_zero, List.set_cons_succ]
          refine wpAnyH_take (i := 15) (oi := { dst := some 96, op := Op.indexAddr 26 (Operand.tmp 5) (Operand.const (Value.int IntKind.i64 0)), type := 0, pos := "law.go:52", after := #[{ on := 11, ground := Ground.guard }], guard := some (11, true) }) (v := undef) rfl (by kernel_rfl) (by kernel_rfl) (by kernel_rfl) (fun _ _ _ h => h) (Or.inr ⟨by rfl, rfl⟩) hHeld ?_
          try simp only [Act.put, List.setIfInBounds_toArray, List.set_cons_zero, List.set_cons_succ]
          refine wpAnyH_take (i := 16) (oi := { dst := some 97, op := Op.load 3 (Operand.tmp 96), type := 3, pos := "law.go:52", after := #[{ on := 15, ground := Ground.data }, { on := 11, ground := Ground.guard }], guard := some (11, true) }) (v := undef) rfl (by kernel_rfl) (by kernel_rfl) (by kernel_rfl) (fun _ _ _ h => h) (Or.inr ⟨by rfl, rfl⟩) hHeld ?_
          try simp only [Act.put, List.setIfInBounds_toArray, List.set_cons_zero, List.set_cons_succ]
          refine wpAnyH_take (i := 17) (oi := { dst := some 98, op := Op.call { callee := Callee.value (Operand.func 17), args := #[Operand.tmp 95, Operand.tmp 97], argTypes := #[3, 3] }, type := 24, pos := "law.go:52", after := #[{ on := 14, ground := Ground.data }, { on := 16, ground := Ground.data }, { on := 11, ground := Ground.chain }, { on := 11, ground := Ground.guard }], guard := some (11, true) }) (v := undef) rfl (by kernel_rfl) (by kernel_rfl) (by kernel_rfl) (fun _ _ _ h => h) (Or.inr ⟨by rfl, rfl⟩) hHeld ?_
          try simp only [Act.put, List.setIfInBounds_toArray, List.set_cons_zero, List.set_cons_succ]
          refine wpAnyH_take (i := 18) (oi := { dst := some 99, op := Op.call { callee := Callee.value (Operand.func 12), args := #[Operand.tmp 93, Operand.tmp 98], argTypes := #[24, 24] }, type := 4, pos := "law.go:52", after := #[{ on := 12, ground := Ground.data }, { on := 17, ground := Ground.data }, { on := 17, ground := Ground.chain }, { on := 11, ground := Ground.guard }], guard := some (11, true) }) (v := undef) rfl (by kernel_rfl) (by kernel_rfl) (by kernel_rfl) (fun _ _ _ h => h) (Or.inr ⟨by rfl, rfl⟩) hHeld ?_
          try simp only [Act.put, List.setIfInBounds_toArray, List.set_cons_zero, List.set_cons_succ]
          refine wpAnyH_take (i := 19) (oi := { dst := some 100, op := Op.pick (Operand.tmp 92) (Operand.tmp 99) (Operand.const (Value.bool false)), type := 4, pos := "law.go:52", after := #[{ on := 11, ground := Ground.data }, { on := 18, ground := Ground.data }, { on := 7, ground := Ground.guard }], guard := some (7, false) }) (v := ?_) rfl (by kernel_rfl) (by kernel_rfl) (by kernel_rfl) (fun _ _ _ h => h) (Or.inl ⟨by rfl, ?_⟩) hHeld ?_
          rotate_left
          · intro u hSw
            go_simp
            try with_reducible rfl
          try simp only [Act.put, List.setIfInBounds_toArray, List.set_cons_zero, List.set_cons_succ]
          refine wpAnyH_take (i := 20) (oi := { dst := some 101, op := Op.pick (Operand.tmp 88) (Operand.const (Value.bool true)) (Operand.tmp 100), type := 4, pos := "law.go:52", after := #[{ on := 7, ground := Ground.data }, { on := 19, ground := Ground.data }], guard := none }) (v := ?_) rfl (by kernel_rfl) (by kernel_rfl) (by kernel_rfl) (fun _ _ _ h => h) (Or.inl ⟨by rfl, ?_⟩) hHeld ?_
          rotate_left
          · intro u hSw
            go_simp
            try with_reducible rfl
          try simp only [Act.put, List.setIfInBounds_toArray, List.set_cons_zero, List.set_cons_succ]
          refine wpAnyH_done (by kernel_rfl) ?_ _
          refine NoPanic.normal ?_
          have HB9 : Hid _ := hHeld
          clear hHeld
          go_wp2
          go_meet
          exact HB9.out
      · exact absurd hok hno
    · rcases H80.out with ⟨hok, _⟩ | ⟨_, rfl⟩
      · exact absurd hok hno
      · have b1 := cellAt hbx 0 _ rfl
        have b2 := cellAt hbx 1 _ rfl
        have b3 := cellAt hbx 2 _ rfl
        clear hno hbx
        unfold errAt
        go_wp2_with fail
        refine Calls.mono (as_shape _ 0 0 none 0 0 _ es s (errsAt_below HE.out HW6.out) HES.out rfl) ?_
        rintro e wj ⟨rfl, hbj⟩
        have HB : Hid _ := hbj
        clear hbj b1 b2 b3
        go_wp2
        go_meet
        exact HB.out
  case rest =>
  have hB := hcut
  clear HANS H80
  generalize wc = w7 at *
  have HA7 : Hid _ := holds_later HA6.out hB
  have HW7 : Hid (Below w.heap.size w w7) := HW6.out.trans (hB.mono HW6.out.size)
  clear hB HA6 HW6
  have c2 := cellAt (holds_at HA7.out 1 rfl) 1 _ rfl
  unfold sz at hn1
  go_upto_region 19 with (first | (go_at_call 15; refine (sized_yes _ _ (by assumption) (by assumption)).mono ?_; rintro e w' ⟨rfl, rfl⟩) | (go_at_call 15; refine (sized_no _ _ (by assumption)).mono ?_; rintro e w' ⟨rfl, rfl⟩))
  clear c2
  have c2 := cellAt (holds_at HA7.out 1 rfl) 1 _ rfl
  go_wp2
  refine wp_loop_rounds 1 ?_
  rw [rounds_succ]
  have HC9 : Hid _ := cell_later HW7.out HS.out
  by_cases hl0 : 0 < lr
  all_goals
    go_wp2_with fail
    refine Calls.mono (of_no n1 lr cr ar _ s HC9.out (fun h => HNO.out ⟨⟨h.1, h.2.1⟩, h.2.2⟩)) ?_
    rintro e w8 ⟨rfl, hb8⟩
    have HW8 : Hid (Below w.heap.size w w8) := HW7.out.trans (hb8.mono HW7.out.size)
    clear hb8 c2
    unfold errAt
    go_wp2_with fail
    have hAl := HW8.out.alloc HW8.out.size (.cells #[.int .i64 0, .int .i64 0, .slice none 0 0] 24)
    refine Calls.mono (as_shape _ 0 0 none 0 0 _ es s (errsAt_below HE.out hAl) HES.out rfl) ?_
    rintro e wj ⟨rfl, hbj⟩
    have HB : Hid (Below w.heap.size w wj) := hAl.trans (hbj.mono hAl.size)
    clear hbj hAl
    go_wp2
    go_ret
    exact ⟨rfl, HB.out⟩
set_option maxRecDepth 100000 in
set_option maxHeartbeats 8000000 in
theorem forms_NL (r c : Int) (n0 : Int) (k1 : Nat) (l cap lr cr : Nat) (a ar : Option Addr) (xs : List F) (L : List (List F)) (w : World) (hf : ¬ (0 ≤ r ∧ r ≤ 64 ∧ 0 ≤ c ∧ c ≤ 64 ∧ (l : Int) = r * c)) (h1 : k1 ≤ 64) (h2 : ¬ lr ≤ 64) (hx : l = xs.length) (hcap : l ≤ cap) (hm : cap ≤ 140737488351232) (hX : Row8 w a xs) (hna : a = none → cap = 0)
    (hlr : lr = L.length) (hR : Rows8 w ar L) (hcp : ∀ b off, ar = some ⟨b, off, none⟩ → ∀ j n a' cap', w.cell? ⟨b, off + j, none⟩ = some (.slice a' n cap') → j < L.length → a' = none → cap' = 0)
    (es : List Addr) (s : Addr) (hes : ErrsAt w gsNum es) (hs : es[1]? = some s) (hs2 : w.cell? ⟨0, 0, none⟩ = some (errAt s)) :
    Calls Tryd.prog 3 #[.agg #[.int .i64 r, .int .i64 c, .slice a l cap], .slice ar lr cr, .agg #[.int .i64 n0, .int .i64 k1]] w fun e w' => e = .returned (.bool true) ∧ Below w.heap.size w w' := by
  have HXL : Hid _ := hx
  have HX : Hid (Row8 w a xs) := hX
  have HNA : Hid _ := hna
  have HLR : Hid _ := hlr
  have HRR : Hid (Rows8 w ar L) := hR
  have HCP : Hid _ := hcp
  have HE : Hid _ := hes
  have HES : Hid _ := hs
  have HS : Hid _ := hs2
  clear hx hX hna hlr hR hcp hes hs hs2
  have HF : Hid _ := hf
  clear hf
  have HNO : Hid (¬ (sz (k1 : Int) ∧ lr ≤ 64)) := fun h => h2 h.2
  have a0 : (0 : Int) ≤ (k1 : Int) := by omega
  have a1 : (k1 : Int) ≤ 64 := by omega
  have hBA := heap_alloc2_old w (.cells #[.int .i64 r, .int .i64 c, .slice a l cap] 24) (.cells #[.int .i64 n0, .int .i64 k1] 26)
  have hBN := heap_alloc2_new w (.cells #[.int .i64 r, .int .i64 c, .slice a l cap] 24) (.cells #[.int .i64 n0, .int .i64 k1] 26)
  go_enter Tryd.func3, Tryd.ntmps3
  go_wp2_with fail
  refine Calls.mono (alive_ok _) ?_
  rintro e w1 ⟨rfl, hb1⟩
  have HA1 : Hid _ := holds_cons (holds_cons (holds_nil _) (heap_later hBN hb1)) (heap_later hBA hb1)
  have HW1 : Hid (Below w.heap.size w w1) := (((Below.refl w.heap.size w).alloc (Nat.le_refl _) _).alloc (by simp) _).trans (hb1.mono (by simp; omega))
  clear hBA hBN hb1
  have c1 := cellAt (holds_at HA1.out 0 rfl) 0 _ rfl
  have c2 := cellAt (holds_at HA1.out 0 rfl) 1 _ rfl
  have c3 := cellAt (holds_at HA1.out 0 rfl) 2 _ rfl
  go_wp2_with fail
  refine Calls.mono (inForm_no r c a l cap _ HF.out) ?_
  rintro e w2 ⟨rfl, hB⟩
  have HA2 : Hid _ := holds_later HA1.out hB
  have HW2 : Hid (Below w.heap.size w w2) := HW1.out.trans (hB.mono HW1.out.size)
  clear hB HA1 HW1 c1 c2 c3
  have c1 := box_cell (holds_at HA2.out 0 rfl) 0 _ rfl
  have c2 := box_cell (holds_at HA2.out 0 rfl) 1 _ rfl
  have c3 := box_cell (holds_at HA2.out 0 rfl) 2 _ rfl
  have c9 : ∀ w', Below w2.heap.size w2 w' → w'.cell? ⟨0, 0, none⟩ = some (errAt s) := fun w' hb => cell_later hb (cell_later HW2.out HS.out)
  have q9 := fun w' => neq_same w' s
  unfold errAt at c9
  have hR2 : Below w2.heap.size w2 w2.drew := (Below.refl _ _).drew
  go_upto_region 4 with fail
  go_region_held3 (fun w' => Below w2.heap.size w2 w') (first | assumption | (refine Below.drew ?_; assumption)) (first | (go_at_call 11; refine Calls.mono (check_bad r c a l cap _ _ (c9 _ ‹Below w2.heap.size w2 _›) HF.out) ?_; rintro e wi ⟨rfl, hbi⟩; have hTa : Below w2.heap.size w2 wi := Below.trans ‹Below w2.heap.size w2 _› (Below.mono hbi (below_size ‹Below w2.heap.size w2 _›)); clear hbi) | (go_at_call 13; refine Calls.mono (in_F r c l cap a xs _ HXL.out (by omega) (row8_below HX.out (HW2.out.trans (Below.mono ‹Below w2.heap.size w2 _› HW2.out.size))) HNA.out) ?_; rintro e wj ⟨gi, rfl, hgi, hhi, hbj⟩; have hTb : Below w2.heap.size w2 wj := Below.trans ‹Below w2.heap.size w2 _› (Below.mono hbj (below_size ‹Below w2.heap.size w2 _›)); have HHI : Hid _ := hhi; clear hbj hhi hgi) | (go_at_call 12; refine Calls.mono (same_F r c a _ l cap l (l + 6) xs xs _ HXL.out HXL.out (row8_below HX.out (HW2.out.trans (Below.mono ‹Below w2.heap.size w2 _› HW2.out.size))) (row8_front HHI.out)) ?_; rintro e wk ⟨rfl, hbk⟩; rw [eqB_true]; have hTc : Below w2.heap.size w2 wk := Below.trans ‹Below w2.heap.size w2 _› (Below.mono hbk (below_size ‹Below w2.heap.size w2 _›)); clear hbk))
  have hB := hTc
  have HA3 : Hid _ := holds_later HA2.out hB
  have HW3 : Hid _ := HW2.out.trans (hB.mono HW2.out.size)
  clear hB hTa hTb hTc HA2 HW2 c1 c2 c3 c9 q9 hR2 HHI
  generalize wk = w3 at *
  go_upto_region 6 with fail
  go_cut [8, 9] (fun s8 s9 wx => AnsM wx s8 s9 s (sz n0 ∧ sz (k1 : Int)) n0 (k1 : Int) (zeros (n0.toNat * k1)) ∧ Below w3.heap.size w3 wx)
  case first =>
    have c1 := cellAt (holds_at HA3.out 1 rfl) 0 _ rfl
    have c2 := cellAt (holds_at HA3.out 1 rfl) 1 _ rfl
    by_cases hz : sz n0 ∧ sz (k1 : Int)
    · obtain ⟨k0, rfl⟩ := Int.eq_ofNat_of_zero_le hz.1.1
      have h0 : k0 ≤ 64 := by have := hz.1.2; omega
      have HZ : Hid _ := hz
      clear hz
      go_wp2_with fail
      refine Calls.mono (zero_F k0 k1 _ h0 h1) ?_
      rintro e w4 ⟨g, n, rfl, hn, hg, hh, hb4⟩
      have HN : Hid _ := hn
      have HH : Hid _ := hh
      have HB : Hid _ := hb4
      clear hn hg hh hb4 c1 c2
      go_wp2
      go_meet
      exact ⟨⟨_, rfl, .inl ⟨HZ.out, rfl, g, n, heap_alloc_last _ _, (Below.heap_alloc _ _ _ (ltHeap HH.out)).trans HH.out, by rw [zeros_len]; exact HN.out⟩⟩, HB.out.alloc HB.out.size _⟩
    · have HZ : Hid _ := hz
      clear hz
      have c9 := cell_later HW3.out HS.out
      go_wp2_with fail
      refine Calls.mono (zero_bad n0 k1 _ _ c9 (fun h => HZ.out ⟨⟨h.1, h.2.1⟩, h.2.2.1, h.2.2.2⟩)) ?_
      rintro e w4 ⟨rfl, hb4⟩
      have HB : Hid _ := hb4
      clear hb4 c1 c2 c9
      unfold errAt
      go_wp2
      go_meet
      exact ⟨⟨_, rfl, .inr ⟨HZ.out, rfl, heap_alloc_last _ _⟩⟩, HB.out.alloc HB.out.size _⟩
  case rest =>
  obtain ⟨hans, hB⟩ := hcut
  generalize wc = w4 at *
  have HA4 : Hid _ := holds_later HA3.out hB
  have HW4 : Hid (Below w.heap.size w w4) := HW3.out.trans (hB.mono HW3.out.size)
  clear hB HA3 HW3
  have HANS : Hid _ := hans
  clear hans
  go_upto_region 7 with fail
  go_cut [57] (fun s57 wx => ((sz n0 ∧ sz (k1 : Int)) ∧ s57 = .bool true ∨ ¬ (sz n0 ∧ sz (k1 : Int)) ∧ s57 = .bool false) ∧ wx = w4)
  case first =>
    have c1 := cellAt (holds_at HA4.out 1 rfl) 0 _ rfl
    have c2 := cellAt (holds_at HA4.out 1 rfl) 1 _ rfl
    by_cases h0 : sz n0
    · by_cases h1 : sz (k1 : Int)
      · have HZ : Hid _ := And.intro h0 h1
        obtain ⟨a0, a1⟩ := h0
        obtain ⟨b0, b1⟩ := h1
        go_wp2_with (first | (go_at_call 15; refine (sized_yes _ _ (by assumption) (by assumption)).mono ?_; rintro e w' ⟨rfl, rfl⟩) | (go_at_call 15; refine (sized_no _ _ (by assumption)).mono ?_; rintro e w' ⟨rfl, rfl⟩))
        go_meet
        exact ⟨.inl ⟨HZ.out, rfl⟩, rfl⟩
      · exact absurd ⟨by omega, by omega⟩ h1
    · have HZ : Hid (¬ (sz n0 ∧ sz (k1 : Int))) := fun h => h0 h.1
      unfold sz at h0
      go_wp2_with (first | (go_at_call 15; refine (sized_yes _ _ (by assumption) (by assumption)).mono ?_; rintro e w' ⟨rfl, rfl⟩) | (go_at_call 15; refine (sized_no _ _ (by assumption)).mono ?_; rintro e w' ⟨rfl, rfl⟩))
      go_meet
      exact ⟨.inr ⟨HZ.out, rfl⟩, rfl⟩
  case rest =>
  obtain ⟨h57, rfl⟩ := hcut
  generalize wc = w4 at *
  have H57 : Hid _ := h57
  clear h57
  go_upto_if 57 with fail
  go_cut [] (fun wx => Below w4.heap.size w4 wx)
  case first =>
    obtain ⟨N, rfl, ⟨hok, rfl, g, m, hbx, hdt, hm⟩ | ⟨hno, rfl, hbx⟩⟩ := HANS.out
    · rcases H57.out with ⟨_, rfl⟩ | ⟨hno, _⟩
      · have HD : Hid _ := hdt
        have HM : Hid _ := hm
        have b1 := box_cell hbx 0 _ rfl
        have b2 := box_cell hbx 1 _ rfl
        have b3 := box_cell hbx 2 _ rfl
        have c1 := box_cell (holds_at HA4.out 1 rfl) 0 _ rfl
        have c2 := box_cell (holds_at HA4.out 1 rfl) 1 _ rfl
        clear hbx hdt hm
        obtain ⟨k0, rfl⟩ := Int.eq_ofNat_of_zero_le hok.1.1
        have h0 : k0 ≤ 64 := by have := hok.1.2; omega
        clear hok
        have hR2 : Below w4.heap.size w4 w4 := Below.refl _ _
        go_wp2
        go_region_held3 (fun w' => Below w4.heap.size w4 w') (first | assumption | (refine Below.drew ?_; assumption)) (first | (go_at_call 17; refine Calls.mono (rzero_F k0 k1 _ h0 h1) ?_; rintro e wi ⟨g2, m2, rfl, hm2, hg2, hh2, hb2⟩; have hTa : Below w4.heap.size w4 wi := Below.trans ‹Below w4.heap.size w4 _› (Below.mono hb2 (below_size ‹Below w4.heap.size w4 _›)); have HM2 : Hid _ := hm2; have HH2 : Hid _ := hh2; clear hm2 hb2 hg2 hh2) | (go_at_call 16; refine Calls.mono (as_ok k0 k1 _ _ _ _ _ _ (zeros (k0 * k1)) _ (by have := HM.out; simpa using this) (by rw [zeros_len]; exact HM2.out) (row8_below (row8_own (by have := HD.out; simpa using this)) ‹Below w4.heap.size w4 _›) (row8_own HH2.out)) ?_; rintro e wj ⟨rfl, hbj⟩; have hTb : Below w4.heap.size w4 wj := Below.trans ‹Below w4.heap.size w4 _› (Below.mono hbj (below_size ‹Below w4.heap.size w4 _›)); clear hbj))
        have hB9 := ‹Below w4.heap.size w4 _›
        have HB9 : Hid _ := hB9
        clear hB9
        go_wp2
        go_meet
        exact HB9.out
      · exact absurd hok hno
    · rcases H57.out with ⟨hok, _⟩ | ⟨_, rfl⟩
      · exact absurd hok hno
      · have b1 := cellAt hbx 0 _ rfl
        have b2 := cellAt hbx 1 _ rfl
        have b3 := cellAt hbx 2 _ rfl
        clear hno hbx
        unfold errAt
        go_wp2_with fail
        refine Calls.mono (as_shape _ 0 0 none 0 0 _ es s (errsAt_below HE.out HW4.out) HES.out rfl) ?_
        rintro e wj ⟨rfl, hbj⟩
        have HB : Hid _ := hbj
        clear hbj b1 b2 b3
        go_wp2
        go_meet
        exact HB.out
  case rest =>
  have hB := hcut
  clear HANS H57
  generalize wc = w5 at *
  have HA5 : Hid _ := holds_later HA4.out hB
  have HW5 : Hid (Below w.heap.size w w5) := HW4.out.trans (hB.mono HW4.out.size)
  clear hB HA4 HW4
  go_upto_region 12 with fail
  go_cut [10, 11] (fun s10 s11 wx => AnsM wx s10 s11 s (sz n0) n0 n0 (oneM n0.toNat) ∧ Below w5.heap.size w5 wx)
  case first =>
    have c1 := cellAt (holds_at HA5.out 1 rfl) 0 _ rfl
    have c2 := cellAt (holds_at HA5.out 1 rfl) 1 _ rfl
    by_cases hz : sz n0
    · obtain ⟨k0, rfl⟩ := Int.eq_ofNat_of_zero_le hz.1
      have h0 : k0 ≤ 64 := by have := hz.2; omega
      have HZ : Hid _ := hz
      clear hz
      go_wp2_with fail
      refine Calls.mono (one_F k0 _ h0) ?_
      rintro e w4 ⟨g, n, rfl, hn, hg, hh, hb4⟩
      have HN : Hid _ := hn
      have HH : Hid _ := hh
      have HB : Hid _ := hb4
      clear hn hg hh hb4 c1 c2
      go_wp2
      go_meet
      exact ⟨⟨_, rfl, .inl ⟨HZ.out, rfl, g, n, heap_alloc_last _ _, (Below.heap_alloc _ _ _ (ltHeap HH.out)).trans HH.out, by rw [oneM_len]; exact HN.out⟩⟩, HB.out.alloc HB.out.size _⟩
    · have HZ : Hid _ := hz
      clear hz
      have c9 := cell_later HW5.out HS.out
      have HC9 : Hid _ := c9
      clear c9
      go_wp2_with fail
      refine Calls.mono (one_bad n0 _ s HC9.out HZ.out) ?_
      rintro e w4 ⟨rfl, hb4⟩
      have HB : Hid _ := hb4
      clear hb4 c1 c2
      unfold errAt
      go_wp2
      go_meet
      exact ⟨⟨_, rfl, .inr ⟨HZ.out, rfl, heap_alloc_last _ _⟩⟩, HB.out.alloc HB.out.size _⟩
  case rest =>
  obtain ⟨hans, hB⟩ := hcut
  generalize wc = w6 at *
  have HA6 : Hid _ := holds_later HA5.out hB
  have HW6 : Hid (Below w.heap.size w w6) := HW5.out.trans (hB.mono HW5.out.size)
  clear hB HA5 HW5
  have HANS : Hid _ := hans
  clear hans
  go_upto_region 13 with fail
  go_cut [80] (fun s80 wx => (sz n0 ∧ s80 = .bool true ∨ ¬ sz n0 ∧ s80 = .bool false) ∧ wx = w6)
  case first =>
    have c1 := cellAt (holds_at HA6.out 1 rfl) 0 _ rfl
    by_cases h0 : sz n0
    · have HZ : Hid _ := h0
      obtain ⟨a0, a1⟩ := h0
      go_wp2_with (first | (go_at_call 15; refine (sized_yes _ _ (by assumption) (by assumption)).mono ?_; rintro e w' ⟨rfl, rfl⟩) | (go_at_call 15; refine (sized_no _ _ (by assumption)).mono ?_; rintro e w' ⟨rfl, rfl⟩))
      go_meet
      exact ⟨.inl ⟨HZ.out, rfl⟩, rfl⟩
    · have HZ : Hid (¬ sz n0) := h0
      unfold sz at h0
      go_wp2_with (first | (go_at_call 15; refine (sized_yes _ _ (by assumption) (by assumption)).mono ?_; rintro e w' ⟨rfl, rfl⟩) | (go_at_call 15; refine (sized_no _ _ (by assumption)).mono ?_; rintro e w' ⟨rfl, rfl⟩))
      go_meet
      exact ⟨.inr ⟨HZ.out, rfl⟩, rfl⟩
  case rest =>
  obtain ⟨h80, rfl⟩ := hcut
  generalize wc = w6 at *
  have H80 : Hid _ := h80
  clear h80
  go_upto_if 80 with fail
  go_cut [] (fun wx => Below w6.heap.size w6 wx)
  case first =>
    obtain ⟨N, rfl, ⟨hok, rfl, g, m, hbx, hdt, hm⟩ | ⟨hno, rfl, hbx⟩⟩ := HANS.out
    · rcases H80.out with ⟨_, rfl⟩ | ⟨hno, _⟩
      · have HD : Hid _ := hdt
        have HM : Hid _ := hm
        have b1 := box_cell hbx 0 _ rfl
        have b2 := box_cell hbx 1 _ rfl
        have b3 := box_cell hbx 2 _ rfl
        have c1 := box_cell (holds_at HA6.out 1 rfl) 0 _ rfl
        have c2 := box_cell (holds_at HA6.out 1 rfl) 1 _ rfl
        clear hbx hdt hm
        obtain ⟨k0, rfl⟩ := Int.eq_ofNat_of_zero_le hok.1
        have h0 : k0 ≤ 64 := by have := hok.2; omega
        clear hok c2
        have hR2 : Below w6.heap.size w6 w6.drew := (Below.refl _ _).drew
        by_cases h0p : 0 < k0
        · have h0d : decide ((0 : Int) < (k0 : Int)) = true := by simpa using h0p
          go_wp2
          go_region_held3 (fun w' => Below w6.heap.size w6 w') (first | assumption | (refine Below.drew ?_; assumption)) (first | (go_at_call 19; refine Calls.mono (rone_F k0 _ h0) ?_; rintro e wi ⟨g2, m2, rfl, hm2, hg2, hh2, hb2⟩; have hTa : Below w6.heap.size w6 wi := Below.trans ‹Below w6.heap.size w6 _› (Below.mono hb2 (below_size ‹Below w6.heap.size w6 _›)); have HM2 : Hid _ := hm2; have HH2 : Hid _ := hh2; clear hm2 hb2 hg2 hh2) | (go_at_call 16; refine Calls.mono (as_ok k0 k0 _ _ _ _ _ _ (oneM k0) _ (by have := HM.out; simpa using this) (by rw [oneM_len]; exact HM2.out) (row8_below (row8_own (by have := HD.out; simpa using this)) ‹Below w6.heap.size w6 _›) (row8_own HH2.out)) ?_; rintro e wj ⟨rfl, hbj⟩; have hTb : Below w6.heap.size w6 wj := Below.trans ‹Below w6.heap.size w6 _› (Below.mono hbj (below_size ‹Below w6.heap.size w6 _›)); clear hbj) | (go_at_call 17; refine Calls.mono (rzero_F k0 k0 _ h0 h0) ?_; rintro e wm ⟨g3, m3, rfl, hm3, hg3, hh3, hb3⟩; have hTc : Below w6.heap.size w6 wm := Below.trans ‹Below w6.heap.size w6 _› (Below.mono hb3 (below_size ‹Below w6.heap.size w6 _›)); have HM3 : Hid _ := hm3; have HH3 : Hid _ := hh3; clear hm3 hb3 hg3 hh3) | (go_at_call 12; refine Calls.mono (same_F k0 k0 _ _ _ _ _ _ (oneM k0) (zeros (k0 * k0)) _ (by have := HM.out; simpa using this) (by rw [zeros_len]; exact HM3.out) (row8_below (row8_own (by have := HD.out; simpa using this)) ‹Below w6.heap.size w6 _›) (row8_own HH3.out)) ?_; rintro e wk ⟨rfl, hbk⟩; rw [one_zeros h0p]; have hTd : Below w6.heap.size w6 wk := Below.trans ‹Below w6.heap.size w6 _› (Below.mono hbk (below_size ‹Below w6.heap.size w6 _›)); clear hbk))
          have hB9 := ‹Below w6.heap.size w6 _›; have HB9 : Hid _ := hB9; clear hB9; go_wp2; go_meet; exact HB9.out
        · obtain rfl : k0 = 0 := by omega
          go_wp2
          refine wp_region_noPanic ?_
          refine wp_region_held_drew (S := fun u => Below w6.heap.size w6 u) (by kernel_rfl) ?_ (fun hHeld => ?_)
          · exact hR2
          refine wpAnyH_take (i := 0) (oi := { dst := some 81, op := Op.load 24 (Operand.tmp 10), type := 24, pos := "law.go:52", after := #[], guard := none }) (v := ?_) rfl (by kernel_rfl) (by kernel_rfl) (by kernel_rfl) (fun _ _ _ h => h) (Or.inl ⟨by rfl, ?_⟩) hHeld ?_
          rotate_left
          · intro u hSw
            go_simp
            try with_reducible rfl
          try simp only [Act.put, List.setIfInBounds_toArray, List.set_cons_zero, List.set_cons_succ]
          refine wpAnyH_take (i := 1) (oi := { dst := some 82, op := Op.move (Operand.tmp 11), type := 30, pos := "law.go:52", after := #[], guard := none }) (v := ?_) rfl (by kernel_rfl) (by kernel_rfl) (by kernel_rfl) (fun _ _ _ h => h) (Or.inl ⟨by rfl, ?_⟩) hHeld ?_
          rotate_left
          · intro u hSw
            go_simp
            try with_reducible rfl
          try simp only [Act.put, List.setIfInBounds_toArray, List.set_cons_zero, List.set_cons_succ]
          refine wpAnyH_take (i := 2) (oi := { dst := some 83, op := Op.indexAddr 26 (Operand.tmp 5) (Operand.const (Value.int IntKind.i64 0)), type := 0, pos := "law.go:52", after := #[], guard := none }) (v := ?_) rfl (by kernel_rfl) (by kernel_rfl) (by kernel_rfl) (fun _ _ _ h => h) (Or.inl ⟨by rfl, ?_⟩) hHeld ?_
          rotate_left
          · intro u hSw
            go_simp
            try with_reducible rfl
          try simp only [Act.put, List.setIfInBounds_toArray, List.set_cons_zero, List.set_cons_succ]
          refine wpAnyH_take (i := 3) (oi := { dst := some 84, op := Op.load 3 (Operand.tmp 83), type := 3, pos := "law.go:52", after := #[{ on := 2, ground := Ground.data }], guard := none }) (v := ?_) rfl (by kernel_rfl) (by kernel_rfl) (by kernel_rfl) (fun _ _ _ h => h) (Or.inl ⟨by rfl, ?_⟩) hHeld ?_
          rotate_left
          · intro u hSw
            go_simp
            try with_reducible rfl
          try simp only [Act.put, List.setIfInBounds_toArray, List.set_cons_zero, List.set_cons_succ]
          refine wpAnyH_ready (rs := [4]) (by kernel_rfl) (by simp) ?_
          refine AllReadyH.cons (o := { dst := some 85, op := Op.call { callee := Callee.value (Operand.func 19), args := #[Operand.tmp 84], argTypes := #[3] }, type := 24, pos := "law.go:52", after := #[{ on := 3, ground := Ground.data }], guard := none }) rfl (fun K hK => ?_) AllReadyH.nil
          go_simp
          refine Calls.mono (rone_0 _) ?_
          rintro e wi ⟨g2, m2, rfl, hm2, hg2, hh2, hb2⟩
          have HM2 : Hid _ := hm2
          have HH2 : Hid _ := hh2
          clear hm2 hg2 hh2
          go_wp2_with fail
          refine hK.out _ _ ?_ (fun hHeld => ?_)
          · exact Below.trans hHeld (Below.mono hb2 (below_size hHeld))
          clear hK K
          try simp only [Act.put, List.setIfInBounds_toArray, List.set_cons_zero, List.set_cons_succ]
          refine wpAnyH_ready (rs := [5]) (by kernel_rfl) (by simp) ?_
          refine AllReadyH.cons (o := { dst := some 86, op := Op.call { callee := Callee.value (Operand.func 16), args := #[Operand.tmp 81, Operand.tmp 82, Operand.tmp 85, Operand.const (Value.int IntKind.i64 0)], argTypes := #[24, 30, 24, 3] }, type := 4, pos := "law.go:52", after := #[{ on := 0, ground := Ground.data }, { on := 1, ground := Ground.data }, { on := 4, ground := Ground.data }, { on := 4, ground := Ground.chain }], guard := none }) rfl (fun K hK => ?_) AllReadyH.nil
          go_simp
          refine Calls.mono (as_ok 0 0 _ _ _ _ _ _ (oneM 0) _ (by have := HM.out; simpa using this) (by rw [oneM_len]; exact HM2.out) (row8_below (row8_own (by have := HD.out; simpa using this)) hHeld) (row8_own HH2.out)) ?_
          rintro e wj ⟨rfl, hbj⟩
          go_wp2_with fail
          refine hK.out _ _ ?_ (fun hHeld => ?_)
          · exact Below.trans hHeld (Below.mono hbj (below_size hHeld))
          clear hK K
          try simp only [Act.put, List.setIfInBounds_toArray, List.set_cons_zero, List.set_cons_succ]
          refine wpAnyH_take (i := 6) (oi := { dst := some 87, op := Op.unOp UnOp.not 4 (Operand.tmp 86), type := 4, pos := "law.go:52", after := #[{ on := 5, ground := Ground.data }], guard := none }) (v := ?_) rfl (by kernel_rfl) (by kernel_rfl) (by kernel_rfl) (fun _ _ _ h => h) (Or.inl ⟨by rfl, ?_⟩) hHeld ?_
          rotate_left
          · intro u hSw
            go_simp
            try with_reducible rfl
          try simp only [Act.put, List.setIfInBounds_toArray, List.set_cons_zero, List.set_cons_succ]
          refine wpAnyH_take (i := 7) (oi := { dst := some 88, op := Op.move (Operand.tmp 87), type := 4, pos := "law.go:52", after := #[{ on := 6, ground := Ground.data }, { on := 5, ground := Ground.chain }], guard := none }) (v := ?_) rfl (by kernel_rfl) (by kernel_rfl) (by kernel_rfl) (fun _ _ _ h => h) (Or.inl ⟨by rfl, ?_⟩) hHeld ?_
          rotate_left
          · intro u hSw
            go_simp
            try with_reducible rfl
          try simp only [Act.put, List.setIfInBounds_toArray, List.set_cons_zero, List.set_cons_succ]
          refine wpAnyH_take (i := 8) (oi := { dst := some 89, op := Op.indexAddr 26 (Operand.tmp 5) (Operand.const (Value.int IntKind.i64 0)), type := 0, pos := "law.go:52", after := #[{ on := 7, ground := Ground.guard }], guard := some (7, false) }) (v := ?_) rfl (by kernel_rfl) (by kernel_rfl) (by kernel_rfl) (fun _ _ _ h => h) (Or.inl ⟨by rfl, ?_⟩) hHeld ?_
          rotate_left
          · intro u hSw
            go_simp
            try with_reducible rfl
          try simp only [Act.put, List.setIfInBounds_toArray, List.set_cons_zero, List.set_cons_succ]
          refine wpAnyH_take (i := 9) (oi := { dst := some 90, op := Op.load 3 (Operand.tmp 89), type := 3, pos := "law.go:52", after := #[{ on := 8, ground := Ground.data }, { on := 7, ground := Ground.guard }], guard := some (7, false) }) (v := ?_) rfl (by kernel_rfl) (by kernel_rfl) (by kernel_rfl) (fun _ _ _ h => h) (Or.inl ⟨by rfl, ?_⟩) hHeld ?_
          rotate_left
          · intro u hSw
            go_simp
            try with_reducible rfl
          try simp only [Act.put, List.setIfInBounds_toArray, List.set_cons_zero, List.set_cons_succ]
          refine wpAnyH_take (i := 10) (oi := { dst := some 91, op := Op.binOp BinOp.gtr 3 (Operand.tmp 90) (Operand.const (Value.int IntKind.i64 0)) 3, type := 4, pos := "law.go:52", after := #[{ on := 9, ground := Ground.data }, { on := 7, ground := Ground.guard }], guard := some (7, false) }) (v := ?_) rfl (by kernel_rfl) (by kernel_rfl) (by kernel_rfl) (fun _ _ _ h => h) (Or.inl ⟨by rfl, ?_⟩) hHeld ?_
          rotate_left
          · intro u hSw
            go_simp
            try with_reducible rfl
          try simp only [Act.put, List.setIfInBounds_toArray, List.set_cons_zero, List.set_cons_succ]
          refine wpAnyH_take (i := 11) (oi := { dst := some 92, op := Op.move (Operand.tmp 91), type := 4, pos := "law.go:52", after := #[{ on := 10, ground := Ground.data }, { on := 7, ground := Ground.chain }, { on := 7, ground := Ground.guard }], guard := some (7, false) }) (v := ?_) rfl (by kernel_rfl) (by kernel_rfl) (by kernel_rfl) (fun _ _ _ h => h) (Or.inl ⟨by rfl, ?_⟩) hHeld ?_
          rotate_left
          · intro u hSw
            go_simp
            try with_reducible rfl
          try simp only [Act.put, List.setIfInBounds_toArray, List.set_cons_zero, List.set_cons_succ]
          refine wpAnyH_take (i := 12) (oi := { dst := some 93, op := Op.load 24 (Operand.tmp 10), type := 24, pos := "law.go:52", after := #[{ on := 11, ground := Ground.guard }], guard := some (11, true) }) (v := undef) rfl (by kernel_rfl) (by kernel_rfl) (by kernel_rfl) (fun _ _ _ h => h) (Or.inr ⟨by rfl, rfl⟩) hHeld ?_
          try simp only [Act.put, List.setIfInBounds_toArray, List.set_cons_zero, List.set_cons_succ]
          refine wpAnyH_take (i := 13) (oi := { dst := some 94, op := Op.indexAddr 26 (Operand.tmp 5) (Operand.const (Value.int IntKind.i64 0)), type := 0, pos := "law.go:52", after := #[{ on := 11, ground := Ground.guard }], guard := some (11, true) }) (v := undef) rfl (by kernel_rfl) (by kernel_rfl) (by kernel_rfl) (fun _ _ _ h => h) (Or.inr ⟨by rfl, rfl⟩) hHeld ?_
          try simp only [Act.put, List.setIfInBounds_toArray, List.set_cons_zero, List.set_cons_succ]
          refine wpAnyH_take (i := 14) (oi := { dst := some 95, op := Op.load 3 (Operand.tmp 94), type := 3, pos := "law.go:52", after := #[{ on := 13, ground := Ground.data }, { on := 11, ground := Ground.guard }], guard := some (11, true) }) (v := undef) rfl (by kernel_rfl) (by kernel_rfl) (by kernel_rfl) (fun _ _ _ h => h) (Or.inr ⟨by rfl, rfl⟩) hHeld ?_
          try simp only [Act.put, List.setIfInBounds_toArray, List.set_cons_zero, List.set_cons_succ]
          refine wpAnyH_take (i := 15) (oi := { dst := some 96, op := Op.indexAddr 26 (Operand.tmp 5) (Operand.const (Value.int IntKind.i64 0)), type := 0, pos := "law.go:52", after := #[{ on := 11, ground := Ground.guard }], guard := some (11, true) }) (v := undef) rfl (by kernel_rfl) (by kernel_rfl) (by kernel_rfl) (fun _ _ _ h => h) (Or.inr ⟨by rfl, rfl⟩) hHeld ?_
          try simp only [Act.put, List.setIfInBounds_toArray, List.set_cons_zero, List.set_cons_succ]
          refine wpAnyH_take (i := 16) (oi := { dst := some 97, op := Op.load 3 (Operand.tmp 96), type := 3, pos := "law.go:52", after := #[{ on := 15, ground := Ground.data }, { on := 11, ground := Ground.guard }], guard := some (11, true) }) (v := undef) rfl (by kernel_rfl) (by kernel_rfl) (by kernel_rfl) (fun _ _ _ h => h) (Or.inr ⟨by rfl, rfl⟩) hHeld ?_
          try simp only [Act.put, List.setIfInBounds_toArray, List.set_cons_zero, List.set_cons_succ]
          refine wpAnyH_take (i := 17) (oi := { dst := some 98, op := Op.call { callee := Callee.value (Operand.func 17), args := #[Operand.tmp 95, Operand.tmp 97], argTypes := #[3, 3] }, type := 24, pos := "law.go:52", after := #[{ on := 14, ground := Ground.data }, { on := 16, ground := Ground.data }, { on := 11, ground := Ground.chain }, { on := 11, ground := Ground.guard }], guard := some (11, true) }) (v := undef) rfl (by kernel_rfl) (by kernel_rfl) (by kernel_rfl) (fun _ _ _ h => h) (Or.inr ⟨by rfl, rfl⟩) hHeld ?_
          try simp only [Act.put, List.setIfInBounds_toArray, List.set_cons_zero, List.set_cons_succ]
          refine wpAnyH_take (i := 18) (oi := { dst := some 99, op := Op.call { callee := Callee.value (Operand.func 12), args := #[Operand.tmp 93, Operand.tmp 98], argTypes := #[24, 24] }, type := 4, pos := "law.go:52", after := #[{ on := 12, ground := Ground.data }, { on := 17, ground := Ground.data }, { on := 17, ground := Ground.chain }, { on := 11, ground := Ground.guard }], guard := some (11, true) }) (v := undef) rfl (by kernel_rfl) (by kernel_rfl) (by kernel_rfl) (fun _ _ _ h => h) (Or.inr ⟨by rfl, rfl⟩) hHeld ?_
          try simp only [Act.put, List.setIfInBounds_toArray, List.set_cons_zero, List.set_cons_succ]
          refine wpAnyH_take (i := 19) (oi := { dst := some 100, op := Op.pick (Operand.tmp 92) (Operand.tmp 99) (Operand.const (Value.bool false)), type := 4, pos := "law.go:52", after := #[{ on := 11, ground := Ground.data }, { on := 18, ground := Ground.data }, { on := 7, ground := Ground.guard }], guard := some (7, false) }) (v := ?_) rfl (by kernel_rfl) (by kernel_rfl) (by kernel_rfl) (fun _ _ _ h => h) (Or.inl ⟨by rfl, ?_⟩) hHeld ?_
          rotate_left
          · intro u hSw
            go_simp
            try with_reducible rfl
          try simp only [Act.put, List.setIfInBounds_toArray, List.set_cons_zero, List.set_cons_succ]
          refine wpAnyH_take (i := 20) (oi := { dst := some 101, op := Op.pick (Operand.tmp 88) (Operand.const (Value.bool true)) (Operand.tmp 100), type := 4, pos := "law.go:52", after := #[{ on := 7, ground := Ground.data }, { on := 19, ground := Ground.data }], guard := none }) (v := ?_) rfl (by kernel_rfl) (by kernel_rfl) (by kernel_rfl) (fun _ _ _ h => h) (Or.inl ⟨by rfl, ?_⟩) hHeld ?_
          rotate_left
          · intro u hSw
            go_simp
            try with_reducible rfl
          try simp only [Act.put, List.setIfInBounds_toArray, List.set_cons_zero, List.set_cons_succ]
          refine wpAnyH_done (by kernel_rfl) ?_ _
          refine NoPanic.normal ?_
          have HB9 : Hid _ := hHeld
          clear hHeld
          go_wp2
          go_meet
          exact HB9.out
      · exact absurd hok hno
    · rcases H80.out with ⟨hok, _⟩ | ⟨_, rfl⟩
      · exact absurd hok hno
      · have b1 := cellAt hbx 0 _ rfl
        have b2 := cellAt hbx 1 _ rfl
        have b3 := cellAt hbx 2 _ rfl
        clear hno hbx
        unfold errAt
        go_wp2_with fail
        refine Calls.mono (as_shape _ 0 0 none 0 0 _ es s (errsAt_below HE.out HW6.out) HES.out rfl) ?_
        rintro e wj ⟨rfl, hbj⟩
        have HB : Hid _ := hbj
        clear hbj b1 b2 b3
        go_wp2
        go_meet
        exact HB.out
  case rest =>
  have hB := hcut
  clear HANS H80
  generalize wc = w7 at *
  have HA7 : Hid _ := holds_later HA6.out hB
  have HW7 : Hid (Below w.heap.size w w7) := HW6.out.trans (hB.mono HW6.out.size)
  clear hB HA6 HW6
  have c2 := cellAt (holds_at HA7.out 1 rfl) 1 _ rfl
  have h2' : decide ((lr : Int) ≤ 64) = false := by simp; omega
  go_upto_region 19 with (first | (go_at_call 15; refine (sized_yes _ _ (by assumption) (by assumption)).mono ?_; rintro e w' ⟨rfl, rfl⟩) | (go_at_call 15; refine (sized_no _ _ (by assumption)).mono ?_; rintro e w' ⟨rfl, rfl⟩))
  clear c2
  have c2 := cellAt (holds_at HA7.out 1 rfl) 1 _ rfl
  go_wp2
  refine wp_loop_rounds 1 ?_
  rw [rounds_succ]
  have HC9 : Hid _ := cell_later HW7.out HS.out
  have hl0 : 0 < lr := by omega
  all_goals
    go_wp2_with fail
    refine Calls.mono (of_no k1 lr cr ar _ s HC9.out (fun h => HNO.out ⟨⟨h.1, h.2.1⟩, h.2.2⟩)) ?_
    rintro e w8 ⟨rfl, hb8⟩
    have HW8 : Hid (Below w.heap.size w w8) := HW7.out.trans (hb8.mono HW7.out.size)
    clear hb8 c2
    unfold errAt
    go_wp2_with fail
    have hAl := HW8.out.alloc HW8.out.size (.cells #[.int .i64 0, .int .i64 0, .slice none 0 0] 24)
    refine Calls.mono (as_shape _ 0 0 none 0 0 _ es s (errsAt_below HE.out hAl) HES.out rfl) ?_
    rintro e wj ⟨rfl, hbj⟩
    have HB : Hid (Below w.heap.size w wj) := hAl.trans (hbj.mono hAl.size)
    clear hbj hAl
    go_wp2
    go_ret
    exact ⟨rfl, HB.out⟩
end Go.Proofs.YtagahiahhgafpaaDoor
