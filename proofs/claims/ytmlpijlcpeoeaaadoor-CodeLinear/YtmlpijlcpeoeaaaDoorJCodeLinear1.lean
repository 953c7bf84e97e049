/- The walk of CodeLinear: at all numbers and lists of bytes. -/
import Derived.Test.YtmlpijlcpeoeaaaDoorJCodeLinear2
import Derived.Test.YtmlpijlcpeoeaaaDoorRegHeld
import Derived.Deep.CutBlock
/- The walk of CodeLinear: at all numbers and lists of bytes. -/
namespace Go.Proofs.YtmlpijlcpeoeaaaDoor
open Go.RowKit Gf
set_option linter.unusedVariables false
set_option maxRecDepth 20000
theorem row8_take {w : World} {a : Option Addr} {xs : List F} (h : Row8 w a xs) (n : Nat) : Row8 w a (xs.take n) := by
  rcases h with rfl | ⟨b, off, rfl, h⟩
  · exact .inl (by simp)
  · refine .inr ⟨b, off, rfl, fun j hj => ?_⟩
    rw [List.length_take] at hj
    rw [h j (by omega)]
    simp only [at8, List.getD_eq_getElem?_getD, List.getElem?_take]
    rw [if_pos (by omega)]
set_option maxHeartbeats 8000000 in
theorem linear_bad (k r at0 : Int) (n l1 c1 l2 c2 l3 c3 : Nat) (a1 a2 a3 : Option Addr) (xs ys : List F) (w : World) (E : Nat → Addr) (hE : ErrsF w E) (hk0 : -9223372036854775808 ≤ k) (hk1 : k ≤ 9223372036854775807) (hr0 : -9223372036854775808 ≤ r) (hr1 : r ≤ 9223372036854775807)
    (hl1 : l1 = xs.length) (hx : Row8 w a1 xs) (hc1 : l1 ≤ c1) (hb1 : c1 ≤ 140737488351232) (hl2 : l2 = ys.length) (hy : Row8 w a2 ys) (hc2 : l2 ≤ c2) (hb2 : c2 ≤ 140737488351232) (hn : n = l1 ∧ l1 ≤ l2 ∨ n = l2 ∧ l2 < l1) (h : encE k r n ≠ 0) :
    Calls Tryd.prog 7 #[.agg #[.int .i64 k, .int .i64 r, .slice a1 l1 c1, .slice a2 l2 c2, .slice a3 l3 c3, .int .i64 at0]] w fun e w' => e = .returned (.bool true) ∧ Below w.heap.size w w' := by
  have HE : Hid (ErrsF w E) := hE
  have hnl : n ≤ l1 := by omega
  have hnl2 : n ≤ l2 := by omega
  have hnc : n ≤ c1 := by omega
  have hnc2 : n ≤ c2 := by omega
  have HX : Hid (Row8 w a1 (xs.take n)) := row8_take hx n
  have HY : Hid (Row8 w a2 (ys.take n)) := row8_take hy n
  have HXL : Hid (n = (xs.take n).length) := by show _ = _; rw [List.length_take]; omega
  have HYL : Hid (n = (ys.take n).length) := by show _ = _; rw [List.length_take]; omega
  have HENC : Hid _ := fun u (hu : Below w.heap.size w u) a c => encode_bad k r n c a u E (errsF_below hE hu) hk0 hk1 hr0 hr1 (by omega) h
  obtain ⟨s, hs⟩ : ∃ s, evV E (encE k r n) = errAt s := ⟨E (encE k r n - 1), by unfold evV; rw [if_neg h]⟩
  rw [hs] at HENC
  have HF : Hid _ := fun u => rhalf_F k n u
  have HN : Hid (n = l1 ∧ l1 ≤ l2 ∨ n = l2 ∧ l2 < l1) := hn
  have HB0 : Hid (Below w.heap.size w (w.alloc (.cells #[.int .i64 k, .int .i64 r, .slice a1 l1 c1, .slice a2 l2 c2, .slice a3 l3 c3, .int .i64 at0] 56))) := (Below.refl _ _).alloc (Nat.le_refl _) _
  have HLG : Hid (halfE k n ≠ 0 ∨ ¬ LegalP k r) := by
    show _ ∨ _
    by_cases hL : LegalP k r
    · unfold encE at h; rw [if_pos hL] at h; exact .inl h
    · exact .inr hL
  have HG : Hid (¬ LegalP k r → ∀ u, Calls Tryd.prog 22 #[.int .i64 k, .int .i64 r] u fun e w' => e = .returned (.bool false) ∧ u = w') := fun hL u => legal_no k r u hk0 hk1 hr0 hr1 hL
  generalize halfE k n = x at *
  generalize halfV k n = y at *
  clear hs h hE hl1 hl2 hx hy hn
  unfold errAt at HENC
  go_enter Tryd.func7, Tryd.ntmps7
  go_wp2_with fail
  go_region
  go_wp2_with fail
  refine Calls.mono (alive7_ok _ E (errsF_below HE.out HB0.out.drew)) ?_
  rintro e w1 ⟨rfl, hb⟩
  have HB1 : Hid (Below w.heap.size w w1) := HB0.out.drew.trans (hb.mono HB0.out.drew.size)
  clear hb
  go_upto_region 4 with fail
  go_cut [8] (fun s wx => s = .int .i64 n ∧ w1 = wx)
  case first =>
    rcases HN.out with ⟨e1, e2⟩ | ⟨e1, e2⟩
    · subst e1
      go_wp2
      go_meet
      exact ⟨by first | rfl | (simp; omega), rfl⟩
    · subst e1
      go_wp2
      go_meet
      exact ⟨by first | rfl | (simp; omega), rfl⟩
  case rest =>
  obtain ⟨rfl, rfl⟩ := hcut
  go_wp2
  go_region
  go_wp2_with fail
  refine Calls.mono (HENC.out _ HB1.out.drew _ _) ?_
  rintro e w2 ⟨rfl, hb⟩
  have HB2 : Hid (Below w.heap.size w w2) := HB1.out.drew.trans (hb.mono HB1.out.drew.size)
  clear hb
  go_wp2_with fail
  refine Calls.mono (HENC.out _ HB2.out _ _) ?_
  rintro e w3 ⟨rfl, hb⟩
  have HB3 : Hid (Below w.heap.size w w3) := HB2.out.trans (hb.mono HB2.out.size)
  clear hb
  go_wp2_with fail
  refine Calls.mono (sum_F n n n a1 a2 (xs.take n) (ys.take n) _ HXL.out HYL.out (by omega) (row8_below HX.out HB3.out) (row8_below HY.out HB3.out)) ?_
  rintro e w4 ⟨gS, cS, rfl, _, _, hb⟩
  have HB4 : Hid (Below w.heap.size w w4) := HB3.out.trans (hb.mono HB3.out.size)
  clear hb
  go_wp2_with fail
  refine Calls.mono (HENC.out _ HB4.out _ _) ?_
  rintro e w5 ⟨rfl, hb⟩
  have HB5 : Hid (Below w.heap.size w w5) := HB4.out.trans (hb.mono HB4.out.size)
  clear hb
  go_wp2_with fail
  refine Calls.mono (HF.out _) ?_
  rintro e w6 ⟨rfl, rfl⟩
  by_cases hx0 : x = 0
  · subst hx0
    go_wp2_with fail
    refine Calls.mono (HG.out (HLG.out.resolve_left (fun h => h rfl)) _) ?_
    rintro e w6 ⟨rfl, rfl⟩
    go_wp2
    go_ret
    exact ⟨rfl, HB5.out⟩
  · have hx' : ((x : Int) != 0) = true := by simp only [bne_iff_ne, ne_eq]; omega
    clear hx0
    go_wp2
    go_ret
    exact ⟨rfl, HB5.out⟩
set_option maxHeartbeats 16000000 in
theorem linear_ok (k r n l1 c1 l2 c2 l3 c3 : Nat) (at0 : Int) (ha0 : -9223372036854775808 ≤ at0) (ha1 : at0 ≤ 9223372036854775807) (a1 a2 a3 : Option Addr) (xs ys : List F) (w : World) (E : Nat → Addr) (hE : ErrsF w E) (hE4 : w.cell? ⟨1, 0, none⟩ = some (errAt (E 4)))
    (hl1 : l1 = xs.length) (hx : Row8 w a1 xs) (hc1 : l1 ≤ c1) (hb1 : c1 ≤ 140737488351232) (hl2 : l2 = ys.length) (hy : Row8 w a2 ys) (hc2 : l2 ≤ c2) (hb2 : c2 ≤ 140737488351232) (hn : n = l1 ∧ l1 ≤ l2 ∨ n = l2 ∧ l2 < l1) (h1 : 1 ≤ k) (h2 : 2 ≤ r) (h3 : k + r ≤ 16) (h4 : 1 ≤ n) (h5 : n ≤ 128 * k) :
    Calls Tryd.prog 7 #[.agg #[.int .i64 k, .int .i64 r, .slice a1 l1 c1, .slice a2 l2 c2, .slice a3 l3 c3, .int .i64 at0]] w fun e w' => e = .returned (.bool true) ∧ Below w.heap.size w w' := by
  have hlt4 := World.block_lt_of_cell? w _ hE4
  simp at hlt4
  have HE : Hid (ErrsF w E) := hE
  have HE4 : Hid (∀ u, Below w.heap.size w u → u.cell? ⟨1, 0, none⟩ = some (errAt (E 4))) := fun u hu => (hu.cell (p := ⟨1, 0, none⟩) hlt4).trans hE4
  have hnl : n ≤ l1 := by omega
  have hnl2 : n ≤ l2 := by omega
  have hnc : n ≤ c1 := by omega
  have hnc2 : n ≤ c2 := by omega
  obtain ⟨zs, hzs⟩ : ∃ zs, zs = xs.take n := ⟨_, rfl⟩
  obtain ⟨ts, hts⟩ : ∃ ts, ts = ys.take n := ⟨_, rfl⟩
  have HX : Hid (Row8 w a1 zs) := by rw [hzs]; exact row8_take hx n
  have HY : Hid (Row8 w a2 ts) := by rw [hts]; exact row8_take hy n
  have HXL : Hid (n = zs.length) := by show _ = _; rw [hzs, List.length_take]; omega
  have HYL : Hid (n = ts.length) := by show _ = _; rw [hts, List.length_take]; omega
  have HENC : Hid _ := fun u (hu : Below w.heap.size w u) a c (vs : List F) (hv : n = vs.length) (hr : Row8 u a vs) => encode_ok k r n c a vs u E (errsF_below hE hu) h1 h2 h3 h4 h5 hv hr
  have HF : Hid _ := fun u => rhalf_F k n u
  rw [halfV_ok h1 (by omega) h4 h5, halfE_ok h1 (by omega) h4 h5] at HF
  obtain ⟨k1, k2, _, _⟩ := cnt_half h1 (show k ≤ 14 by omega) h4 h5
  have HG : Hid _ := fun u => legal_yes k r u h1 h2 h3
  obtain ⟨H, hH⟩ : ∃ H, H = cntN (2 * k) n := ⟨_, rfl⟩
  rw [← hH] at k1 k2 HF
  obtain ⟨cR, hcR⟩ : ∃ cR, cR = 2 * (k + r) := ⟨_, rfl⟩
  have t2 : (2 : Int) * ((k : Int) + (r : Int)) = (cR : Int) := by omega
  have hcR32 : cR ≤ 32 := by omega
  have hcR6 : 6 ≤ cR := by omega
  have HH : Hid (H = cntN (2 * k) n) := hH
  have HCR : Hid (cR = 2 * (k + r)) := hcR
  have HN : Hid (n = l1 ∧ l1 ≤ l2 ∨ n = l2 ∧ l2 < l1) := hn
  have HB0 : Hid (Below w.heap.size w (w.alloc (.cells #[.int .i64 k, .int .i64 r, .slice a1 l1 c1, .slice a2 l2 c2, .slice a3 l3 c3, .int .i64 at0] 56))) := (Below.refl _ _).alloc (Nat.le_refl _) _
  clear hE hE4 hl1 hl2 hx hy hn hzs hts hH hcR
  go_enter Tryd.func7, Tryd.ntmps7
  go_wp2_with fail
  go_region
  go_wp2_with fail
  refine Calls.mono (alive7_ok _ E (errsF_below HE.out HB0.out.drew)) ?_
  rintro e w1 ⟨rfl, hb⟩
  have HB1 : Hid (Below w.heap.size w w1) := HB0.out.drew.trans (hb.mono HB0.out.drew.size)
  clear hb
  go_upto_region 4 with fail
  go_cut [8] (fun s wx => s = .int .i64 n ∧ w1 = wx)
  case first =>
    rcases HN.out with ⟨e1, e2⟩ | ⟨e1, e2⟩
    · subst e1
      go_wp2
      go_meet
      exact ⟨by first | rfl | (simp; omega), rfl⟩
    · subst e1
      go_wp2
      go_meet
      exact ⟨by first | rfl | (simp; omega), rfl⟩
  case rest =>
  obtain ⟨rfl, rfl⟩ := hcut
  go_wp2
  go_region
  go_wp2_with fail
  refine Calls.mono (HENC.out _ HB1.out.drew _ _ zs HXL.out (row8_below HX.out HB1.out.drew)) ?_
  rintro e w2 ⟨M1, d1, gs1, rfl, hd1, hEn1, hb⟩
  obtain rfl : d1 = cR := by rw [hd1, HCR.out]
  have HB2 : Hid (Below w.heap.size w w2) := HB1.out.drew.trans (hb.mono HB1.out.drew.size)
  have HE1 : Hid (EncAt w2 w1.heap.size M1 k r n zs gs1) := hEn1
  clear hb hd1 hEn1
  go_wp2_with fail
  refine Calls.mono (HENC.out _ HB2.out _ _ ts HYL.out (row8_below HY.out HB2.out)) ?_
  rintro e w3 ⟨M2, d2, gs2, rfl, hd2, hEn2, hb⟩
  obtain rfl : d2 = d1 := by rw [hd2, HCR.out]
  have HB3 : Hid (Below w.heap.size w w3) := HB2.out.trans (hb.mono HB2.out.size)
  have HE1' : Hid (EncAt w3 w1.heap.size M1 k r n zs gs1) := encAt_below HE1.out hb
  have HE2 : Hid (EncAt w3 w2.heap.size M2 k r n ts gs2) := hEn2
  clear hb hd2 hEn2 HE1
  go_wp2_with fail
  refine Calls.mono (sum_F n n n a1 a2 zs ts _ HXL.out HYL.out (by omega) (row8_below HX.out HB3.out) (row8_below HY.out HB3.out)) ?_
  rintro e w4 ⟨gS, cS, rfl, hgS, h8S, hb⟩
  have HB4 : Hid (Below w.heap.size w w4) := HB3.out.trans (hb.mono HB3.out.size)
  have H8S : Hid (Has8 w4 gS (sumL n zs ts) cS) := h8S
  have HE1 : Hid (EncAt w4 w1.heap.size M1 k r n zs gs1) := encAt_below HE1'.out hb
  have HE2' : Hid (EncAt w4 w2.heap.size M2 k r n ts gs2) := encAt_below HE2.out hb
  clear hb hgS h8S HE1' HE2
  go_wp2_with fail
  refine Calls.mono (HENC.out _ HB4.out _ _ (sumL n zs ts) (sumL_len _ _ _).symm (row8_has H8S.out)) ?_
  rintro e w5 ⟨M3, d3, gs3, rfl, hd3, hEn3, hb⟩
  obtain rfl : d3 = d2 := by rw [hd3, HCR.out]
  have HB5 : Hid (Below w.heap.size w w5) := HB4.out.trans (hb.mono HB4.out.size)
  have HE1' : Hid (EncAt w5 w1.heap.size M1 k r n zs gs1) := encAt_below HE1.out hb
  have HE2 : Hid (EncAt w5 w2.heap.size M2 k r n ts gs2) := encAt_below HE2'.out hb
  have HE3 : Hid (EncAt w5 w4.heap.size M3 k r n (sumL n zs ts) gs3) := hEn3
  clear hb hd3 hEn3 HE1 HE2' H8S HENC
  go_wp2_with fail
  refine Calls.mono (HF.out _) ?_
  rintro e w6 ⟨rfl, rfl⟩
  go_wp2_with fail
  refine Calls.mono (HG.out _) ?_
  rintro e w6 ⟨rfl, rfl⟩
  clear HF HG
  go_wp2
  go_loopw [128] (fun t wr => ∃ j : Nat, j ≤ d3 ∧ t = .int .i64 j ∧ Below w5.heap.size w5 wr) (fun t _ => d3 - (intOf t).toNat)
  case atStart => exact ⟨0, by omega, rfl, Below.refl _ _⟩
  case round =>
    obtain ⟨j, hj, rfl, hb⟩ := hrel
    have HBR : Hid (Below w5.heap.size w5 wr) := hb
    clear hb
    by_cases hlt : j < d3
    · have q1 := encAt_below HE1'.out HBR.out
      have q2 := encAt_below HE2.out HBR.out
      have q3 := encAt_below HE3.out HBR.out
      have hjR : j < 2 * (k + r) := by rw [← HCR.out]; exact hlt
      obtain ⟨⟨b1, s1⟩, p1⟩ : ∃ p, gs1[j]? = some p := ⟨_, List.getElem?_eq_getElem (by rw [q1.2.1]; exact hjR)⟩
      obtain ⟨⟨b2, s2⟩, p2⟩ : ∃ p, gs2[j]? = some p := ⟨_, List.getElem?_eq_getElem (by rw [q2.2.1]; exact hjR)⟩
      obtain ⟨⟨b3, s3⟩, p3⟩ : ∃ p, gs3[j]? = some p := ⟨_, List.getElem?_eq_getElem (by rw [q3.2.1]; exact hjR)⟩
      have T1 := q1.2.2.1
      have T2 := q2.2.2.1
      have T3 := q3.2.2.1
      have r1 := row8_has (q1.2.2.2.1 j _ p1).2
      have r2 := row8_has (q2.2.2.2.1 j _ p2).2
      have r3 := row8_has (q3.2.2.2.1 j _ p3).2
      rw [← HH.out] at T1 T2 T3 r1 r2 r3
      have C1 : ∀ u, Below wr.heap.size wr u → u.cell? ⟨M1, j, none⟩ = some (.slice (some ⟨b1, 0, none⟩) H s1) := fun u h => cellAt (heap_later T1 h) j _ (slW_at (rowsP_at p1))
      have C2 : ∀ u, Below wr.heap.size wr u → u.cell? ⟨M2, j, none⟩ = some (.slice (some ⟨b2, 0, none⟩) H s2) := fun u h => cellAt (heap_later T2 h) j _ (slW_at (rowsP_at p2))
      have C3 : ∀ u, Below wr.heap.size wr u → u.cell? ⟨M3, j, none⟩ = some (.slice (some ⟨b3, 0, none⟩) H s3) := fun u h => cellAt (heap_later T3 h) j _ (slW_at (rowsP_at p3))
      have R1 : Hid (Row8 wr (some ⟨b1, 0, none⟩) (imgL k (carN (groupN k r)) H (strD H zs) j)) := r1
      have R2 : Hid (Row8 wr (some ⟨b2, 0, none⟩) (imgL k (carN (groupN k r)) H (strD H ts) j)) := r2
      have kA : ∀ u, Below wr.heap.size wr u → (convert 22 9 (.slice (some ⟨b3, 0, none⟩) H s3)).run Tryd.prog u = .ok (.string (str8 (imgL k (carN (groupN k r)) H (strD H (sumL n zs ts)) j))) u := fun u hu => conv8 (imgL_len _ _ _ _ _).symm (row8_below r3 hu)
      have HLN : Hid (sumL H (imgL k (carN (groupN k r)) H (strD H zs) j) (imgL k (carN (groupN k r)) H (strD H ts) j) = imgL k (carN (groupN k r)) H (strD H (sumL n zs ts)) j) := img_linear HXL.out HYL.out
      have eA := strEq8 (imgL k (carN (groupN k r)) H (strD H (sumL n zs ts)) j)
      have hHn : ((H : Int) != (H : Int)) = false := by simp
      clear q1 q2 q3 p1 p2 p3 T1 T2 T3 r1 r2 r3
      go_upto_region 17 with fail
      have hR2 : Below wr.heap.size wr wr.drew := (Below.refl _ _).drew
      refine wp_region_noPanic ?_
      refine wp_region_held_drew (S := fun u => Below wr.heap.size wr u) (by kernel_rfl) ?_ (fun hHeld => ?_)
      · exact hR2
      refine wpAnyH_take (i := 0) (oi := { dst := some 131, op := Op.move (Operand.tmp 9), type := 25, pos := "law.go:172", after := #[], guard := none }) (v := ?_) rfl (by kernel_rfl) (by kernel_rfl) (by kernel_rfl) (fun _ _ _ h => h) (Or.inl ⟨by rfl, ?_⟩) hHeld ?_
      rotate_left
      · intro u hSw
        go_simp
        try with_reducible rfl
      try simp only [Act.put, List.setIfInBounds_toArray, List.set_cons_zero, List.set_cons_succ]
      refine wpAnyH_take (i := 1) (oi := { dst := some 132, op := Op.move (Operand.tmp 17), type := 3, pos := "law.go:172", after := #[], guard := none }) (v := ?_) rfl (by kernel_rfl) (by kernel_rfl) (by kernel_rfl) (fun _ _ _ h => h) (Or.inl ⟨by rfl, ?_⟩) hHeld ?_
      rotate_left
      · intro u hSw
        go_simp
        try with_reducible rfl
      try simp only [Act.put, List.setIfInBounds_toArray, List.set_cons_zero, List.set_cons_succ]
      refine wpAnyH_take (i := 2) (oi := { dst := some 133, op := Op.indexAddr 25 (Operand.tmp 131) (Operand.tmp 132), type := 0, pos := "law.go:172", after := #[{ on := 0, ground := Ground.data }, { on := 1, ground := Ground.data }], guard := none }) (v := ?_) rfl (by kernel_rfl) (by kernel_rfl) (by kernel_rfl) (fun _ _ _ h => h) (Or.inl ⟨by rfl, ?_⟩) hHeld ?_
      rotate_left
      · intro u hSw
        go_simp
        try with_reducible rfl
      try simp only [Act.put, List.setIfInBounds_toArray, List.set_cons_zero, List.set_cons_succ]
      refine wpAnyH_take (i := 3) (oi := { dst := some 134, op := Op.load 22 (Operand.tmp 133), type := 22, pos := "law.go:172", after := #[{ on := 2, ground := Ground.data }], guard := none }) (v := ?_) rfl (by kernel_rfl) (by kernel_rfl) (by kernel_rfl) (fun _ _ _ h => h) (Or.inl ⟨by rfl, ?_⟩) hHeld ?_
      rotate_left
      · intro u hSw
        go_simp
        try with_reducible rfl
      try simp only [Act.put, List.setIfInBounds_toArray, List.set_cons_zero, List.set_cons_succ]
      refine wpAnyH_take (i := 4) (oi := { dst := some 135, op := Op.call { callee := Callee.builtin Builtin.len, args := #[Operand.tmp 134], argTypes := #[22] }, type := 3, pos := "law.go:172", after := #[{ on := 3, ground := Ground.data }], guard := none }) (v := ?_) rfl (by kernel_rfl) (by kernel_rfl) (by kernel_rfl) (fun _ _ _ h => h) (Or.inl ⟨by rfl, ?_⟩) hHeld ?_
      rotate_left
      · intro u hSw
        go_simp
        try with_reducible rfl
      try simp only [Act.put, List.setIfInBounds_toArray, List.set_cons_zero, List.set_cons_succ]
      refine wpAnyH_take (i := 5) (oi := { dst := some 136, op := Op.move (Operand.tmp 11), type := 25, pos := "law.go:172", after := #[], guard := none }) (v := ?_) rfl (by kernel_rfl) (by kernel_rfl) (by kernel_rfl) (fun _ _ _ h => h) (Or.inl ⟨by rfl, ?_⟩) hHeld ?_
      rotate_left
      · intro u hSw
        go_simp
        try with_reducible rfl
      try simp only [Act.put, List.setIfInBounds_toArray, List.set_cons_zero, List.set_cons_succ]
      refine wpAnyH_take (i := 6) (oi := { dst := some 137, op := Op.move (Operand.tmp 17), type := 3, pos := "law.go:172", after := #[], guard := none }) (v := ?_) rfl (by kernel_rfl) (by kernel_rfl) (by kernel_rfl) (fun _ _ _ h => h) (Or.inl ⟨by rfl, ?_⟩) hHeld ?_
      rotate_left
      · intro u hSw
        go_simp
        try with_reducible rfl
      try simp only [Act.put, List.setIfInBounds_toArray, List.set_cons_zero, List.set_cons_succ]
      refine wpAnyH_take (i := 7) (oi := { dst := some 138, op := Op.indexAddr 25 (Operand.tmp 136) (Operand.tmp 137), type := 0, pos := "law.go:172", after := #[{ on := 5, ground := Ground.data }, { on := 6, ground := Ground.data }], guard := none }) (v := ?_) rfl (by kernel_rfl) (by kernel_rfl) (by kernel_rfl) (fun _ _ _ h => h) (Or.inl ⟨by rfl, ?_⟩) hHeld ?_
      rotate_left
      · intro u hSw
        go_simp
        try with_reducible rfl
      try simp only [Act.put, List.setIfInBounds_toArray, List.set_cons_zero, List.set_cons_succ]
      refine wpAnyH_take (i := 8) (oi := { dst := some 139, op := Op.load 22 (Operand.tmp 138), type := 22, pos := "law.go:172", after := #[{ on := 7, ground := Ground.data }], guard := none }) (v := ?_) rfl (by kernel_rfl) (by kernel_rfl) (by kernel_rfl) (fun _ _ _ h => h) (Or.inl ⟨by rfl, ?_⟩) hHeld ?_
      rotate_left
      · intro u hSw
        go_simp
        try with_reducible rfl
      try simp only [Act.put, List.setIfInBounds_toArray, List.set_cons_zero, List.set_cons_succ]
      refine wpAnyH_take (i := 9) (oi := { dst := some 140, op := Op.call { callee := Callee.builtin Builtin.len, args := #[Operand.tmp 139], argTypes := #[22] }, type := 3, pos := "law.go:172", after := #[{ on := 8, ground := Ground.data }], guard := none }) (v := ?_) rfl (by kernel_rfl) (by kernel_rfl) (by kernel_rfl) (fun _ _ _ h => h) (Or.inl ⟨by rfl, ?_⟩) hHeld ?_
      rotate_left
      · intro u hSw
        go_simp
        try with_reducible rfl
      try simp only [Act.put, List.setIfInBounds_toArray, List.set_cons_zero, List.set_cons_succ]
      refine wpAnyH_take (i := 10) (oi := { dst := some 141, op := Op.binOp BinOp.neq 3 (Operand.tmp 135) (Operand.tmp 140) 3, type := 4, pos := "law.go:172", after := #[{ on := 4, ground := Ground.data }, { on := 9, ground := Ground.data }], guard := none }) (v := ?_) rfl (by kernel_rfl) (by kernel_rfl) (by kernel_rfl) (fun _ _ _ h => h) (Or.inl ⟨by rfl, ?_⟩) hHeld ?_
      rotate_left
      · intro u hSw
        go_simp
        try with_reducible rfl
      try simp only [Act.put, List.setIfInBounds_toArray, List.set_cons_zero, List.set_cons_succ]
      refine wpAnyH_take (i := 11) (oi := { dst := some 142, op := Op.move (Operand.tmp 141), type := 4, pos := "law.go:172", after := #[{ on := 10, ground := Ground.data }], guard := none }) (v := ?_) rfl (by kernel_rfl) (by kernel_rfl) (by kernel_rfl) (fun _ _ _ h => h) (Or.inl ⟨by rfl, ?_⟩) hHeld ?_
      rotate_left
      · intro u hSw
        go_simp
        try with_reducible rfl
      try simp only [Act.put, List.setIfInBounds_toArray, List.set_cons_zero, List.set_cons_succ]
      refine wpAnyH_take (i := 12) (oi := { dst := some 143, op := Op.move (Operand.tmp 9), type := 25, pos := "law.go:172", after := #[{ on := 11, ground := Ground.guard }], guard := some (11, false) }) (v := ?_) rfl (by kernel_rfl) (by kernel_rfl) (by kernel_rfl) (fun _ _ _ h => h) (Or.inl ⟨by rfl, ?_⟩) hHeld ?_
      rotate_left
      · intro u hSw
        go_simp
        try with_reducible rfl
      try simp only [Act.put, List.setIfInBounds_toArray, List.set_cons_zero, List.set_cons_succ]
      refine wpAnyH_take (i := 13) (oi := { dst := some 144, op := Op.move (Operand.tmp 17), type := 3, pos := "law.go:172", after := #[{ on := 11, ground := Ground.guard }], guard := some (11, false) }) (v := ?_) rfl (by kernel_rfl) (by kernel_rfl) (by kernel_rfl) (fun _ _ _ h => h) (Or.inl ⟨by rfl, ?_⟩) hHeld ?_
      rotate_left
      · intro u hSw
        go_simp
        try with_reducible rfl
      try simp only [Act.put, List.setIfInBounds_toArray, List.set_cons_zero, List.set_cons_succ]
      refine wpAnyH_take (i := 14) (oi := { dst := some 145, op := Op.indexAddr 25 (Operand.tmp 143) (Operand.tmp 144), type := 0, pos := "law.go:172", after := #[{ on := 12, ground := Ground.data }, { on := 13, ground := Ground.data }, { on := 11, ground := Ground.guard }], guard := some (11, false) }) (v := ?_) rfl (by kernel_rfl) (by kernel_rfl) (by kernel_rfl) (fun _ _ _ h => h) (Or.inl ⟨by rfl, ?_⟩) hHeld ?_
      rotate_left
      · intro u hSw
        go_simp
        try with_reducible rfl
      try simp only [Act.put, List.setIfInBounds_toArray, List.set_cons_zero, List.set_cons_succ]
      refine wpAnyH_take (i := 15) (oi := { dst := some 146, op := Op.load 22 (Operand.tmp 145), type := 22, pos := "law.go:172", after := #[{ on := 14, ground := Ground.data }, { on := 11, ground := Ground.guard }], guard := some (11, false) }) (v := ?_) rfl (by kernel_rfl) (by kernel_rfl) (by kernel_rfl) (fun _ _ _ h => h) (Or.inl ⟨by rfl, ?_⟩) hHeld ?_
      rotate_left
      · intro u hSw
        go_simp
        try with_reducible rfl
      try simp only [Act.put, List.setIfInBounds_toArray, List.set_cons_zero, List.set_cons_succ]
      refine wpAnyH_take (i := 16) (oi := { dst := some 147, op := Op.move (Operand.tmp 11), type := 25, pos := "law.go:172", after := #[{ on := 11, ground := Ground.guard }], guard := some (11, false) }) (v := ?_) rfl (by kernel_rfl) (by kernel_rfl) (by kernel_rfl) (fun _ _ _ h => h) (Or.inl ⟨by rfl, ?_⟩) hHeld ?_
      rotate_left
      · intro u hSw
        go_simp
        try with_reducible rfl
      try simp only [Act.put, List.setIfInBounds_toArray, List.set_cons_zero, List.set_cons_succ]
      refine wpAnyH_take (i := 17) (oi := { dst := some 148, op := Op.move (Operand.tmp 17), type := 3, pos := "law.go:172", after := #[{ on := 11, ground := Ground.guard }], guard := some (11, false) }) (v := ?_) rfl (by kernel_rfl) (by kernel_rfl) (by kernel_rfl) (fun _ _ _ h => h) (Or.inl ⟨by rfl, ?_⟩) hHeld ?_
      rotate_left
      · intro u hSw
        go_simp
        try with_reducible rfl
      try simp only [Act.put, List.setIfInBounds_toArray, List.set_cons_zero, List.set_cons_succ]
      refine wpAnyH_take (i := 18) (oi := { dst := some 149, op := Op.indexAddr 25 (Operand.tmp 147) (Operand.tmp 148), type := 0, pos := "law.go:172", after := #[{ on := 16, ground := Ground.data }, { on := 17, ground := Ground.data }, { on := 11, ground := Ground.guard }], guard := some (11, false) }) (v := ?_) rfl (by kernel_rfl) (by kernel_rfl) (by kernel_rfl) (fun _ _ _ h => h) (Or.inl ⟨by rfl, ?_⟩) hHeld ?_
      rotate_left
      · intro u hSw
        go_simp
        try with_reducible rfl
      try simp only [Act.put, List.setIfInBounds_toArray, List.set_cons_zero, List.set_cons_succ]
      refine wpAnyH_take (i := 19) (oi := { dst := some 150, op := Op.load 22 (Operand.tmp 149), type := 22, pos := "law.go:172", after := #[{ on := 18, ground := Ground.data }, { on := 11, ground := Ground.guard }], guard := some (11, false) }) (v := ?_) rfl (by kernel_rfl) (by kernel_rfl) (by kernel_rfl) (fun _ _ _ h => h) (Or.inl ⟨by rfl, ?_⟩) hHeld ?_
      rotate_left
      · intro u hSw
        go_simp
        try with_reducible rfl
      try simp only [Act.put, List.setIfInBounds_toArray, List.set_cons_zero, List.set_cons_succ]
      refine wpAnyH_take (i := 22) (oi := { dst := some 153, op := Op.move (Operand.tmp 13), type := 25, pos := "law.go:172", after := #[{ on := 11, ground := Ground.guard }], guard := some (11, false) }) (v := ?_) rfl (by kernel_rfl) (by kernel_rfl) (by kernel_rfl) (fun _ _ _ h => h) (Or.inl ⟨by rfl, ?_⟩) hHeld ?_
      rotate_left
      · intro u hSw
        go_simp
        try with_reducible rfl
      try simp only [Act.put, List.setIfInBounds_toArray, List.set_cons_zero, List.set_cons_succ]
      refine wpAnyH_take (i := 23) (oi := { dst := some 154, op := Op.move (Operand.tmp 17), type := 3, pos := "law.go:172", after := #[{ on := 11, ground := Ground.guard }], guard := some (11, false) }) (v := ?_) rfl (by kernel_rfl) (by kernel_rfl) (by kernel_rfl) (fun _ _ _ h => h) (Or.inl ⟨by rfl, ?_⟩) hHeld ?_
      rotate_left
      · intro u hSw
        go_simp
        try with_reducible rfl
      try simp only [Act.put, List.setIfInBounds_toArray, List.set_cons_zero, List.set_cons_succ]
      refine wpAnyH_take (i := 24) (oi := { dst := some 155, op := Op.indexAddr 25 (Operand.tmp 153) (Operand.tmp 154), type := 0, pos := "law.go:172", after := #[{ on := 22, ground := Ground.data }, { on := 23, ground := Ground.data }, { on := 11, ground := Ground.guard }], guard := some (11, false) }) (v := ?_) rfl (by kernel_rfl) (by kernel_rfl) (by kernel_rfl) (fun _ _ _ h => h) (Or.inl ⟨by rfl, ?_⟩) hHeld ?_
      rotate_left
      · intro u hSw
        go_simp
        try with_reducible rfl
      try simp only [Act.put, List.setIfInBounds_toArray, List.set_cons_zero, List.set_cons_succ]
      refine wpAnyH_take (i := 25) (oi := { dst := some 156, op := Op.load 22 (Operand.tmp 155), type := 22, pos := "law.go:172", after := #[{ on := 24, ground := Ground.data }, { on := 11, ground := Ground.guard }], guard := some (11, false) }) (v := ?_) rfl (by kernel_rfl) (by kernel_rfl) (by kernel_rfl) (fun _ _ _ h => h) (Or.inl ⟨by rfl, ?_⟩) hHeld ?_
      rotate_left
      · intro u hSw
        go_simp
        try with_reducible rfl
      try simp only [Act.put, List.setIfInBounds_toArray, List.set_cons_zero, List.set_cons_succ]
      refine wpAnyH_take (i := 26) (oi := { dst := some 157, op := Op.convert 22 9 (Operand.tmp 156), type := 9, pos := "law.go:172", after := #[{ on := 25, ground := Ground.data }, { on := 11, ground := Ground.guard }], guard := some (11, false) }) (v := ?_) rfl (by kernel_rfl) (by kernel_rfl) (by kernel_rfl) (fun _ _ _ h => h) (Or.inl ⟨by rfl, ?_⟩) hHeld ?_
      rotate_left
      · intro u hSw
        go_simp
        try with_reducible rfl
      try simp only [Act.put, List.setIfInBounds_toArray, List.set_cons_zero, List.set_cons_succ]
      refine wpAnyH_ready (rs := [20]) (by kernel_rfl) (by simp) ?_
      refine AllReadyH.cons (o := { dst := some 151, op := Op.call { callee := Callee.value (Operand.func 25), args := #[Operand.tmp 146, Operand.tmp 150], argTypes := #[22, 22] }, type := 22, pos := "law.go:172", after := #[{ on := 15, ground := Ground.data }, { on := 19, ground := Ground.data }, { on := 11, ground := Ground.chain }, { on := 11, ground := Ground.guard }], guard := some (11, false) }) rfl (fun K hK => ?_) AllReadyH.nil
      go_simp
      refine Calls.mono (sum_F H s1 s2 (some ⟨b1, 0, none⟩) (some ⟨b2, 0, none⟩) _ _ _ (imgL_len _ _ _ _ _).symm (imgL_len _ _ _ _ _).symm (by omega) (row8_below R1.out hHeld) (row8_below R2.out hHeld)) ?_
      rintro e wi ⟨gI, cI, rfl, hgI, hhI, hbI⟩
      rw [HLN.out] at hhI
      have hTi : Below wr.heap.size wr wi := hHeld.trans (hbI.mono (below_size hHeld))
      have kI : ∀ u, Below wi.heap.size wi u → (convert 22 9 (.slice (some ⟨gI, 0, none⟩) H cI)).run Tryd.prog u = .ok (.string (str8 (imgL k (carN (groupN k r)) H (strD H (sumL n zs ts)) j))) u := fun u hu => conv8 (imgL_len _ _ _ _ _).symm (row8_below (row8_has hhI) hu)
      replace kA := fact_next kA hTi
      clear hgI hhI hbI
      go_wp2_with fail
      refine hK.out _ _ ?_ (fun hHeld => ?_)
      · exact hTi
      clear hK K
      try simp only [Act.put, List.setIfInBounds_toArray, List.set_cons_zero, List.set_cons_succ]
      refine wpAnyH_here hHeld ?_
      clear hHeld
      have hHeld : Below wi.heap.size wi wi := Below.refl _ _
      refine wpAnyH_take (i := 21) (oi := { dst := some 152, op := Op.convert 22 9 (Operand.tmp 151), type := 9, pos := "law.go:172", after := #[{ on := 20, ground := Ground.data }, { on := 11, ground := Ground.guard }], guard := some (11, false) }) (v := ?_) rfl (by kernel_rfl) (by kernel_rfl) (by kernel_rfl) (fun _ _ _ h => h) (Or.inl ⟨by rfl, ?_⟩) hHeld ?_
      rotate_left
      · intro u hSw
        go_simp
        try with_reducible rfl
      try simp only [Act.put, List.setIfInBounds_toArray, List.set_cons_zero, List.set_cons_succ]
      refine wpAnyH_take (i := 27) (oi := { dst := some 158, op := Op.binOp BinOp.neq 9 (Operand.tmp 152) (Operand.tmp 157) 9, type := 4, pos := "law.go:172", after := #[{ on := 21, ground := Ground.data }, { on := 26, ground := Ground.data }, { on := 11, ground := Ground.guard }], guard := some (11, false) }) (v := ?_) rfl (by kernel_rfl) (by kernel_rfl) (by kernel_rfl) (fun _ _ _ h => h) (Or.inl ⟨by rfl, ?_⟩) hHeld ?_
      rotate_left
      · intro u hSw
        go_simp
        try with_reducible rfl
      try simp only [Act.put, List.setIfInBounds_toArray, List.set_cons_zero, List.set_cons_succ]
      refine wpAnyH_take (i := 28) (oi := { dst := some 159, op := Op.pick (Operand.tmp 142) (Operand.const (Value.bool true)) (Operand.tmp 158), type := 4, pos := "law.go:172", after := #[{ on := 11, ground := Ground.data }, { on := 27, ground := Ground.data }], guard := none }) (v := ?_) rfl (by kernel_rfl) (by kernel_rfl) (by kernel_rfl) (fun _ _ _ h => h) (Or.inl ⟨by rfl, ?_⟩) hHeld ?_
      rotate_left
      · intro u hSw
        go_simp
        try with_reducible rfl
      try simp only [Act.put, List.setIfInBounds_toArray, List.set_cons_zero, List.set_cons_succ]
      refine wpAnyH_done (by kernel_rfl) ?_ _
      refine NoPanic.normal ?_
      have HT : Hid (Below w5.heap.size w5 wi) := HBR.out.trans (hTi.mono HBR.out.size)
      clear C1 C2 C3 kA hTi hHeld kI eA
      go_wp2
      exact ⟨⟨j + 1, by omega, by go_num, HT.out⟩, by simp [intOf]; omega⟩
    · obtain rfl : d3 = j := by omega
      have HB6 : Hid (Below w.heap.size w wr) := HB5.out.trans (HBR.out.mono HB5.out.size)
      have HE6 : Hid (EncAt wr w1.heap.size M1 k r n zs gs1) := encAt_below HE1'.out HBR.out
      have hlen : (encL k r H zs).length = d3 := by rw [encL_len, HCR.out]
      have hall : ∀ ys ∈ encL k r H zs, ys.length = H := fun ys hy => encL_all hy
      have h0H : H = ((encL k r H zs).getD 0 []).length := by
        rw [List.getD_eq_getElem?_getD, encL_at (by omega)]; simp [imgL_len]
      have hrows := encAt_rows HE6.out
      rw [← HH.out] at hrows
      have HFIT : Hid _ := fits_G k r d3 d3 H (some ⟨M1, 0, none⟩) (encL k r H zs) wr E (errsF_below HE.out HB6.out) (HE4.out _ HB6.out) h1 h2 h3 hlen.symm (by omega) (Nat.le_refl _) hrows (fun ys hy => by rw [hall ys hy]; omega) h0H
      have HFI : Hid (FitsIn k r d3 (encL k r H zs) H) := ⟨HCR.out, k1, k2, hall⟩
      rw [enc_fits] at HFIT
      clear hlen hall h0H hrows HE2 HE3 HE1' HBR
      go_wp2_with fail
      refine Calls.mono HFIT.out ?_
      rintro e w7 (⟨hno, _⟩ | ⟨_, rfl, hb⟩)
      · exact absurd HFI.out hno
      · have HB7 : Hid (Below w.heap.size w w7) := HB6.out.trans (hb.mono HB6.out.size)
        have HE7 : Hid (EncAt w7 w1.heap.size M1 k r n zs gs1) := encAt_below HE6.out hb
        clear hb HFIT HE6
        obtain ⟨⟨v1, v2⟩, i, hi, hti⟩ := mod_place at0 (show 1 ≤ d3 by omega)
        obtain ⟨⟨v3, v4⟩, p, hp, htp⟩ := mod_place at0 (show 1 ≤ H from k1)
        have hti2 : (at0.tmod d3 + d3) % (d3 : Int) = i := by rw [← hti]; simp
        have htp2 : (at0.tmod H + H) % (H : Int) = p := by rw [← htp]; simp
        have hn0 : ((d3 : Int) == 0) = false := beq_eq_false_iff_ne.2 (by omega)
        have hn1 : ((H : Int) == 0) = false := beq_eq_false_iff_ne.2 (by omega)
        have hiR : i < 2 * (k + r) := by rw [← HCR.out]; exact hi
        obtain ⟨⟨gi, si⟩, pi⟩ : ∃ q, gs1[i]? = some q := ⟨_, List.getElem?_eq_getElem (by rw [HE7.out.2.1]; exact hiR)⟩
        have hT := HE7.out.2.2.1
        have h8 := (HE7.out.2.2.2.1 i _ pi).2
        rw [← HH.out] at hT h8
        have e0 := cellAt hT i _ (slW_at (rowsP_at pi))
        obtain ⟨e1, f1⟩ := has8_cell h8 (show p < _ by rw [imgL_len]; exact hp)
        obtain ⟨sb, hs8, hsb⟩ := bit_place at0
        have hpw := pow_bit sb hs8
        have hshn : bitF sb ≠ 0 := bit_ne sb hs8
        generalize bitF sb = bt at *
        have ex := xor_val (at8 (imgL k (carN (groupN k r)) H (strD H zs) i) p) bt
        obtain ⟨y, hy⟩ : ∃ y, y = ga (at8 (imgL k (carN (groupN k r)) H (strD H zs) i) p) bt := ⟨_, rfl⟩
        rw [← hy] at ex
        have hyn : y ≠ at8 (imgL k (carN (groupN k r)) H (strD H zs) i) p := fun e => hshn (by
          have h9 := F.add_left_cancel (at8 (imgL k (carN (groupN k r)) H (strD H zs) i) p) bt
          rw [← hy, e, F.add_self] at h9
          exact h9.symm)
        have hgw : w.heap.size ≤ gi := by have h9 := (HE7.out.2.2.2.1 i _ pi).1; have h10 := HB1.out.size; show _ ≤ gi; omega
        have HB8 : Hid (Below w.heap.size w (w7.setCell ⟨gi, p, none⟩ (.int .u8 (y.toNat : Int)))) := HB7.out.setCell (by exact hgw) _
        have hMg : M1 ≠ gi := fun e => by
          obtain ⟨cur, h9, _⟩ := (HE7.out.2.2.2.1 i _ pi).2
          exact kind_ne hT h9 (by decide) e
        have hord := HE7.out.2.2.2.2
        have hR8 : RowsP (w7.setCell ⟨gi, p, none⟩ (.int .u8 (y.toNat : Int))) w1.heap.size gs1 (fun j => if j = i then (imgL k (carN (groupN k r)) H (strD H zs) i).set p y else imgL k (carN (groupN k r)) H (strD H zs) j) := by
          refine ⟨fun j q hq => ⟨(HE7.out.2.2.2.1 j q hq).1, ?_⟩, hord⟩
          have h9 := (HE7.out.2.2.2.1 j q hq).2
          rw [← HH.out] at h9
          by_cases hji : j = i
          · subst hji
            rw [pi] at hq
            obtain rfl := Option.some.inj hq
            simp only [if_true]
            exact has8_set h9 (by rw [imgL_len]; exact hp) y
          · simp only [if_neg hji]
            refine has8_set_other h9 ?_
            show q.1 ≠ gi
            rcases Nat.lt_or_gt_of_ne hji with h10 | h10
            · have := hord j i q _ h10 hq pi; show q.1 ≠ gi; omega
            · have := hord i j _ q h10 pi hq; show q.1 ≠ gi; omega
        have hT8 : (w7.setCell ⟨gi, p, none⟩ (.int .u8 (y.toNat : Int))).heap[M1]? = some (.cells (slW (rowsP H gs1) (2 * (k + r))) 22 (0, 0)) := (heap_setCell_other _ _ _ _ hMg).trans hT
        have hrows8 := rowsP_rows hR8 HE7.out.2.1 (fun j => by
          show (if j = i then _ else _ : List F).length = H
          split
          · rw [List.length_set, imgL_len]
          · exact imgL_len _ _ _ _ _) hT8
        obtain ⟨L2, hL2⟩ : ∃ L2, L2 = (encL k r H zs).set i ((imgL k (carN (groupN k r)) H (strD H zs) i).set p y) := ⟨_, rfl⟩
        have hLL : (List.range (2 * (k + r))).map (fun j => if j = i then (imgL k (carN (groupN k r)) H (strD H zs) i).set p y else imgL k (carN (groupN k r)) H (strD H zs) j) = L2 := by
          rw [hL2]
          apply List.ext_getElem?
          intro q
          rw [List.getElem?_set, List.getElem?_map]
          by_cases hq : q < 2 * (k + r)
          · rw [List.getElem?_range hq]
            simp only [Option.map_some]
            by_cases hqi : i = q
            · subst hqi
              rw [if_pos rfl, if_pos rfl, if_pos (by rw [encL_len]; exact hq)]
            · rw [if_neg hqi, if_neg (fun e => hqi e.symm), encL_at hq]
          · rw [List.getElem?_eq_none (by simp; omega), if_neg (by omega), List.getElem?_eq_none (by rw [encL_len]; omega)]; rfl
        rw [hLL] at hrows8
        have hl2 : L2.length = d3 := by rw [hL2, List.length_set, encL_len, HCR.out]
        have hall2 : ∀ ys ∈ L2, ys.length = H := fun ys hy2 => by
          rw [hL2] at hy2
          rcases List.mem_or_eq_of_mem_set hy2 with h9 | h9
          · exact encL_all h9
          · rw [h9, List.length_set, imgL_len]
        have h0H2 : H = (L2.getD 0 []).length := by
          rw [List.getD_eq_getElem?_getD, List.getElem?_eq_getElem (show 0 < L2.length by omega), Option.getD_some]
          exact (hall2 _ (List.getElem_mem _)).symm
        have hch : ¬ madeL k r H L2 = L2 := by
          rw [hL2]
          exact change_tells h1 h2 h3 enc_fits (encL_at hiR) (imgL_len _ _ _ _ _) hp hyn
        have HFIT2 : Hid _ := fits_G k r d3 d3 H (some ⟨M1, 0, none⟩) L2 (w7.setCell ⟨gi, p, none⟩ (.int .u8 (y.toNat : Int))) E (errsF_below HE.out HB8.out) (HE4.out _ HB8.out) h1 h2 h3 hl2.symm (by omega) (Nat.le_refl _) hrows8 (fun ys hy2 => by rw [hall2 ys hy2]; omega) h0H2
        have HFI2 : Hid (FitsIn k r d3 L2 H) := ⟨HCR.out, k1, k2, hall2⟩
        rw [decide_eq_false hch] at HFIT2
        clear hT h8 hyn hMg hord hR8 hT8 hrows8 hLL hl2 hall2 h0H2 hch hL2 hy hshn pi hgw
        have EX : Hid _ := ex
        have HPW : Hid _ := hpw
        clear ex hpw
        go_wp2_with fail
        rw [HPW.out, EX.out]
        refine Calls.mono HFIT2.out ?_
        rintro e w9 (⟨hno, _⟩ | ⟨_, rfl, hb⟩)
        · exact absurd HFI2.out hno
        · have HB9 : Hid (Below w.heap.size w w9) := HB8.out.trans (hb.mono HB8.out.size)
          clear hb
          go_wp2
          go_ret
          exact ⟨rfl, HB9.out⟩
theorem linear_all (k r at0 : Int) (l1 c1 l2 c2 l3 c3 : Nat) (a1 a2 a3 : Option Addr) (xs ys : List F) (w : World) (E : Nat → Addr) (hE : ErrsF w E) (hE4 : w.cell? ⟨1, 0, none⟩ = some (errAt (E 4))) (hk0 : -9223372036854775808 ≤ k) (hk1 : k ≤ 9223372036854775807) (hr0 : -9223372036854775808 ≤ r) (hr1 : r ≤ 9223372036854775807) (ha0 : -9223372036854775808 ≤ at0) (ha1 : at0 ≤ 9223372036854775807)
    (hl1 : l1 = xs.length) (hx : Row8 w a1 xs) (hc1 : l1 ≤ c1) (hb1 : c1 ≤ 140737488351232) (hl2 : l2 = ys.length) (hy : Row8 w a2 ys) (hc2 : l2 ≤ c2) (hb2 : c2 ≤ 140737488351232) :
    Calls Tryd.prog 7 #[.agg #[.int .i64 k, .int .i64 r, .slice a1 l1 c1, .slice a2 l2 c2, .slice a3 l3 c3, .int .i64 at0]] w fun e w' => e = .returned (.bool true) ∧ Below w.heap.size w w' := by
  obtain ⟨n, hn⟩ : ∃ n, n = l1 ∧ l1 ≤ l2 ∨ n = l2 ∧ l2 < l1 := by
    by_cases h : l1 ≤ l2
    · exact ⟨l1, .inl ⟨rfl, h⟩⟩
    · exact ⟨l2, .inr ⟨rfl, by omega⟩⟩
  by_cases h : encE k r n = 0
  · obtain ⟨p, q, m, rfl, rfl, hm, h1, h2, h3, h4, h5⟩ := encE_ok h
    obtain rfl : n = m := by omega
    exact linear_ok p q n l1 c1 l2 c2 l3 c3 at0 ha0 ha1 a1 a2 a3 xs ys w E hE hE4 hl1 hx hc1 hb1 hl2 hy hc2 hb2 hn h1 h2 h3 h4 h5
  · exact linear_bad k r at0 n l1 c1 l2 c2 l3 c3 a1 a2 a3 xs ys w E hE hk0 hk1 hr0 hr1 hl1 hx hc1 hb1 hl2 hy hc2 hb2 hn h
end Go.Proofs.YtmlpijlcpeoeaaaDoor
