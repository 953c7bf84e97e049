/- The walk of ShardsBack: at all numbers and lists of bytes. -/
import Derived.Test.YtbnjjmmpgpomiaaDoorShardsJ
import Derived.Deep.DeepCutAuto
namespace Go.Proofs.YtbnjjmmpgpomiaaDoor
open Go.RowKit Gf
set_option linter.unusedVariables false
set_option maxRecDepth 20000
theorem row8_first {w : World} {g : Nat} {xs ys : List F} {t : TypeId} {fr : Nat × Nat} (h : w.heap[g]? = some (.cells (vfs (xs ++ ys)) t fr)) : Row8 w (some ⟨g, 0, none⟩) xs := by
  refine .inr ⟨g, 0, rfl, fun j hj => ?_⟩
  rw [cell_of_row _ _ _ _ _ _ h, Nat.zero_add, vfs_get _ j (by rw [List.length_append]; omega)]
  simp [at8, hj, List.getElem?_append_left]
/-- the halves that Split makes, as a list of lists -/
theorem rows_halves {w : World} {hb g H c : Nat} {xs : List F} (h1 : w.heap[hb]? = some (.cells (hvV g H c c) 37 (0, 0))) (h2 : w.heap[g]? = some (.cells (vfs (padF (c * H) xs)) 5 (0, 0))) :
    Rows8 w (some ⟨hb, 0, none⟩) ((List.range c).map (hf H xs)) :=
  .inr ⟨hb, 0, rfl, fun j ys hj => by
    have hjc : j < c := by have := (List.getElem?_eq_some_iff.1 hj).1; simpa using this
    rw [List.getElem?_map, List.getElem?_range hjc] at hj
    obtain rfl := Option.some.inj hj
    exact ⟨some ⟨g, j * H, none⟩, H, by rw [Nat.zero_add, hf_len]; exact cellAt h1 j _ (hvV_at hjc (Nat.le_refl _)), row8_half h2 hjc⟩⟩
theorem fit_halves (H c : Nat) (xs : List F) : FitP c H ((List.range c).map (hf H xs)) :=
  ⟨by simp, fun ys hy => by obtain ⟨v, _, rfl⟩ := List.mem_map.1 hy; exact hf_len _ _ _⟩
theorem min_step {i m n : Nat} : min (i * m) n + min (n - i * m) m = min ((i + 1) * m) n := by
  rw [Nat.succ_mul]; omega
set_option maxHeartbeats 8000000 in
theorem back_walk (k : Int) (ln ca : Nat) (a : Option Addr) (xs : List F) (w : World) (hk0 : -9223372036854775808 ≤ k) (hk1 : k ≤ 9223372036854775807) (hln : ln = xs.length) (hcap : ln ≤ ca) (hca : ca ≤ 140737488351232) (hx : Row8 w a xs) (E : Nat → Addr) (hE : ErrsE w E) :
    Calls Tryd.prog 6 #[.int .i64 k, .slice a ln ca] w fun e w' => e = .returned (.bool true) ∧ Below w.heap.size w w' := by
  have HE : Hid _ := hE
  have HLN : Hid _ := hln
  have HX : Hid _ := hx
  clear hE hln hx
  go_enter Tryd.func6, Tryd.ntmps6
  go_wp2_with fail
  refine Calls.mono (alive6_ok _ E HE.out) ?_
  rintro e w1 ⟨rfl, hb⟩
  have HB1 : Hid _ := hb
  clear hb
  go_wp2_with fail
  refine Calls.mono (split_G k ln ca a xs _ E (errsE_below HE.out HB1.out) (by omega) HLN.out (row8_below HX.out HB1.out)) ?_
  rintro e w2 ⟨b2, l2, cap2, ev, rfl, hs, hb⟩
  have HB2 : Hid (Below w.heap.size w w2) := HB1.out.trans (hb.mono HB1.out.size)
  have HS : Hid _ := hs
  clear hb hs
  go_upto_region 4 with fail
  go_cut [24] (fun s wx => (s = .bool true ∧ halfE k ln = 0 ∨ s = .bool false ∧ halfE k ln ≠ 0) ∧ w2 = wx)
  case first =>
    as_aux_lemma =>
    rcases HS.out with ⟨q, rfl, rfl, rfl, rfl⟩ | ⟨q, rfl, _⟩
    · unfold errAt
      go_wp2
      go_meet
      exact ⟨.inr ⟨rfl, q⟩, rfl⟩
    · go_wp2
      go_meet
      exact ⟨.inl ⟨rfl, q⟩, rfl⟩
  case rest =>
  obtain ⟨hcut, rfl⟩ := hcut
  go_upto_if 24 with fail
  go_cut [] (fun wx => Below w.heap.size w wx)
  case first =>
    rcases hcut with ⟨rfl, q⟩ | ⟨rfl, q⟩
    rotate_left
    · go_wp2
      go_meet
      exact HB2.out
    rcases HS.out with ⟨q2, _⟩ | ⟨_, rfl, c, hb, g, H, rfl, h1, h2, h3, h4, rfl, hl2, hc2, hH, l1, l2', l3, m1, m2⟩
    · exact absurd q q2
    rw [← hl2] at hc2 hH m1 m2
    subst hc2
    obtain ⟨k1, k2, k3, k4⟩ := cnt_half h1 h2 h3 h4
    rw [← hl2, ← hH] at k3 k4
    have hjo := fun u (hu : Below w.heap.size w u) hR hF => join_ok c ln cap2 cap2 (some ⟨hb, 0, none⟩) ((List.range cap2).map (hf H xs)) u E (errsE_below HE.out hu) h1 h2 h3 h4 (by simp) hR hF
    rw [← hl2, ← hH] at hjo
    have HJ : Hid _ := hjo w2 HB2.out (rows_halves m1 m2) (fit_halves _ _ _)
    obtain ⟨p, hp⟩ : ∃ p, p = cap2 * (H - 1) := ⟨_, rfl⟩
    have hH1 : 1 ≤ H := by rw [hH, hl2]; exact k1
    have HP : Hid ((cap2 : Int) * ((H : Int) - 1) = p) := by
      show _ = _
      rw [hp, show (H : Int) - 1 = ((H - 1 : Nat) : Int) from by omega]; simp
    have hpl : p < ln := by rw [hp]; exact k4
    have HM1 : Hid _ := m1
    have HK3 : Hid _ := k3
    have HL2 : Hid (2 * (c : Int) = cap2) := by show _ = _; omega
    have hH64 : H ≤ 64 := by rw [hH, hl2]; exact k2
    have hcap28 : cap2 ≤ 28 := by omega
    have hcap0 : 0 < cap2 := by omega
    clear hjo m1 m2 hp k1 k2 k3 k4 hl2 hH l1 l2' l3 q
    go_wp2_with fail
    refine Calls.mono HJ.out ?_
    rintro e w3 ⟨g3, ys, rfl, hg3, hy, hyl, hh3, hb3⟩
    have hpad : ((List.range cap2).map (hf H xs)).flatten = padF (cap2 * H) xs := flat_halves _ _ _
    rw [hpad] at hy hyl hh3
    have htk : (padF (cap2 * H) xs).take ln = xs := by rw [HLN.out]; exact take_pad (by rw [← HLN.out]; exact HK3.out)
    rw [htk] at hy hyl
    rw [← hy.out] at hh3
    have HB3 : Hid (Below w.heap.size w w3) := HB2.out.trans (hb3.mono HB2.out.size)
    have q1 := conv8 (ca := ln) HLN.out (row8_first hh3)
    have q2 := conv8 (ca := ca) HLN.out (row8_below HX.out HB3.out)
    have c0 := cellAt (heap_later HM1.out hb3) 0 _ (hvV_at (g := g) (H := H) hcap0 (Nat.le_refl _))
    rw [Nat.zero_mul] at c0
    have hkl := HL2.out
    have hpp := HP.out
    clear hb3 hh3 hy hyl htk hpad
    go_wp2
    go_meet
    exact HB3.out
  case rest =>
  rename_i wc
  have HC : Hid _ := hcut
  clear hcut HS HB2 HB1
  go_wp2_with fail
  refine Calls.mono (stripes_F k ln _ E (errsE_below HE.out HC.out) (by omega) (by omega)) ?_
  rintro e w3 ⟨b3, l3, cap3, rfl, hl3, hr3, hb⟩
  have HB3 : Hid (Below w.heap.size w w3) := HC.out.trans (hb.mono HC.out.size)
  clear hb
  by_cases hse : stripesE k ln = 0
  · obtain ⟨c, n, rfl, hn, h1, h2, h3⟩ := stripes_ok hse
    obtain rfl : ln = n := by omega
    rw [hse, evV_zero]
    rw [stripesL_ok h1 h2 h3] at hl3 hr3
    obtain ⟨m, hm⟩ : ∃ m, m = 128 * c := ⟨_, rfl⟩
    rw [← hm] at hl3 hr3
    have hm0 : 0 < m := by omega
    have HLT : Hid _ := fun i => lt_cnt (m := m) (n := ln) (i := i) hm0
    have HCV : Hid _ := cnt_cover (m := m) (n := ln) hm0
    rw [strL_len] at hl3
    have hl9 : l3 ≤ 32 := by rw [hl3, hm]; exact cnt_stripes h1 h3
    rw [← hl3] at HLT HCV hr3
    have HMC : Hid ((128 : Int) * c = m) := by show _ = _; omega
    have HH : Hid (∀ (q : Nat) (u : World), Below w.heap.size w u → 1 ≤ q → q ≤ m → Calls Tryd.prog 9 #[.int .i64 c, .int .i64 q] u fun e w' => ∃ h : Nat, e = .returned (.tuple #[.int .i64 h, .nilIface]) ∧ Below u.heap.size u w') := fun q u hu hq1 hq2 =>
      (half_F c q u E (errsE_below HE.out hu) (by omega) (by omega)).mono fun e w' ⟨he, hb⟩ => ⟨halfV c q, by rw [he, halfE_ok h1 h2 hq1 (by omega), evV_zero], hb⟩
    have HR3 : Hid _ := hr3
    have hm9 : m ≤ 1792 := by omega
    clear hr3 hl3 hm hse hn
    go_wp2
    go_loopw [10, 84] (fun s t wr => ∃ i q : Nat, i ≤ l3 ∧ t = .int .i64 i ∧ s = .int .i64 q ∧ Hid (q = min (i * m) ln) ∧ q ≤ ln ∧ Below w.heap.size w wr ∧ Below w3.heap.size w3 wr) (fun _ t _ => l3 - (intOf t).toNat)
    case atStart => exact ⟨0, 0, by omega, rfl, rfl, by show _ = _; omega, by omega, HB3.out, Below.refl _ _⟩
    case round =>
      obtain ⟨i, q, hi, rfl, rfl, HQ, hq, hbw, hbw3⟩ := hrel
      have HBW : Hid _ := hbw
      have HBW3 : Hid _ := hbw3
      by_cases hlt : i < l3
      · obtain ⟨b, off, rfl, hbl, hcl⟩ := rowI_cell HR3.out (show i < (strL m ln l3).length by rw [strL_len]; exact hlt)
        have c1 := cell_later hbw3 (hcl i (by rw [strL_len]; exact hlt))
        obtain ⟨r, hr⟩ : ∃ r, r = min (ln - i * m) m := ⟨_, rfl⟩
        have hget : (strL m ln l3).getD i 0 = (r : Int) := by rw [List.getD_eq_getElem?_getD, strL_at hlt, hr]; rfl
        rw [hget] at c1
        have hi1 := (HLT.out i).1 hlt
        have hr1 : 1 ≤ r := by rw [hr]; omega
        have hrm : r ≤ m := by rw [hr]; omega
        have hqr : q + r = min ((i + 1) * m) ln := by rw [HQ.out, hr]; exact min_step
        have HQ2 : Hid _ := hqr
        have hql : q + r ≤ ln := by omega
        have hlast : i + 1 < l3 → r = m := fun h => by
          have := (HLT.out (i + 1)).1 h
          rw [Nat.succ_mul] at this
          rw [hr]; omega
        have HLA : Hid _ := hlast
        clear hbw hbw3 hcl hget hi1 hr hqr hlast
        go_wp2_with fail
        refine Calls.mono (HH.out r _ HBW.out hr1 hrm) ?_
        rintro e w4 ⟨h, rfl, hb⟩
        have HB4 : Hid (Below w.heap.size w w4) := HBW.out.trans (hb.mono HBW.out.size)
        have HB5 : Hid (Below w3.heap.size w3 w4) := HBW3.out.trans (hb.mono HBW3.out.size)
        have hmc := HMC.out
        clear hb
        by_cases hla : (i : Int) < (l3 : Int) - 1
        · obtain rfl := HLA.out (by omega)
          go_wp2
          exact ⟨⟨i + 1, q + r, by omega, by go_num, by go_num, HQ2.out, hql, HB4.out, HB5.out⟩, by simp [intOf]; omega⟩
        · go_wp2
          exact ⟨⟨i + 1, q + r, by omega, by go_num, by go_num, HQ2.out, hql, HB4.out, HB5.out⟩, by simp [intOf]; omega⟩
      · obtain rfl : i = l3 := by omega
        obtain rfl : q = ln := by have := HQ.out; have := HCV.out; omega
        clear hbw hbw3
        go_wp2
        go_ret
        exact ⟨rfl, HBW.out⟩
  · obtain ⟨s, hs⟩ : ∃ s, evV E (stripesE k ln) = errAt s := ⟨E (stripesE k ln - 1), by unfold evV; rw [if_neg hse]⟩
    rw [hs]
    have hcase : k < 1 ∨ 14 < k ∨ 4096 < (ln : Int) := by
      exact Decidable.byContradiction fun h => hse (by
        unfold stripesE
        rw [if_pos (show OkK k from ⟨by omega, by omega⟩), if_neg (by omega), if_neg (by omega)])
    unfold errAt
    clear hse hs hl3 hr3
    rcases hcase with g1 | g1 | g1
    · go_wp2
      go_ret
      exact ⟨rfl, HB3.out⟩
    · by_cases g2 : k < 1
      · go_wp2
        go_ret
        exact ⟨rfl, HB3.out⟩
      · go_wp2
        go_ret
        exact ⟨rfl, HB3.out⟩
    · by_cases g2 : k < 1
      · go_wp2
        go_ret
        exact ⟨rfl, HB3.out⟩
      · by_cases g3 : 14 < k
        · go_wp2
          go_ret
          exact ⟨rfl, HB3.out⟩
        · go_wp2
          go_ret
          exact ⟨rfl, HB3.out⟩
def gsShB : List Nat := [2, 6, 1, 0]
theorem errsE_back {w : World} {es : List Addr} (h : ErrsAt w gsShB es) : ∃ E, ErrsE w E := by
  obtain ⟨a0, _, h0, _⟩ := errs_at h 0 _ rfl
  obtain ⟨a1, _, h1, _⟩ := errs_at h 2 _ rfl
  obtain ⟨a2, _, h2, _⟩ := errs_at h 3 _ rfl
  exact ⟨fun j => if j = 0 then a0 else if j = 11 then a1 else a2, h0, h1, h2⟩
theorem back_all (k : Int) (ln ca : Nat) (a : Option Addr) (xs : List F) (w : World) (hk0 : -9223372036854775808 ≤ k) (hk1 : k ≤ 9223372036854775807) (hln : ln = xs.length) (hcap : ln ≤ ca) (hca : ca ≤ 140737488351232) (hx : Row8 w a xs) (es : List Addr) (hes : ErrsAt w gsShB es) :
    Calls Tryd.prog 6 #[.int .i64 k, .slice a ln ca] w fun e w' => e = .returned (.bool true) ∧ Below w.heap.size w w' := by
  obtain ⟨E, hE⟩ := errsE_back hes
  exact back_walk k ln ca a xs w hk0 hk1 hln hcap hca hx E hE
end Go.Proofs.YtbnjjmmpgpomiaaDoor
