/- The walk of ShardsSplits: at all numbers and lists of bytes. -/
import Derived.Test.YtbnjjmmpgpomiaaDoorShardsU
import Derived.Test.YtbnjjmmpgpomiaaDoorShardsT
import Derived.Test.YtbnjjmmpgpomiaaDoorShardsSizesW
namespace Go.Proofs.YtbnjjmmpgpomiaaDoor
open Go.RowKit Gf
set_option linter.unusedVariables false
set_option maxRecDepth 20000
theorem at8_flTo {xs : List F} {q p : Nat} (h : q ≤ p) : at8 (flTo xs q) p = at8 xs p := by
  simp only [at8, flTo, List.getD_eq_getElem?_getD]
  by_cases hq : q ≤ xs.length
  · rw [List.getElem?_append_right (by simp; omega)]
    simp only [List.length_map, List.length_take, List.getElem?_drop]
    congr 2; omega
  · rw [List.getElem?_eq_none (by simp; omega), List.getElem?_eq_none (by omega)]
/-- a half that isn't turned yet -/
theorem row8_later {w : World} {g H c v q : Nat} {xs : List F} {t : TypeId} {fr : Nat × Nat} (h : w.heap[g]? = some (.cells (vfs (flTo (padF (c * H) xs) q)) t fr)) (hv : v < c) (hq : q ≤ v * H) : Row8 w (some ⟨g, v * H, none⟩) (hf H xs v) :=
  .inr ⟨g, v * H, rfl, fun j hj => by
    rw [hf_len] at hj
    have hlt := place_lt (c := H) hv hj
    rw [cell_of_row _ _ _ _ _ _ h, vfs_get _ _ (by rw [flTo_len, padF_len]; exact hlt), at8_flTo (by omega), at8_padF hlt, hf, at8_rowF hj]⟩
/-- the halves that Split makes, as a list of lists -/
theorem rows_hv {w : World} {hb g H c : Nat} {xs : List F} (h1 : w.heap[hb]? = some (.cells (hvV g H c c) 37 (0, 0))) (h2 : w.heap[g]? = some (.cells (vfs (padF (c * H) xs)) 5 (0, 0))) :
    Rows8 w (some ⟨hb, 0, none⟩) ((List.range c).map (hf H xs)) :=
  .inr ⟨hb, 0, rfl, fun j ys hj => by
    have hjc : j < c := by have := (List.getElem?_eq_some_iff.1 hj).1; simpa using this
    rw [List.getElem?_map, List.getElem?_range hjc] at hj
    obtain rfl := Option.some.inj hj
    exact ⟨some ⟨g, j * H, none⟩, H, by rw [Nat.zero_add, hf_len]; exact cellAt h1 j _ (hvV_at hjc (Nat.le_refl _)), row8_half h2 hjc⟩⟩
set_option maxHeartbeats 4000000 in
theorem splits_bad (k : Int) (la ca : Nat) (a : Option Addr) (xs : List F) (w : World) (hla : la = xs.length) (hcap : la ≤ ca) (hca : ca ≤ 140737488351232) (hx : Row8 w a xs) (hnil : a = none → ca = 0) (es : List Addr) (hes : ErrsAt w gsNum es) (h : halfE k la ≠ 0) :
    Calls Tryd.prog 4 #[.int .i64 k, .slice a la ca] w fun e w' => e = .returned (.bool true) ∧ Below w.heap.size w w' := by
  have HE : Hid _ := hes
  have HA : Hid _ := hla
  have HX : Hid _ := hx
  have HN : Hid _ := hnil
  have HS : Hid _ := fun u (hu : Below w.heap.size w u) (b : Option Addr) => split_bad k b la (la + 6) u (ofL es) (errsE_num (errsAt_below hes hu)) (by omega) h
  have HR : Hid _ := fun u => rsplit_bad k a la ca u h
  have hle := halfE_le k la
  generalize halfE k la = x at *
  clear hes hla hx hnil h
  go_enter Tryd.func4, Tryd.ntmps4
  go_wp2_with fail
  refine Calls.mono (alive6_ok _ (ofL es) (errsE_num HE.out)) ?_
  rintro e w1 ⟨rfl, hb⟩
  have HB1 : Hid _ := hb
  clear hb
  go_wp2_with fail
  refine Calls.mono (bytes_F a la ca xs _ HA.out (by omega) (row8_below HX.out HB1.out) HN.out) ?_
  rintro e w2 ⟨gi, rfl, hgi, hb, hh⟩
  have HB2 : Hid (Below w.heap.size w w2) := HB1.out.trans (hb.mono HB1.out.size)
  have HG2 : Hid _ := hh
  clear hb hh
  go_wp2_with fail
  refine Calls.mono (HS.out _ HB2.out _) ?_
  rintro e w3 ⟨rfl, hb⟩
  have HB3 : Hid (Below w.heap.size w w3) := HB2.out.trans (hb.mono HB2.out.size)
  have HG3 : Hid _ := heap_later HG2.out hb
  clear hb
  go_wp2_with fail
  refine Calls.mono (HR.out _) ?_
  rintro e w4 ⟨rfl, rfl⟩
  go_wp2_with fail
  refine Calls.mono (num_V x (errsAt_below HE.out HB3.out) hle) ?_
  rintro e w4 ⟨rfl, hb⟩
  have HB4 : Hid (Below w.heap.size w w4) := HB3.out.trans (hb.mono HB3.out.size)
  have HG4 : Hid _ := heap_later HG3.out hb
  clear hb
  go_wp2_with fail
  refine Calls.mono (sameLists_F 0 0 0 none none [] _ rfl (by decide) (.inl rfl) (.inl rfl)) ?_
  rintro e w5 ⟨rfl, hb⟩
  have HB5 : Hid (Below w.heap.size w w5) := HB4.out.trans (hb.mono HB4.out.size)
  have HG5 : Hid _ := heap_later HG4.out hb
  clear hb
  go_wp2_with fail
  refine Calls.mono (kept_F gi la ca a xs _ HA.out (by omega) hcap HG5.out (row8_below HX.out HB5.out)) ?_
  rintro e w6 ⟨rfl, hb⟩
  have HB6 : Hid (Below w.heap.size w w6) := HB5.out.trans (hb.mono HB5.out.size)
  have HG6 : Hid _ := heap_later HG5.out hb
  clear hb
  go_wp2
  go_loopw [10] (fun t wr => t = .int .i64 1 ∧ wr = w6) (fun t _ => 0)
  case atStart => exact ⟨rfl, rfl⟩
  case round =>
    obtain ⟨rfl, rfl⟩ := hrel
    go_wp2_with fail
    refine Calls.mono (kept_F gi la ca a xs _ HA.out (by omega) hcap HG6.out (row8_below HX.out HB6.out)) ?_
    rintro e w7 ⟨rfl, hb⟩
    have HB7 : Hid (Below w.heap.size w w7) := HB6.out.trans (hb.mono HB6.out.size)
    clear hb
    go_wp2
    go_ret
    exact ⟨rfl, HB7.out⟩
set_option maxHeartbeats 8000000 in
theorem splits_ok (k la ca : Nat) (a : Option Addr) (xs : List F) (w : World) (hla : la = xs.length) (hcap : la ≤ ca) (hca : ca ≤ 140737488351232) (hx : Row8 w a xs) (hnil : a = none → ca = 0) (es : List Addr) (hes : ErrsAt w gsNum es) (h1 : 1 ≤ k) (h2 : k ≤ 14) (h3 : 1 ≤ la) (h4 : la ≤ 128 * k) :
    Calls Tryd.prog 4 #[.int .i64 k, .slice a la ca] w fun e w' => e = .returned (.bool true) ∧ Below w.heap.size w w' := by
  have HE : Hid _ := hes
  have HA : Hid _ := hla
  have HX : Hid _ := hx
  have HN : Hid _ := hnil
  have HS : Hid _ := fun u (hu : Below w.heap.size w u) (b : Option Addr) (hb : Row8 u b xs) => split_ok k la (la + 6) b xs u (ofL es) (errsE_num (errsAt_below hes hu)) h1 h2 h3 h4 hla hb
  have HR : Hid _ := fun u (hu : Row8 u a xs) => rsplit_ok k la ca a xs u h1 h2 h3 h4 hla hu
  have HK : Hid _ := cnt_half h1 h2 h3 h4
  clear hes hla hx hnil
  go_enter Tryd.func4, Tryd.ntmps4
  go_wp2_with fail
  refine Calls.mono (alive6_ok _ (ofL es) (errsE_num HE.out)) ?_
  rintro e w1 ⟨rfl, hb⟩
  have HB1 : Hid _ := hb
  clear hb
  go_wp2_with fail
  refine Calls.mono (bytes_F a la ca xs _ HA.out (by omega) (row8_below HX.out HB1.out) HN.out) ?_
  rintro e w2 ⟨gi, rfl, hgi, hb, hh⟩
  have HB2 : Hid (Below w.heap.size w w2) := HB1.out.trans (hb.mono HB1.out.size)
  have HG2 : Hid _ := hh
  have hgi2 := ltHeap hh
  clear hb hh
  go_wp2_with fail
  refine Calls.mono (HS.out _ HB2.out _ (row8_front HG2.out)) ?_
  rintro e w3 ⟨hb3, g, c, H, rfl, hc, hH, l1, l2, l3, m1, m2, hb⟩
  have hgg : gi ≠ g := by omega
  have HB3 : Hid (Below w.heap.size w w3) := HB2.out.trans (hb.mono HB2.out.size)
  have HG3 : Hid _ := heap_later HG2.out hb
  have HM1 : Hid _ := m1
  have HM2 : Hid _ := m2
  have hgw : w.heap.size ≤ g := by have := HB2.out.size; omega
  have HCC : Hid _ := hc
  have HHH : Hid _ := hH
  clear hb m1 m2 hc hH
  go_wp2_with fail
  refine Calls.mono (HR.out _ (row8_below HX.out HB3.out)) ?_
  rintro e w4 ⟨b4, c4, cap4, H4, rfl, hc4, hH4, hr4, hb⟩
  obtain rfl : c4 = c := hc4.trans HCC.out.symm
  obtain rfl : H4 = H := hH4.trans HHH.out.symm
  have HB4 : Hid (Below w.heap.size w w4) := HB3.out.trans (hb.mono HB3.out.size)
  have HG4 : Hid _ := heap_later HG3.out hb
  have HM1' : Hid _ := heap_later HM1.out hb
  have HM2' : Hid _ := heap_later HM2.out hb
  have HR4 : Hid _ := hr4
  clear hb hr4 hc4 hH4
  go_wp2_with fail
  refine Calls.mono (num_V (es := es) 0 (errsAt_below HE.out HB4.out) (by decide)) ?_
  rintro e w5 ⟨rfl, hb⟩
  have HB5 : Hid (Below w.heap.size w w5) := HB4.out.trans (hb.mono HB4.out.size)
  have HG5 : Hid _ := heap_later HG4.out hb
  have HM1 : Hid _ := heap_later HM1'.out hb
  have HM2 : Hid _ := heap_later HM2'.out hb
  have HR5 : Hid _ := rows8_below HR4.out hb
  clear hb HM1' HM2' HR4
  have hc28 : c4 ≤ 28 := by have := HCC.out; omega
  have hc2 : 2 ≤ c4 := by have := HCC.out; omega
  have hH64 : H4 ≤ 64 := by rw [HHH.out]; exact HK.out.2.1
  go_wp2_with fail
  refine Calls.mono (sameLists_F c4 c4 cap4 _ b4 ((List.range c4).map (hf H4 xs)) _ (by simp) (by omega) (rows_hv HM1.out HM2.out) HR5.out) ?_
  rintro e w6 ⟨rfl, hb⟩
  have HB6 : Hid (Below w.heap.size w w6) := HB5.out.trans (hb.mono HB5.out.size)
  have HG6 : Hid _ := heap_later HG5.out hb
  have HM1' : Hid _ := heap_later HM1.out hb
  have HM2' : Hid _ := heap_later HM2.out hb
  clear hb HM1 HM2 HR5
  go_wp2_with fail
  refine Calls.mono (kept_F gi la ca a xs _ HA.out (by omega) hcap HG6.out (row8_below HX.out HB6.out)) ?_
  rintro e w7 ⟨rfl, hb⟩
  have HB7 : Hid (Below w.heap.size w w7) := HB6.out.trans (hb.mono HB6.out.size)
  have HG7 : Hid _ := heap_later HG6.out hb
  have HM1 : Hid _ := heap_later HM1'.out hb
  have HM2 : Hid _ := heap_later HM2'.out hb
  clear hb HM1' HM2'
  go_wp2
  go_loopw [10] (fun t wr => ∃ j : Nat, j < c4 ∧ t = .int .i64 ((j + 1 : Nat) : Int) ∧ w7.grownBy wr (some g) ∧ wr.heap[g]? = some (.cells (vfs (flTo (padF (c4 * H4) xs) (j * H4))) 5 (0, 0))) (fun t _ => c4 + 1 - (intOf t).toNat)
  case atStart => exact ⟨0, by omega, rfl, World.grownBy.refl _ _, by rw [Nat.zero_mul, flTo_zero]; exact HM2.out⟩
  case round =>
    obtain ⟨j, hj, rfl, hgb, hs⟩ := hrel
    have HGB : Hid _ := hgb
    have HS5 : Hid _ := hs
    obtain ⟨i, hi⟩ : ∃ i, i = j + 1 := ⟨_, rfl⟩
    rw [← hi]
    have hij : (i : Int) - 1 = (j : Int) := by omega
    have HI : Hid (i = j + 1) := hi
    by_cases hlt : i < c4
    · have C0 : ∀ u, wr.grownBy u (some g) → u.cell? ⟨hb3, i, none⟩ = some (.slice (some ⟨g, i * H4, none⟩) H4 H4) := fun u h => cellAt (grown_block h (grown_block hgb HM1.out (by omega)) (by omega)) i _ (hvV_at hlt (Nat.le_refl _))
      have C1 : ∀ u, wr.grownBy u (some g) → u.cell? ⟨hb3, j, none⟩ = some (.slice (some ⟨g, j * H4, none⟩) H4 H4) := fun u h => cellAt (grown_block h (grown_block hgb HM1.out (by omega)) (by omega)) j _ (hvV_at (by omega) (Nat.le_refl _))
      have tw1 : IntKind.i64.wrap (j : Int) = (j : Int) := by rw [IntKind.wrap_i64]; omega
      have hjH : j * H4 + H4 = i * H4 := by rw [hi, Nat.succ_mul]
      have hle : j * H4 + H4 ≤ (padF (c4 * H4) xs).length := by
        rw [padF_len, hjH]
        exact Nat.mul_le_mul_right H4 (by omega)
      have HJH : Hid _ := hjH
      have HAP : Hid _ := fun u (hu : u.heap[g]? = some (.cells (vfs (flTo (padF (c4 * H4) xs) (j * H4))) 5 (0, 0))) => apart_S g (j * H4) H4 H4 H4 (some ⟨g, i * H4, none⟩) (hf H4 xs i) (padF (c4 * H4) xs) u (hf_len _ _ _).symm hle (by omega) hu (fun k hk w' _ h => row8_later h hlt (by omega))
      rw [hjH] at HAP
      clear hgb hs hi hle hjH
      go_upto_region 11 with fail
      have hR2 : wr.grownBy wr.drew (some g) := grownBy_drew (World.grownBy.refl _ _)
      go_region_held3 (fun u => wr.grownBy u (some g)) (first | assumption | (refine grownBy_drew ?_; assumption)) (first | (go_at_call 20; refine Calls.mono (HAP.out _ HS5.out) ?_; rintro e wi ⟨rfl, hgi3, hhi⟩; have hT : wr.grownBy wi (some g) := grownBy_trans hR2 hgi3 (fun _ _ h => h); have HHI : Hid _ := hhi; clear hgi3 hhi))
      have HT : Hid (w7.grownBy wi (some g)) := grownBy_trans HGB.out hT (fun _ _ h => h)
      clear hT hR2 C0 C1 tw1
      go_wp2
      exact ⟨⟨j + 1, by have := HI.out; omega, by rw [HI.out]; go_num, HT.out, by rw [← HI.out]; exact HHI.out⟩, by rw [HI.out]; simp [intOf]; omega⟩
    · obtain rfl : i = c4 := by omega
      have hjH : j * H4 + H4 = i * H4 := by rw [hi, Nat.succ_mul]
      have hle : j * H4 + H4 ≤ (padF (i * H4) xs).length := by rw [padF_len, hjH]; exact Nat.le_refl _
      have hkeep : ∀ u, wr.grownBy u (some g) → u.heap[gi]? = some (.cells (vfs (xs ++ marks)) 5 (0, 0)) := fun u hu => grown_block hu (grown_block hgb HG7.out hgg) hgg
      have HKE : Hid _ := hkeep
      have HAP : Hid _ := apart_S g (j * H4) H4 la (la + 6) (some ⟨gi, 0, none⟩) xs (padF (i * H4) xs) wr HA.out hle (by omega) hs (fun k hk w' hg h => row8_front (hkeep w' hg))
      have c1 := cellAt (grown_block hgb HM1.out (by omega)) j _ (hvV_at (g := g) (H := H4) (show j < i by omega) (Nat.le_refl _))
      have HB8 : Hid (Below w.heap.size w wr) := below_grown HB7.out hgb hgw
      clear hgb hs hi hle hjH hkeep
      go_wp2_with fail
      refine Calls.mono HAP.out ?_
      rintro e w8 ⟨rfl, hg8, _⟩
      have HG8 : Hid _ := HKE.out w8 hg8
      have HB9 : Hid (Below w.heap.size w w8) := below_grown HB8.out hg8 hgw
      clear hg8 c1
      go_wp2_with fail
      refine Calls.mono (kept_F gi la ca a xs _ HA.out (by omega) hcap HG8.out (row8_below HX.out HB9.out)) ?_
      rintro e w9 ⟨rfl, hb⟩
      have HB10 : Hid (Below w.heap.size w w9) := HB9.out.trans (hb.mono HB9.out.size)
      clear hb
      go_wp2
      go_ret
      exact ⟨rfl, HB10.out⟩
theorem splits_all (k : Int) (la ca : Nat) (a : Option Addr) (xs : List F) (w : World) (hla : la = xs.length) (hcap : la ≤ ca) (hca : ca ≤ 140737488351232) (hx : Row8 w a xs) (hnil : a = none → ca = 0) (es : List Addr) (hes : ErrsAt w gsNum es) :
    Calls Tryd.prog 4 #[.int .i64 k, .slice a la ca] w fun e w' => e = .returned (.bool true) ∧ Below w.heap.size w w' := by
  by_cases h : halfE k la = 0
  · obtain ⟨c, m, rfl, hm, h1, h2, h3, h4⟩ := half_ok h
    obtain rfl : la = m := by omega
    exact splits_ok c la ca a xs w hla hcap hca hx hnil es hes h1 h2 h3 h4
  · exact splits_bad k la ca a xs w hla hcap hca hx hnil es hes h
end Go.Proofs.YtbnjjmmpgpomiaaDoor
