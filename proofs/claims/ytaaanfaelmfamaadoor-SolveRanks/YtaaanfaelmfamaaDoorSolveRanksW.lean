/- The walk of the statement SolveRanks: it returns true of all pairs of matrices. -/
import Derived.Test.YtaaanfaelmfamaaDoorSolveA
import Derived.Test.YtaaanfaelmfamaaDoorMatTake
import Derived.Test.YtaaanfaelmfamaaDoorMatS
import Derived.Test.YtaaanfaelmfamaaDoorErrs
namespace Go.Proofs.YtaaanfaelmfamaaDoor
open Go.RowKit Gf
set_option linter.unusedVariables false
set_option maxRecDepth 20000
/-- numbers as the program's numbers -/
def natI (p : List Nat) : List Int := p.map fun x => ((x : Nat) : Int)
theorem natI_len (p : List Nat) : (natI p).length = p.length := by simp [natI]
theorem natV_natI (p : List Nat) : natV p = (natI p).map (Value.int .i64) := by simp [natV, natI]
theorem rowI_nat {w : World} {B cap : Nat} {av : Option Addr} {p : List Nat} (ho : w.ownsRow B 3 1 (.slice av p.length cap) p.length (natV p)) : RowI w av (natI p) := by
  rcases ho.2 with ⟨e, e0⟩ | ⟨g, cap', cur, e, h⟩
  · refine .inl ?_
    have := List.eq_nil_of_length_eq_zero e0
    rw [this]; rfl
  · cases e
    refine .inr ⟨g, 0, rfl, fun j n hj => ?_⟩
    simp only [natI, List.getElem?_map, Option.map_eq_some_iff] at hj
    obtain ⟨x, hx, rfl⟩ := hj
    obtain ⟨g', e', _, hc⟩ := own_nat ho hx
    cases e'
    rw [Nat.zero_add]; exact hc
theorem own_nil_cap {w : World} {B n cap : Nat} {av : Option Addr} {e : TypeId} {xs : List Value} (ho : w.ownsRow B e 1 (.slice av n cap) n xs) : av = none → cap = 0 := by
  intro h
  rcases ho.2 with ⟨e, _⟩ | ⟨g, cap', cur, e, _⟩
  · cases e; rfl
  · rw [h] at e; cases e
theorem takeM_grid (c : Nat) (xs : List F) (p : List Nat) {r : Nat} (hx : xs.length = r * c) (hp : ∀ x ∈ p, x < r) : (takeM c xs (natI p)).flatten = grid c (fun k j => cellF c xs (p.getD k 0) j) p.length := by
  rw [grid_flat]
  congr 1
  apply List.ext_getElem?
  intro k
  by_cases hk : k < p.length
  · have h1 : (natI p)[k]? = some ((p[k] : Nat) : Int) := by simp [natI, hk]
    rw [takeM, List.getElem?_map, h1, List.getElem?_map, List.getElem?_range hk]
    simp only [Option.map_some, Int.toNat_natCast, Option.some.injEq]
    rw [rowAt_rowF hx (hp _ (List.getElem_mem hk))]
    simp only [cellF, List.getD, List.getElem?_eq_getElem hk, Option.getD_some]
  · rw [List.getElem?_eq_none (by simp [takeM, natI]; omega), List.getElem?_eq_none (by simp; omega)]
theorem cellF_grid {c n : Nat} {f : Mt} : ∀ i, i < n → ∀ j, j < c → cellF c (grid c f n) i j = f i j := fun i hi j hj => at8_grid hi hj
theorem cellF_mul {r n c : Nat} {xs ys : List F} : ∀ i, i < r → ∀ j, j < c → cellF c (mulM n c xs ys r) i j = mulF n (cellF n xs) (cellF c ys) i j := fun i hi j hj => at8_grid hi hj
set_option maxHeartbeats 8000000 in
theorem ranks_yes (r c q d la ca lb cb : Nat) (aa ab : Option Addr) (xs ys : List F) (w : World) (hr : r ≤ 64) (hc : c ≤ 64) (hq : q ≤ 64) (hd : d ≤ 64) (hla : la = r * c) (hlb : lb = q * d) (hx : xs.length = r * c) (hy : ys.length = q * d) (hca : la ≤ ca) (hcb : lb ≤ cb)
    (hX : Row8 w aa xs) (hY : Row8 w ab ys) (hna : aa = none → ca = 0) (hnb : ab = none → cb = 0) (s2 s3 : Addr) (hs2 : w.cell? ⟨1, 0, none⟩ = some (errAt s2)) (hs3 : w.cell? ⟨2, 0, none⟩ = some (errAt s3)) :
    Calls Tryd.prog 7 #[.agg #[.int .i64 r, .int .i64 c, .slice aa la ca], .agg #[.int .i64 q, .int .i64 d, .slice ab lb cb]] w fun e w' => e = .returned (.bool true) ∧ Below w.heap.size w w' := by
  have HLA : Hid _ := hla
  have HLB : Hid _ := hlb
  have HXL : Hid _ := hx
  have HYL : Hid _ := hy
  have HX : Hid (Row8 w aa xs) := hX
  have HY : Hid (Row8 w ab ys) := hY
  have HNA : Hid _ := hna
  have HNB : Hid _ := hnb
  have HS2 : Hid _ := hs2
  have HS3 : Hid _ := hs3
  obtain ⟨k, hk⟩ : ∃ k, k = (pivL (cellF c xs) r c).length := ⟨_, rfl⟩
  have hkt : (pivL (tr (cellF c xs)) c r).length = k := by rw [rk_tr, hk]
  have hkr : k ≤ r := by rw [hk]; exact rk_rows _ _ _
  have hkc : k ≤ c := by rw [hk]; exact pivL_le _ _ _
  have HK : Hid _ := hk
  have HKT : Hid _ := hkt
  have hAl := (((Below.refl w.heap.size w).alloc (Nat.le_refl _) (.cells #[.int .i64 r, .int .i64 c, .slice aa la ca] 24)).alloc (by simp) (.cells #[.int .i64 q, .int .i64 d, .slice ab lb cb] 24))
  have hA := holds_new (holds_new (holds_nil w) #[.int .i64 r, .int .i64 c, .slice aa la ca] 24) #[.int .i64 q, .int .i64 d, .slice ab lb cb] 24
  rw [World.size_alloc] at hA
  have HA0 : Hid _ := hA
  have HW0 : Hid _ := hAl
  clear hla hlb hx hy hX hY hna hnb hs2 hs3 hk hkt hA hAl
  go_enter Tryd.func7, Tryd.ntmps7
  go_wp2_with fail
  refine Calls.mono (alive3_ok _ s2 (cell_later HW0.out HS2.out)) ?_
  rintro e w1 ⟨rfl, hb⟩
  have HA1 : Hid _ := holds_later HA0.out hb
  have HW1 : Hid (Below w.heap.size w w1) := HW0.out.trans (hb.mono HW0.out.size)
  clear hb HA0 HW0
  have c1 := cellAt (holds_at HA1.out 1 rfl) 0 _ rfl
  have c2 := cellAt (holds_at HA1.out 1 rfl) 1 _ rfl
  have c3 := cellAt (holds_at HA1.out 1 rfl) 2 _ rfl
  go_wp2_with fail
  refine Calls.mono (inForm_yes r c aa la ca _ hr hc HLA.out) ?_
  rintro e w2 ⟨rfl, hb⟩
  have HA2 : Hid _ := holds_later HA1.out hb
  have HW2 : Hid (Below w.heap.size w w2) := HW1.out.trans (hb.mono HW1.out.size)
  clear hb HA1 HW1 c1 c2 c3
  have b1 := cellAt (holds_at HA2.out 0 rfl) 0 _ rfl
  have b2 := cellAt (holds_at HA2.out 0 rfl) 1 _ rfl
  have b3 := cellAt (holds_at HA2.out 0 rfl) 2 _ rfl
  go_wp2_with fail
  refine Calls.mono (inForm_yes q d ab lb cb _ hq hd HLB.out) ?_
  rintro e w3 ⟨rfl, hb⟩
  have HA3 : Hid _ := holds_later HA2.out hb
  have HW3 : Hid (Below w.heap.size w w3) := HW2.out.trans (hb.mono HW2.out.size)
  clear hb HA2 HW2 b1 b2 b3
  have c1 := cellAt (holds_at HA3.out 1 rfl) 0 _ rfl
  have c2 := cellAt (holds_at HA3.out 1 rfl) 1 _ rfl
  have c3 := cellAt (holds_at HA3.out 1 rfl) 2 _ rfl
  go_wp2_with fail
  refine Calls.mono (transpose_F r c la ca aa xs _ hr hc HLA.out HXL.out hca (row8_below HX.out HW3.out)) ?_
  rintro e w4 ⟨gt, nt, rfl, hnt, hgt, hht, hb⟩
  have HNT : Hid _ := hnt
  have hA4 := holds_new (holds_cons (holds_later HA3.out hb) hht) #[.int .i64 c, .int .i64 r, .slice (some ⟨gt, 0, none⟩) nt nt] 24
  have HA4 : Hid _ := hA4
  have hw4 := HW3.out.trans (hb.mono HW3.out.size)
  have HW4 : Hid (Below w.heap.size w (w4.alloc (.cells #[.int .i64 c, .int .i64 r, .slice (some ⟨gt, 0, none⟩) nt nt] 24))) := hw4.alloc hw4.size _
  clear hb HA3 HW3 c1 c2 c3 hnt hht hA4 hw4
  have c1 := cellAt (holds_at HA4.out 3 rfl) 0 _ rfl
  have c2 := cellAt (holds_at HA4.out 3 rfl) 1 _ rfl
  have c3 := cellAt (holds_at HA4.out 3 rfl) 2 _ rfl
  go_wp2_with fail
  refine Calls.mono (rank_F r c la ca aa xs _ hr hc HLA.out HXL.out hca (row8_below HX.out HW4.out) HNA.out) ?_
  rw [← HK.out]
  rintro e w5 ⟨rfl, hb⟩
  have HA5 : Hid _ := holds_later HA4.out hb
  have HW5 : Hid (Below w.heap.size w w5) := HW4.out.trans (hb.mono HW4.out.size)
  clear hb HA4 HW4 c1 c2 c3
  have c1 := cellAt (holds_at HA5.out 0 rfl) 0 _ rfl
  have c2 := cellAt (holds_at HA5.out 0 rfl) 1 _ rfl
  have c3 := cellAt (holds_at HA5.out 0 rfl) 2 _ rfl
  go_wp2_with fail
  refine Calls.mono (rank_F c r nt nt (some ⟨gt, 0, none⟩) (trM r c xs) _ hc hr HNT.out (by simp [trM, grid_len]) (Nat.le_refl _) (holds_row HA5.out 1 rfl) (fun h => by cases h)) ?_
  rw [pivL_congr cellF_tr, HKT.out]
  rintro e w6 ⟨rfl, hb⟩
  have HA6 : Hid _ := holds_later HA5.out hb
  have HW6 : Hid (Below w.heap.size w w6) := HW5.out.trans (hb.mono HW5.out.size)
  clear hb HA5 HW5 c1 c2 c3
  have c1 := cellAt (holds_at HA6.out 3 rfl) 0 _ rfl
  have c2 := cellAt (holds_at HA6.out 3 rfl) 1 _ rfl
  have c3 := cellAt (holds_at HA6.out 3 rfl) 2 _ rfl
  go_wp2_with fail
  refine Calls.mono (basis_F r c la ca aa xs _ hr hc HLA.out HXL.out hca (row8_below HX.out HW6.out) HNA.out) ?_
  rintro e w7 ⟨av, cv, rfl, hown, hb⟩
  have HOWN : Hid _ := hown
  rw [HKT.out]
  have HA7 : Hid _ := holds_later HA6.out hb
  have HW7 : Hid (Below w.heap.size w w7) := HW6.out.trans (hb.mono HW6.out.size)
  clear hb hown HA6 HW6 c1 c2 c3
  have c1 := cellAt (holds_at HA7.out 3 rfl) 0 _ rfl
  have c2 := cellAt (holds_at HA7.out 3 rfl) 1 _ rfl
  have c3 := cellAt (holds_at HA7.out 3 rfl) 2 _ rfl
  have hlt : ∀ x ∈ pivL (tr (cellF c xs)) c r, x < r := fun x hx => (mem_pivL.1 hx).1
  have HLT : Hid _ := hlt
  clear hlt
  go_wp2_with fail
  refine Calls.mono (take_F r c la ca k cv aa av xs (natI (pivL (tr (cellF c xs)) c r)) _ hr hc HLA.out HXL.out hca (row8_below HX.out HW7.out) HNA.out (by rw [natI_len, HKT.out]) (by omega) (rowI_nat HOWN.out) s3 (cell_later HW7.out HS3.out)) ?_
  rintro e w8 (⟨_, gs, ms, rfl, hms, hgs, hhs, hb⟩ | ⟨hno, _⟩)
  rotate_left
  · refine absurd (fun n hn => ?_) hno
    obtain ⟨x, hx, rfl⟩ := List.mem_map.1 hn
    have := HLT.out x hx
    omega
  rw [takeM_grid c xs _ HXL.out HLT.out, HKT.out] at hhs
  have HMS : Hid _ := hms
  have hA8 := holds_new (holds_cons (holds_later HA7.out hb) hhs) #[.int .i64 k, .int .i64 c, .slice (some ⟨gs, 0, none⟩) ms ms] 24
  have HA8 : Hid _ := hA8
  have hw8 := HW7.out.trans (hb.mono HW7.out.size)
  have HW8 : Hid (Below w.heap.size w (w8.alloc (.cells #[.int .i64 k, .int .i64 c, .slice (some ⟨gs, 0, none⟩) ms ms] 24))) := hw8.alloc hw8.size _
  clear hb HA7 HW7 c1 c2 c3 hms hhs hA8 hw8
  have c1 := cellAt (holds_at HA8.out 0 rfl) 0 _ rfl
  have c2 := cellAt (holds_at HA8.out 0 rfl) 1 _ rfl
  have c3 := cellAt (holds_at HA8.out 0 rfl) 2 _ rfl
  have hrb : (pivL (cellF c (grid c (fun k_1 j => cellF c xs ((pivL (tr (cellF c xs)) c r).getD k_1 0) j) k)) k c).length = k := by
    have := rk_basis (cellF c xs) r c
    rw [HKT.out] at this
    rw [pivL_congr cellF_grid]; exact this
  have HRB : Hid _ := hrb
  clear hrb
  go_wp2_with fail
  refine Calls.mono (rank_F k c ms ms (some ⟨gs, 0, none⟩) _ _ (by omega) hc HMS.out (by rw [grid_len]) (Nat.le_refl _) (holds_row HA8.out 1 rfl) (fun h => by cases h)) ?_
  rw [HRB.out]
  rintro e w9 ⟨rfl, hb⟩
  have HA9 : Hid _ := holds_later HA8.out hb
  have HW9 : Hid (Below w.heap.size w w9) := HW8.out.trans (hb.mono HW8.out.size)
  clear hb HA8 HW8 c1 c2 c3 HRB
  have c2 := cellAt (holds_at HA9.out 5 rfl) 1 _ rfl
  have b1 := cellAt (holds_at HA9.out 4 rfl) 0 _ rfl
  by_cases hcq : c = q
  · subst hcq
    have c1 := cellAt (holds_at HA9.out 5 rfl) 0 _ rfl
    have c3 := cellAt (holds_at HA9.out 5 rfl) 2 _ rfl
    have b2 := cellAt (holds_at HA9.out 4 rfl) 1 _ rfl
    have b3 := cellAt (holds_at HA9.out 4 rfl) 2 _ rfl
    go_wp2_with fail
    refine Calls.mono (product_F r c d la ca lb cb aa ab xs ys _ hr hc hd HLA.out HXL.out hca (row8_below HX.out HW9.out) HLB.out HYL.out hcb (row8_below HY.out HW9.out)) ?_
    rintro e wa ⟨gp, mp, rfl, hmp, hgp, hhp, hb⟩
    have HMP : Hid _ := hmp
    have hAa := holds_new (holds_cons (holds_later HA9.out hb) hhp) #[.int .i64 r, .int .i64 d, .slice (some ⟨gp, 0, none⟩) mp mp] 24
    have HAa : Hid _ := hAa
    have hwa := HW9.out.trans (hb.mono HW9.out.size)
    have HWa : Hid (Below w.heap.size w (wa.alloc (.cells #[.int .i64 r, .int .i64 d, .slice (some ⟨gp, 0, none⟩) mp mp] 24))) := hwa.alloc hwa.size _
    clear hb HA9 HW9 c1 c2 c3 b1 b2 b3 hmp hhp hAa hwa
    have c1 := cellAt (holds_at HAa.out 0 rfl) 0 _ rfl
    have c2 := cellAt (holds_at HAa.out 0 rfl) 1 _ rfl
    have c3 := cellAt (holds_at HAa.out 0 rfl) 2 _ rfl
    obtain ⟨x, hx⟩ : ∃ x, x = (pivL (cellF d (mulM c d xs ys r)) r d).length := ⟨_, rfl⟩
    obtain ⟨y, hy⟩ : ∃ y, y = (pivL (cellF d ys) c d).length := ⟨_, rfl⟩
    have hxk : x ≤ k := by rw [hx, HK.out, pivL_congr cellF_mul]; exact rk_mul_left _ _ _ _ _
    have hxy : x ≤ y := by rw [hx, hy, pivL_congr cellF_mul]; exact rk_mul_right _ _ _ _ _
    have HXX : Hid _ := hx
    have HYY : Hid _ := hy
    clear hx hy
    go_wp2_with fail
    refine Calls.mono (rank_F r d mp mp (some ⟨gp, 0, none⟩) _ _ hr hd HMP.out (by simp [mulM, grid_len]) (Nat.le_refl _) (holds_row HAa.out 1 rfl) (fun h => by cases h)) ?_
    rw [← HXX.out]
    rintro e wb ⟨rfl, hb⟩
    have HAb : Hid _ := holds_later HAa.out hb
    have HWb : Hid (Below w.heap.size w wb) := HWa.out.trans (hb.mono HWa.out.size)
    clear hb HAa HWa c1 c2 c3
    have b1 := cellAt (holds_at HAb.out 6 rfl) 0 _ rfl
    have b2 := cellAt (holds_at HAb.out 6 rfl) 1 _ rfl
    have b3 := cellAt (holds_at HAb.out 6 rfl) 2 _ rfl
    go_wp2_with fail
    refine Calls.mono (rank_F c d lb cb ab ys _ hc hd HLB.out HYL.out hcb (row8_below HY.out HWb.out) HNB.out) ?_
    rw [← HYY.out]
    rintro e wc ⟨rfl, hb⟩
    have HWc : Hid (Below w.heap.size w wc) := HWb.out.trans (hb.mono HWb.out.size)
    clear hb HAb HWb b1 b2 b3
    go_wp2
    go_ret
    exact ⟨rfl, HWc.out⟩
  · have hne : ((c : Int) != (q : Int)) = true := by simp; omega
    go_wp2
    go_ret
    exact ⟨rfl, HW9.out⟩
theorem ranks_no (ra cA rb cB : Int) (la ca lb cb : Nat) (aa ab : Option Addr) (w : World) (s2 : Addr) (hs2 : w.cell? ⟨1, 0, none⟩ = some (errAt s2)) (h : ¬ (FormOk ra cA la ∧ FormOk rb cB lb)) :
    Calls Tryd.prog 7 #[.agg #[.int .i64 ra, .int .i64 cA, .slice aa la ca], .agg #[.int .i64 rb, .int .i64 cB, .slice ab lb cb]] w fun e w' => e = .returned (.bool true) ∧ Below w.heap.size w w' := by
  have HS2 : Hid _ := hs2
  have hAl := (((Below.refl w.heap.size w).alloc (Nat.le_refl _) (.cells #[.int .i64 ra, .int .i64 cA, .slice aa la ca] 24)).alloc (by simp) (.cells #[.int .i64 rb, .int .i64 cB, .slice ab lb cb] 24))
  have hA := holds_new (holds_new (holds_nil w) #[.int .i64 ra, .int .i64 cA, .slice aa la ca] 24) #[.int .i64 rb, .int .i64 cB, .slice ab lb cb] 24
  rw [World.size_alloc] at hA
  have HA0 : Hid _ := hA
  have HW0 : Hid _ := hAl
  have H : Hid _ := h
  clear hs2 hA hAl h
  go_enter Tryd.func7, Tryd.ntmps7
  go_wp2_with fail
  refine Calls.mono (alive3_ok _ s2 (cell_later HW0.out HS2.out)) ?_
  rintro e w1 ⟨rfl, hb⟩
  have HA1 : Hid _ := holds_later HA0.out hb
  have HW1 : Hid (Below w.heap.size w w1) := HW0.out.trans (hb.mono HW0.out.size)
  clear hb HA0 HW0
  have c1 := cellAt (holds_at HA1.out 1 rfl) 0 _ rfl
  have c2 := cellAt (holds_at HA1.out 1 rfl) 1 _ rfl
  have c3 := cellAt (holds_at HA1.out 1 rfl) 2 _ rfl
  by_cases h1 : FormOk ra cA la
  · obtain ⟨r, c, rfl, rfl, hr, hc, hl⟩ := h1.nat
    have HL : Hid _ := hl
    have h2 : ¬ FormOk rb cB lb := fun h2 => H.out ⟨h1, h2⟩
    have H2 : Hid _ := h2
    clear h1 h2 H hl
    go_wp2_with fail
    refine Calls.mono (inForm_yes r c aa la ca _ hr hc HL.out) ?_
    rintro e w2 ⟨rfl, hb⟩
    have HA2 : Hid _ := holds_later HA1.out hb
    have HW2 : Hid (Below w.heap.size w w2) := HW1.out.trans (hb.mono HW1.out.size)
    clear hb HA1 HW1 c1 c2 c3
    have b1 := cellAt (holds_at HA2.out 0 rfl) 0 _ rfl
    have b2 := cellAt (holds_at HA2.out 0 rfl) 1 _ rfl
    have b3 := cellAt (holds_at HA2.out 0 rfl) 2 _ rfl
    go_wp2_with fail
    refine Calls.mono (inForm_no rb cB ab lb cb _ H2.out) ?_
    rintro e w3 ⟨rfl, hb⟩
    have HW3 : Hid (Below w.heap.size w w3) := HW2.out.trans (hb.mono HW2.out.size)
    clear hb HA2 HW2 b1 b2 b3
    go_wp2
    go_ret
    exact ⟨rfl, HW3.out⟩
  · have H1 : Hid _ := h1
    clear h1 H
    go_wp2_with fail
    refine Calls.mono (inForm_no ra cA aa la ca _ H1.out) ?_
    rintro e w2 ⟨rfl, hb⟩
    have HW2 : Hid (Below w.heap.size w w2) := HW1.out.trans (hb.mono HW1.out.size)
    clear hb HA1 HW1 c1 c2 c3
    go_wp2
    go_ret
    exact ⟨rfl, HW2.out⟩
theorem ranks_walk (ra cA rb cB : Int) (la ca lb cb : Nat) (aa ab : Option Addr) (xs ys : List F) (w : World) (hx : la = xs.length) (hy : lb = ys.length) (hca : la ≤ ca) (hcb : lb ≤ cb)
    (hX : Row8 w aa xs) (hY : Row8 w ab ys) (hna : aa = none → ca = 0) (hnb : ab = none → cb = 0) (es : List Addr) (hes : ErrsAt w gsSolve es) :
    Calls Tryd.prog 7 #[.agg #[.int .i64 ra, .int .i64 cA, .slice aa la ca], .agg #[.int .i64 rb, .int .i64 cB, .slice ab lb cb]] w fun e w' => e = .returned (.bool true) ∧ Below w.heap.size w w' := by
  obtain ⟨s2, _, hs2, _⟩ := errs_at hes 1 1 rfl
  obtain ⟨s3, _, hs3, _⟩ := errs_at hes 2 2 rfl
  by_cases h : FormOk ra cA la ∧ FormOk rb cB lb
  · obtain ⟨h1, h2⟩ := h
    obtain ⟨r, c, rfl, rfl, hr, hc, hl⟩ := h1.nat
    obtain ⟨q, d, rfl, rfl, hq, hd, hm⟩ := h2.nat
    exact ranks_yes r c q d la ca lb cb aa ab xs ys w hr hc hq hd hl hm (by omega) (by omega) hca hcb hX hY hna hnb s2 s3 hs2 hs3
  · exact ranks_no ra cA rb cB la ca lb cb aa ab w s2 hs2 h
end Go.Proofs.YtaaanfaelmfamaaDoor
