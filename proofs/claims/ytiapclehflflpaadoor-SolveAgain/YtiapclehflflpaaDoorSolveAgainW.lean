/- The walk of the statement SolveAgain: it returns true of all matrices and numbers. -/
import Derived.Test.YtiapclehflflpaaDoorSolveA
import Derived.Test.YtiapclehflflpaaDoorSolveIn
import Derived.Test.YtiapclehflflpaaDoorInts
import Derived.Test.YtiapclehflflpaaDoorMatS
import Derived.Test.YtiapclehflflpaaDoorErrs
import Derived.BigRegion
import Derived.Deep.DeepCutAuto
namespace Go.Proofs.YtiapclehflflpaaDoor
open Go.RowKit Gf
set_option linter.unusedVariables false
set_option maxRecDepth 20000
/-- numbers as the program's numbers -/
def natJ (p : List Nat) : List Int := p.map fun x => ((x : Nat) : Int)
theorem natJ_len (p : List Nat) : (natJ p).length = p.length := by simp [natJ]
theorem rowJ_nat {w : World} {B cap : Nat} {av : Option Addr} {p : List Nat} (ho : w.ownsRow B 3 1 (.slice av p.length cap) p.length (natV p)) : RowI w av (natJ p) := by
  rcases ho.2 with ⟨e, e0⟩ | ⟨g, cap', cur, e, h⟩
  · refine .inl ?_
    have := List.eq_nil_of_length_eq_zero e0
    rw [this]; rfl
  · cases e
    refine .inr ⟨g, 0, rfl, fun j n hj => ?_⟩
    simp only [natJ, List.getElem?_map, Option.map_eq_some_iff] at hj
    obtain ⟨x, hx, rfl⟩ := hj
    obtain ⟨g', e', _, hc⟩ := own_nat ho hx
    cases e'
    rw [Nat.zero_add]; exact hc
theorem cellF_grid' {c n : Nat} {f : Mt} : ∀ i, i < n → ∀ j, j < c → cellF c (grid c f n) i j = f i j := fun i hi j hj => at8_grid hi hj
/-- two reductions of matrices that make each other are one -/
theorem red_same {A B R S : Mt} {p q : List Nat} {r c : Nat} (h : Red R p r c) (h1 : RowsIn R r A r c) (h2 : RowsIn A r R r c) (k : Red S q r c) (k1 : RowsIn S r B r c) (k2 : RowsIn B r S r c) (hab : RowsIn A r B r c) (hba : RowsIn B r A r c) : q = p ∧ grid c S r = grid c R r := by
  have e : q = p := by
    rw [k.eq (k1.trans hba) (hab.trans k2) (Nat.le_refl _), h.eq h1 h2 (Nat.le_refl _)]
  subst e
  exact ⟨rfl, grid_congr fun i j hi hj => h.unique k ((k1.trans hba).trans h2) i hi j hj⟩
/-- the rows a and b turned into b and their sum -/
def againF (a b : Nat) (A : Mt) : Mt := fun i j => if i = a then A b j else if i = b then ga (A a j) (A b j) else A i j
def againP (a b : Nat) (A : Mt) (k : Nat) : Mt := fun i j => if j < k then againF a b A i j else A i j
theorem againF_in {a b n : Nat} (A : Mt) (c : Nat) (ha : a < n) (hb : b < n) : RowsIn (againF a b A) n A n c := by
  apply RowsIn.two
  intro i hi
  by_cases e : i = a
  · exact ⟨b, b, 1, 0, hb, hb, fun j _ => by simp [againF, e]⟩
  · by_cases e2 : i = b
    · exact ⟨a, b, 1, 1, ha, hb, fun j _ => by simp only [againF, if_neg e, if_pos e2, F.one_mul]⟩
    · exact ⟨i, i, 1, 0, hi, hi, fun j _ => by simp [againF, e, e2]⟩
theorem againF_back {a b n : Nat} (A : Mt) (c : Nat) (ha : a < n) (hb : b < n) (hne : a ≠ b) : RowsIn A n (againF a b A) n c := by
  have h1 : ∀ j, againF a b A a j = A b j := fun j => by simp [againF]
  have h2 : ∀ j, againF a b A b j = ga (A a j) (A b j) := fun j => by simp only [againF, if_neg (show ¬ b = a from fun e => hne e.symm), if_true]
  apply RowsIn.two
  intro i hi
  by_cases e : i = a
  · exact ⟨b, a, 1, 1, hb, ha, fun j _ => by rw [h1, h2, F.one_mul, F.one_mul, F.add_right_cancel, e]⟩
  · by_cases e2 : i = b
    · exact ⟨a, a, 1, 0, ha, ha, fun j _ => by rw [h1, F.one_mul, F.zero_mul, F.add_zero, e2]⟩
    · exact ⟨i, i, 1, 0, hi, hi, fun j _ => by simp [againF, e, e2]⟩
theorem againP_step {a b k c r : Nat} (A : Mt) (ha : a < r) (hb : b < r) (hne : a ≠ b) (hk : k < c) :
    ((grid c (againP a b A k) r).set (a * c + k) (A b k)).set (b * c + k) (ga (A a k) (A b k)) = grid c (againP a b A (k + 1)) r := by
  rw [grid_set ha hk, grid_set hb hk]
  refine grid_congr fun i j hi hj => ?_
  simp only [againP]
  by_cases e : j = k
  · subst e
    simp only [Nat.lt_irrefl, if_false, Nat.lt_succ_self, if_true, and_true, againF]
    by_cases e2 : i = b
    · rw [if_pos e2, if_neg (fun e3 => hne (e3.symm.trans e2)), if_pos e2]
    · rw [if_neg e2]
      by_cases e3 : i = a
      · rw [if_pos e3, if_pos e3]
      · rw [if_neg e3, if_neg e3, if_neg e2]
  · rw [if_neg (fun h => e h.2), if_neg (fun h => e h.2)]
    by_cases e2 : j < k
    · rw [if_pos e2, if_pos (by omega)]
    · rw [if_neg e2, if_neg (by omega)]
theorem vfs_kind {xs : List F} {k : Nat} {n : Int} (h : (vfs xs)[k]? = some (.int .i64 n)) : False := by
  simp only [vfs, List.getElem?_toArray, List.getElem?_map, Option.map_eq_some_iff] at h
  obtain ⟨x, _, h⟩ := h
  cases h
theorem set_front {xs ys : List F} {j : Nat} (h : j < xs.length) (x : F) : (xs ++ ys).set j x = xs.set j x ++ ys := List.set_append_left _ _ h
set_option maxHeartbeats 16000000 in
theorem again_yes (r c l cap : Nat) (ia ib : Int) (a : Option Addr) (xs : List F) (w : World) (hr : r ≤ 64) (hc : c ≤ 64) (hr0 : 0 < r) (hl : l = r * c) (hx : xs.length = r * c) (hcap : l ≤ cap) (hX : Row8 w a xs) (hna : a = none → cap = 0)
    (s2 : Addr) (hs2 : w.cell? ⟨2, 0, none⟩ = some (errAt s2)) :
    Calls Tryd.prog 5 #[.agg #[.int .i64 r, .int .i64 c, .slice a l cap], .int .i64 ia, .int .i64 ib] w fun e w' => e = .returned (.bool true) ∧ Below w.heap.size w w' := by
  have HL : Hid _ := hl
  have HXL : Hid _ := hx
  have HX : Hid (Row8 w a xs) := hX
  have HNA : Hid _ := hna
  have HS2 : Hid _ := hs2
  have HA0 : Hid _ := holds_new (holds_nil w) #[.int .i64 r, .int .i64 c, .slice a l cap] 24
  have HW0 : Hid _ := (Below.refl w.heap.size w).alloc (Nat.le_refl _) (.cells #[.int .i64 r, .int .i64 c, .slice a l cap] 24)
  clear hl hx hX hna hs2
  go_enter Tryd.func5, Tryd.ntmps5
  go_wp2_with fail
  refine Calls.mono (alive3_ok _ s2 (cell_later HW0.out HS2.out)) ?_
  rintro e w1 ⟨rfl, hb⟩
  have HA1 : Hid _ := holds_later HA0.out hb
  have HW1 : Hid (Below w.heap.size w w1) := HW0.out.trans (hb.mono HW0.out.size)
  clear hb HA0 HW0
  have c1 := cellAt (holds_at HA1.out 0 rfl) 0 _ rfl
  have c2 := cellAt (holds_at HA1.out 0 rfl) 1 _ rfl
  have c3 := cellAt (holds_at HA1.out 0 rfl) 2 _ rfl
  go_wp2_with fail
  refine Calls.mono (inForm_yes r c a l cap _ hr hc HL.out) ?_
  rintro e w2 ⟨rfl, hb⟩
  have HA2 : Hid _ := holds_later HA1.out hb
  have HW2 : Hid (Below w.heap.size w w2) := HW1.out.trans (hb.mono HW1.out.size)
  clear hb HA1 HW1 c1 c2 c3
  have c1 := cellAt (holds_at HA2.out 0 rfl) 0 _ rfl
  have c2 := cellAt (holds_at HA2.out 0 rfl) 1 _ rfl
  have c3 := cellAt (holds_at HA2.out 0 rfl) 2 _ rfl
  go_wp2_with fail
  refine Calls.mono (reduce_F r c l cap a xs _ hr hc HL.out HXL.out hcap (row8_below HX.out HW2.out) HNA.out) ?_
  rintro e w3 ⟨gx, mx, ap, cp, p, R, rfl, hmx, hgx, hhx, hown, hred, hin, hback, hb⟩
  have HMX : Hid _ := hmx
  have HRED : Hid _ := hred
  have HIN : Hid _ := hin
  have HBACK : Hid _ := hback
  have hA3 := holds_new (holds_cons (holds_later HA2.out hb) hhx) #[.int .i64 r, .int .i64 c, .slice (some ⟨gx, 0, none⟩) mx mx] 24
  have HA3 : Hid _ := hA3
  have hw3 := HW2.out.trans (hb.mono HW2.out.size)
  have HW3 : Hid (Below w.heap.size w (w3.alloc (.cells #[.int .i64 r, .int .i64 c, .slice (some ⟨gx, 0, none⟩) mx mx] 24))) := hw3.alloc hw3.size _
  have hrp : RowI w3 ap (natJ p) := rowJ_nat hown
  have HRP : Hid _ := rowI_alloc hrp (.cells #[.int .i64 r, .int .i64 c, .slice (some ⟨gx, 0, none⟩) mx mx] 24)
  have hpl : p.length ≤ r := hred.len
  clear hb hmx hown hred hin hback hhx hA3 hw3 hrp HA2 HW2 c1 c2 c3
  have c1 := cellAt (holds_at HA3.out 0 rfl) 0 _ rfl
  have c2 := cellAt (holds_at HA3.out 0 rfl) 1 _ rfl
  have c3 := cellAt (holds_at HA3.out 0 rfl) 2 _ rfl
  go_wp2_with fail
  refine Calls.mono (reduce_F r c mx mx (some ⟨gx, 0, none⟩) (grid c R r) _ hr hc HMX.out (grid_len _ _ _) (Nat.le_refl _) (holds_row HA3.out 1 rfl) (fun h => by cases h)) ?_
  rintro e w4 ⟨gy, my, aq, cq, q, S, rfl, hmy, hgy, hhy, hown, hred, hin, hback, hb⟩
  obtain ⟨rfl, hgr⟩ := red_same HRED.out HIN.out HBACK.out hred (hin.congr_right (fun i hi j hj => (cellF_grid' i hi j hj).symm)) (RowsIn.congr_left hback (fun i hi j hj => (cellF_grid' i hi j hj).symm)) HBACK.out HIN.out
  rw [hgr] at hhy
  have hmm : my = mx := by rw [hmy, HMX.out]
  subst hmm
  have hA4 := holds_new (holds_cons (holds_later HA3.out hb) hhy) #[.int .i64 r, .int .i64 c, .slice (some ⟨gy, 0, none⟩) my my] 24
  have HA4 : Hid _ := hA4
  have hw4 := HW3.out.trans (hb.mono HW3.out.size)
  have HW4 : Hid (Below w.heap.size w (w4.alloc (.cells #[.int .i64 r, .int .i64 c, .slice (some ⟨gy, 0, none⟩) my my] 24))) := hw4.alloc hw4.size _
  have HRQ : Hid _ := rowI_alloc (rowJ_nat hown) (.cells #[.int .i64 r, .int .i64 c, .slice (some ⟨gy, 0, none⟩) my my] 24)
  have HRP4 : Hid _ := rowI_alloc (rowI_below HRP.out hb) (.cells #[.int .i64 r, .int .i64 c, .slice (some ⟨gy, 0, none⟩) my my] 24)
  clear hb hmy hown hred hin hback hhy hA4 hw4 hgr HA3 HW3 HRP c1 c2 c3
  have c1 := cellAt (holds_at HA4.out 2 rfl) 0 _ rfl
  have c2 := cellAt (holds_at HA4.out 2 rfl) 1 _ rfl
  have c3 := cellAt (holds_at HA4.out 2 rfl) 2 _ rfl
  have b1 := cellAt (holds_at HA4.out 0 rfl) 0 _ rfl
  have b2 := cellAt (holds_at HA4.out 0 rfl) 1 _ rfl
  have b3 := cellAt (holds_at HA4.out 0 rfl) 2 _ rfl
  have hgl : my = (grid c R r).length := by rw [grid_len]; exact HMX.out
  have HGL : Hid _ := hgl
  clear hgl
  go_wp2_with fail
  refine Calls.mono (same_F r c (some ⟨gx, 0, none⟩) (some ⟨gy, 0, none⟩) my my my my (grid c R r) (grid c R r) _ HGL.out HGL.out (holds_row HA4.out 3 rfl) (holds_row HA4.out 1 rfl)) ?_
  rw [eqB_true]
  rintro e w5 ⟨rfl, hb⟩
  have HA5 : Hid _ := holds_later HA4.out hb
  have HW5 : Hid (Below w.heap.size w w5) := HW4.out.trans (hb.mono HW4.out.size)
  have HRQ5 : Hid _ := rowI_below HRQ.out hb
  have HRP5 : Hid _ := rowI_below HRP4.out hb
  clear hb HA4 HW4 HRQ HRP4 c1 c2 c3 b1 b2 b3
  go_wp2_with fail
  refine Calls.mono (sameInts_F ap aq q.length cp q.length cq (natJ q) (natJ q) _ (natJ_len _).symm (natJ_len _).symm (by omega) (by omega) HRP5.out HRQ5.out) ?_
  rw [eqI_true]
  rintro e w6 ⟨rfl, hb⟩
  have HA6 : Hid _ := holds_later HA5.out hb
  have HW6 : Hid (Below w.heap.size w w6) := HW5.out.trans (hb.mono HW5.out.size)
  have HRP6 : Hid _ := rowI_below HRP5.out hb
  clear hb HA5 HW5 HRQ5 HRP5
  have c1 := cellAt (holds_at HA6.out 4 rfl) 0 _ rfl
  have hrne : ((r : Int) == 0) = false := by simp; omega
  have hir : ∀ x : Int, ∃ k : Nat, k < r ∧ wrap64 (x.tmod r + r) = x.tmod r + r ∧ (x.tmod r + r).tmod r = k := fun x => by
    have h1 := Int.tmod_lt_of_pos x (b := r) (by omega)
    have h2 := Int.tmod_lt_of_pos (-x) (b := r) (by omega)
    rw [Int.neg_tmod] at h2
    have hq : 0 ≤ x.tmod r + r := by omega
    have e0 : (x.tmod r + r).tmod r = (x.tmod r + r) % r := Int.tmod_eq_emod_of_nonneg hq
    have h3 : 0 ≤ (x.tmod r + r) % r := Int.emod_nonneg _ (by omega)
    have h4 : (x.tmod r + r) % r < r := Int.emod_lt_of_pos _ (by omega)
    obtain ⟨k, hk⟩ := Int.eq_ofNat_of_zero_le h3
    exact ⟨k, by omega, by unfold wrap64; omega, by rw [e0, hk]⟩
  obtain ⟨ka, hka, ea1, ea2⟩ := hir ia
  obtain ⟨kb, hkb, eb1, eb2⟩ := hir ib
  clear hir
  go_upto_region 9 with fail
  go_cut [1, 2] (fun s1 s2 wx => s1 = .int .i64 ka ∧ s2 = .int .i64 kb ∧ wx = w6.drew)
  case first => as_aux_lemma =>
    go_region
    go_wp2
    go_meet
    exact ⟨rfl, rfl, rfl⟩
  case rest =>
  obtain ⟨rfl, rfl, rfl⟩ := hcut
  clear ea1 ea2 eb1 eb2 hrne
  by_cases hab : ka = kb
  · subst hab
    go_wp2
    go_ret
    exact ⟨rfl, HW6.out.drew⟩
  have hne : ((ka : Int) == (kb : Int)) = false := by simp; omega
  have HAB : Hid _ := hab
  clear hab
  have HA6' : Hid (Holds w6.drew _) := HA6.out
  have HW6' : Hid (Below w.heap.size w w6.drew) := HW6.out.drew
  have HRP6' : Hid (RowI w6.drew ap (natJ q)) := HRP6.out
  have c1' : w6.drew.cell? ⟨w.heap.size, 0, none⟩ = some (.int .i64 r) := c1
  clear HA6 HW6 HRP6 c1
  generalize w6.drew = w6' at *
  have c2 := cellAt (holds_at HA6'.out 4 rfl) 1 _ rfl
  have c3 := cellAt (holds_at HA6'.out 4 rfl) 2 _ rfl
  go_wp2_with fail
  refine Calls.mono (in3_F r c l cap a xs _ (by rw [HL.out, HXL.out]) (by have := mul_small hr hc; have := HL.out; have e : (r : Int) * (c : Int) = ((r * c : Nat) : Int) := by simp
                                                                          omega) (row8_below HX.out HW6'.out) HNA.out) ?_
  rintro e w7 ⟨gz, rfl, hgz, hhz, hb⟩
  have hA7 := holds_later HA6'.out hb
  have hw7 := HW6'.out.trans (hb.mono HW6'.out.size)
  have hA8 := holds_new (holds_cons hA7 hhz) #[.int .i64 r, .int .i64 c, .slice (some ⟨gz, 0, none⟩) l (l + 6)] 24
  have HA8 : Hid _ := hA8
  have HW8 : Hid (Below w.heap.size w (w7.alloc (.cells #[.int .i64 r, .int .i64 c, .slice (some ⟨gz, 0, none⟩) l (l + 6)] 24))) := hw7.alloc hw7.size _
  have HRP8 : Hid _ := rowI_alloc (rowI_below HRP6'.out hb) (.cells #[.int .i64 r, .int .i64 c, .slice (some ⟨gz, 0, none⟩) l (l + 6)] 24)
  have zz := ltHeap hhz
  have z6 : ∀ k o, w6'.heap[k]? = some o → k < gz := fun k o h => Nat.lt_of_lt_of_le (ltHeap h) hgz
  have zb := z6 _ _ (holds_at HA6'.out 4 rfl)
  have zx := z6 _ _ (holds_at HA6'.out 3 rfl)
  have zxb := z6 _ _ (holds_at HA6'.out 2 rfl)
  clear hb hA7 hw7 hA8 hhz hgz z6 HA6' HW6' HRP6' c1' c2 c3
  have h0z : w.heap.size ≤ gz := by omega
  go_wp2
  generalize hZ : w7.heap.size = Z at *
  generalize (w7.alloc (.cells #[.int .i64 r, .int .i64 c, .slice (some ⟨gz, 0, none⟩) l (l + 6)] 24)) = W8 at *
  clear hZ
  go_loopw [14] (fun i wr => ∃ j : Nat, j ≤ c ∧ i = .int .i64 j ∧ W8.grownBy wr (some gz) ∧ wr.heap[gz]? = some (.cells (vfs (grid c (againP ka kb (cellF c xs) j) r ++ marks)) 5 (0, 0))) (fun i _ => c - (intOf i).toNat)
  case atStart =>
    refine ⟨0, by omega, rfl, World.grownBy.refl _ _, ?_⟩
    have e : grid c (againP ka kb (cellF c xs) 0) r = xs := by
      rw [grid_congr (g := fun i j => at8 xs (i * c + j)) (fun i j _ _ => by simp [againP, cellF])]
      exact (grid_of HXL.out).symm
    rw [e]; exact holds_at HA8.out 1 rfl
  case round =>
    obtain ⟨j, hj, rfl, hgb, hs⟩ := hrel
    have HGB : Hid _ := hgb
    have HSS : Hid _ := hs
    have k0 := grown_block hgb (holds_at HA8.out 6 rfl) (by omega)
    have c1 := cellAt k0 1 _ rfl
    by_cases hlt : j < c
    · have kz := grown_block hgb (holds_at HA8.out 0 rfl) (by omega)
      have c3 := cellAt kz 2 _ rfl
      obtain ⟨pa, hpa⟩ : ∃ p, p = ka * c := ⟨_, rfl⟩
      obtain ⟨pb, hpb⟩ : ∃ p, p = kb * c := ⟨_, rfl⟩
      have m1 : (ka : Int) * (c : Int) = (pa : Int) := by rw [hpa]; simp
      have m2 : (kb : Int) * (c : Int) = (pb : Int) := by rw [hpb]; simp
      have ha1 := place_lt (c := c) hka hlt
      have hb1 := place_lt (c := c) hkb hlt
      rw [← hpa] at ha1
      rw [← hpb] at hb1
      have hl1 : pa + j < l := by rw [HL.out]; exact ha1
      have hl2 : pb + j < l := by rw [HL.out]; exact hb1
      have hl4 : l ≤ 4096 := by have := mul_small hr hc; have := HL.out; have e : (r : Int) * (c : Int) = ((r * c : Nat) : Int) := by simp
                                omega
      have hgl : (grid c (againP ka kb (cellF c xs) j) r).length = r * c := grid_len _ _ _
      have ea : at8 (grid c (againP ka kb (cellF c xs) j) r ++ marks) (pa + j) = cellF c xs ka j := by
        rw [at8_left (by rw [hgl]; exact ha1), hpa, at8_grid hka hlt]; simp [againP]
      have eb : at8 (grid c (againP ka kb (cellF c xs) j) r ++ marks) (pb + j) = cellF c xs kb j := by
        rw [at8_left (by rw [hgl]; exact hb1), hpb, at8_grid hkb hlt]; simp [againP]
      have hll : (grid c (againP ka kb (cellF c xs) j) r ++ marks).length = r * c + 6 := by rw [List.length_append, hgl]; rfl
      have c4 := cellAt hs (pa + j) _ (vfs_get _ _ (by rw [hll]; omega))
      have c5 := cellAt hs (pb + j) _ (vfs_get _ _ (by rw [hll]; omega))
      rw [ea] at c4
      rw [eb] at c5
      have hxor := xor_val (cellF c xs ka j) (cellF c xs kb j)
      have d4 : wr.frozen? ⟨gz, pa + j, none⟩ = false := frozen_of_row _ _ _ _ _ hs
      have hs1 : (wr.setCell ⟨gz, pa + j, none⟩ (.int .u8 ((cellF c xs kb j).toNat : Int))).heap[gz]? = some (.cells (vfs ((grid c (againP ka kb (cellF c xs) j) r ++ marks).set (pa + j) (cellF c xs kb j))) 5 (0, 0)) := by
        rw [heap_setCell_same _ _ _ _ _ _ hs, vfs_set]
      have d5 : (wr.setCell ⟨gz, pa + j, none⟩ (.int .u8 ((cellF c xs kb j).toNat : Int))).frozen? ⟨gz, pb + j, none⟩ = false := frozen_of_row _ _ _ _ _ hs1
      have c6 := cellAt hs1 (pb + j) _ (vfs_get _ _ (by rw [List.length_set, hll]; omega))
      have HT : Hid ((((grid c (againP ka kb (cellF c xs) j) r ++ marks).set (pa + j) (cellF c xs kb j)).set (pb + j) (ga (cellF c xs ka j) (cellF c xs kb j))) = grid c (againP ka kb (cellF c xs) (j + 1)) r ++ marks) := by
        show _ = _
        rw [set_front (by rw [hgl]; exact ha1), set_front (by rw [List.length_set, hgl]; exact hb1), hpa, hpb, againP_step _ hka hkb HAB.out hlt]
      have HS1 : Hid _ := hs1
      clear hs hs1 hgb k0 kz hpa hpb ha1 hb1 hgl ea eb hll
      generalize hxa : pa + j = xa at *
      generalize hxb : pb + j = xb at *
      have n1 : (pa : Int) + j = xa := by omega
      have n2 : (pb : Int) + j = xb := by omega
      have w1 : IntKind.i64.wrap (pa : Int) = pa := IntWalk.i64_in _ (by omega)
      have w2 : IntKind.i64.wrap (pb : Int) = pb := IntWalk.i64_in _ (by omega)
      have w3 : IntKind.i64.wrap (xa : Int) = xa := IntWalk.i64_in _ (by omega)
      have w4 : IntKind.i64.wrap (xb : Int) = xb := IntWalk.i64_in _ (by omega)
      have i1 : (xa : Int) < l + 6 := by omega
      have i2 : (xb : Int) < l + 6 := by omega
      have i3 : (xa : Int) < l := by omega
      have i4 : (xb : Int) < l := by omega
      clear hxa hxb
      go_wp2
      go_region
      go_wp2
      go_region
      go_wp2
      refine ⟨⟨j + 1, by omega, by go_num, grownBy_drew (grownBy_setCell (grownBy_setCell (grownBy_drew HGB.out) _) _), ?_⟩, by simp [intOf]; omega⟩
      show ((wr.setCell _ _).setCell _ _).heap[gz]? = _
      rw [heap_setCell_same _ _ _ _ _ _ HS1.out, vfs_set, HT.out]
    · obtain rfl : j = c := by omega
      have hgr : grid j (againP ka kb (cellF j xs) j) r = grid j (againF ka kb (cellF j xs)) r := grid_congr fun i x _ hx => by simp only [againP, if_pos hx]
      rw [hgr] at hs
      have kz := grown_block hgb (holds_at HA8.out 0 rfl) (by omega)
      have hH : Holds wr [(gx, .cells (vfs (grid j R r)) 5 (0, 0)), (w3.heap.size, .cells #[.int .i64 r, .int .i64 j, .slice (some ⟨gx, 0, none⟩) my my] 24 (0, 0))] :=
        holds_cons (holds_cons (holds_nil _) (grown_block hgb (holds_at HA8.out 4 rfl) (by omega))) (grown_block hgb (holds_at HA8.out 5 rfl) (by omega))
      have HH : Hid _ := hH
      have HWr : Hid (Below w.heap.size w wr) := below_grown HW8.out hgb (by omega)
      have hrp : RowI wr ap (natJ q) := by
        rcases HRP8.out with e | ⟨b, off, e, h⟩
        · exact .inl e
        · by_cases h0 : natJ q = []
          · exact .inl h0
          refine .inr ⟨b, off, e, fun k n hk => ?_⟩
          have hc := h k n hk
          have hb : b ≠ gz := by
            intro e2
            rw [e2, cell_of_row W8 gz _ _ _ _ (holds_at HA8.out 1 rfl)] at hc
            exact vfs_kind hc
          rw [← hc]
          have hlt := World.block_lt_of_cell? W8 _ hc
          simp only [World.cell?, hgb.block b hlt (by simpa using hb)]
      have HRP9 : Hid _ := hrp
      have c3 := cellAt kz 0 _ rfl
      have c4 := cellAt kz 1 _ rfl
      have c5 := cellAt kz 2 _ rfl
      have hgl : (grid j (againF ka kb (cellF j xs)) r).length = r * j := grid_len _ _ _
      have HSS2 : Hid _ := hs
      have HGL2 : Hid _ := hgl
      clear hs hgb kz hH hrp hgl hgr k0
      go_wp2_with fail
      refine Calls.mono (reduce_F r j l (l + 6) (some ⟨gz, 0, none⟩) (grid j (againF ka kb (cellF j xs)) r) _ hr hc HL.out HGL2.out (by omega) (row8_front HSS2.out) (fun h => by cases h)) ?_
      rintro e w9 ⟨gw, mw, asv, cs, s, S, rfl, hmw, hgw, hhw, hown, hred, hin, hback, hb⟩
      obtain ⟨rfl, hgr⟩ := red_same HRED.out HIN.out HBACK.out hred hin hback
        (RowsIn.congr_right (againF_back (cellF j xs) j hka hkb HAB.out) fun i hi x hx => cellF_grid' i hi x hx) (RowsIn.congr_left (againF_in (cellF j xs) j hka hkb) fun i hi x hx => cellF_grid' i hi x hx)
      rw [hgr] at hhw
      have hmm : mw = my := by rw [hmw, HMX.out]
      subst hmm
      have hA := holds_new (holds_cons (holds_later HH.out hb) hhw) #[.int .i64 r, .int .i64 j, .slice (some ⟨gw, 0, none⟩) mw mw] 24
      have HA9 : Hid _ := hA
      have hw9 := HWr.out.trans (hb.mono HWr.out.size)
      have HW9 : Hid (Below w.heap.size w (w9.alloc (.cells #[.int .i64 r, .int .i64 j, .slice (some ⟨gw, 0, none⟩) mw mw] 24))) := hw9.alloc hw9.size _
      have HRS : Hid _ := rowI_alloc (rowJ_nat hown) (.cells #[.int .i64 r, .int .i64 j, .slice (some ⟨gw, 0, none⟩) mw mw] 24)
      have HRP10 : Hid _ := rowI_alloc (rowI_below HRP9.out hb) (.cells #[.int .i64 r, .int .i64 j, .slice (some ⟨gw, 0, none⟩) mw mw] 24)
      have hpl : s.length ≤ r := hred.len
      clear hb hmw hown hred hin hback hhw hA hw9 hgr c1 c3 c4 c5
      have c1 := cellAt (holds_at HA9.out 0 rfl) 0 _ rfl
      have c2 := cellAt (holds_at HA9.out 0 rfl) 1 _ rfl
      have c3 := cellAt (holds_at HA9.out 0 rfl) 2 _ rfl
      have b1 := cellAt (holds_at HA9.out 3 rfl) 0 _ rfl
      have b2 := cellAt (holds_at HA9.out 3 rfl) 1 _ rfl
      have b3 := cellAt (holds_at HA9.out 3 rfl) 2 _ rfl
      go_wp2_with fail
      refine Calls.mono (same_F r j (some ⟨gw, 0, none⟩) (some ⟨gx, 0, none⟩) mw mw mw mw (grid j R r) (grid j R r) _ HGL.out HGL.out (holds_row HA9.out 1 rfl) (holds_row HA9.out 2 rfl)) ?_
      rw [eqB_true]
      rintro e wa ⟨rfl, hb⟩
      have HWa : Hid (Below w.heap.size w wa) := HW9.out.trans (hb.mono HW9.out.size)
      have HRSa : Hid _ := rowI_below HRS.out hb
      have HRPa : Hid _ := rowI_below HRP10.out hb
      clear hb HA9 HW9 HRS HRP10 c1 c2 c3 b1 b2 b3
      go_wp2_with fail
      refine Calls.mono (sameInts_F asv ap s.length cs s.length cp (natJ s) (natJ s) _ (natJ_len _).symm (natJ_len _).symm (by omega) (by omega) HRSa.out HRPa.out) ?_
      rw [eqI_true]
      rintro e wb ⟨rfl, hb⟩
      have HWb : Hid (Below w.heap.size w wb) := HWa.out.trans (hb.mono HWa.out.size)
      clear hb HWa HRSa HRPa
      go_wp2
      go_ret
      exact ⟨rfl, HWb.out⟩
set_option maxHeartbeats 2000000 in
theorem again_no (r c : Int) (l cap : Nat) (ia ib : Int) (a : Option Addr) (w : World) (s2 : Addr) (hs2 : w.cell? ⟨2, 0, none⟩ = some (errAt s2)) (h : ¬ (FormOk r c l ∧ r ≠ 0)) :
    Calls Tryd.prog 5 #[.agg #[.int .i64 r, .int .i64 c, .slice a l cap], .int .i64 ia, .int .i64 ib] w fun e w' => e = .returned (.bool true) ∧ Below w.heap.size w w' := by
  have HS2 : Hid _ := hs2
  have H : Hid _ := h
  have HA0 : Hid _ := holds_new (holds_nil w) #[.int .i64 r, .int .i64 c, .slice a l cap] 24
  have HW0 : Hid _ := (Below.refl w.heap.size w).alloc (Nat.le_refl _) (.cells #[.int .i64 r, .int .i64 c, .slice a l cap] 24)
  clear hs2 h
  go_enter Tryd.func5, Tryd.ntmps5
  go_wp2_with fail
  refine Calls.mono (alive3_ok _ s2 (cell_later HW0.out HS2.out)) ?_
  rintro e w1 ⟨rfl, hb⟩
  have HA1 : Hid _ := holds_later HA0.out hb
  have HW1 : Hid (Below w.heap.size w w1) := HW0.out.trans (hb.mono HW0.out.size)
  clear hb HA0 HW0
  have c1 := cellAt (holds_at HA1.out 0 rfl) 0 _ rfl
  have c2 := cellAt (holds_at HA1.out 0 rfl) 1 _ rfl
  have c3 := cellAt (holds_at HA1.out 0 rfl) 2 _ rfl
  by_cases hf : FormOk r c l
  · obtain ⟨n, d, rfl, rfl, hr, hc, hl⟩ := hf.nat
    have hn0 : n = 0 := Classical.byContradiction fun e => H.out ⟨hf, by omega⟩
    have HL : Hid _ := hl
    clear hf H hl
    subst hn0
    go_wp2_with fail
    refine Calls.mono (inForm_yes 0 d a l cap _ hr hc HL.out) ?_
    rintro e w2 ⟨rfl, hb⟩
    have HW2 : Hid (Below w.heap.size w w2) := HW1.out.trans (hb.mono HW1.out.size)
    have d1 := cellAt (holds_at (holds_later HA1.out hb) 0 rfl) 0 _ rfl
    clear hb HA1 HW1 c1 c2 c3
    go_wp2
    go_ret
    exact ⟨rfl, HW2.out⟩
  · have HF : Hid _ := hf
    clear hf H
    go_wp2_with fail
    refine Calls.mono (inForm_no r c a l cap _ HF.out) ?_
    rintro e w2 ⟨rfl, hb⟩
    have HW2 : Hid (Below w.heap.size w w2) := HW1.out.trans (hb.mono HW1.out.size)
    clear hb HA1 HW1 c1 c2 c3
    go_wp2
    go_ret
    exact ⟨rfl, HW2.out⟩
theorem again_walk (r c : Int) (l cap : Nat) (ia ib : Int) (a : Option Addr) (xs : List F) (w : World) (hx : l = xs.length) (hcap : l ≤ cap) (hX : Row8 w a xs) (hna : a = none → cap = 0) (es : List Addr) (hes : ErrsAt w gsSolve es) :
    Calls Tryd.prog 5 #[.agg #[.int .i64 r, .int .i64 c, .slice a l cap], .int .i64 ia, .int .i64 ib] w fun e w' => e = .returned (.bool true) ∧ Below w.heap.size w w' := by
  obtain ⟨s2, _, hs2, _⟩ := errs_at hes 1 2 rfl
  by_cases h : FormOk r c l ∧ r ≠ 0
  · obtain ⟨r', c', rfl, rfl, hr, hc, hl⟩ := h.1.nat
    exact again_yes r' c' l cap ia ib a xs w hr hc (by have := h.2; omega) hl (by omega) hcap hX hna s2 hs2
  · exact again_no r c l cap ia ib a w s2 hs2 h
end Go.Proofs.YtiapclehflflpaaDoor
