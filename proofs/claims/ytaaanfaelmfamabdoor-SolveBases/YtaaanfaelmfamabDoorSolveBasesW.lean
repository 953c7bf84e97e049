/- The walk of the statement SolveBases: it returns true of all matrices. -/
import Derived.Test.YtaaanfaelmfamabDoorSolveRanksW
namespace Go.Proofs.YtaaanfaelmfamabDoor
open Go.RowKit Gf
set_option linter.unusedVariables false
set_option maxRecDepth 20000
theorem pivL_succ (B : Mt) (n i : Nat) : pivL B n (i + 1) = pivL B n i ++ (if @decide (isPiv B n i) (Classical.propDecidable _) then [i] else []) := by
  simp only [pivL, List.range_succ, List.filter_append, List.filter_cons, List.filter_nil]
theorem pivL_more (B : Mt) (n i : Nat) : ∀ d, ∃ rest, pivL B n (i + d) = pivL B n i ++ rest ∧ ∀ x ∈ rest, i ≤ x
  | 0 => ⟨[], by simp, fun x h => by simp at h⟩
  | d + 1 => by
    obtain ⟨rest, h1, h2⟩ := pivL_more B n i d
    rw [← Nat.add_assoc, pivL_succ, h1, List.append_assoc]
    refine ⟨_, rfl, fun x hx => ?_⟩
    rw [List.mem_append] at hx
    rcases hx with hx | hx
    · exact h2 x hx
    · split at hx
      · simp at hx; omega
      · simp at hx
theorem piv_yes {B : Mt} {n i r : Nat} (hi : i < r) (h : isPiv B n i) : (pivL B n r)[(pivL B n i).length]? = some i ∧ (pivL B n (i + 1)).length = (pivL B n i).length + 1 := by
  have e1 : pivL B n (i + 1) = pivL B n i ++ [i] := by rw [pivL_succ, if_pos (by simpa using h)]
  obtain ⟨rest, h1, _⟩ := pivL_more B n (i + 1) (r - (i + 1))
  rw [show i + 1 + (r - (i + 1)) = r by omega, e1] at h1
  constructor
  · rw [h1, List.append_assoc, List.getElem?_append_right (Nat.le_refl _), Nat.sub_self]; rfl
  · rw [e1]; simp
theorem piv_no {B : Mt} {n i r : Nat} (hi : i < r) (h : ¬ isPiv B n i) : (∀ x, (pivL B n r)[(pivL B n i).length]? = some x → x ≠ i) ∧ (pivL B n (i + 1)).length = (pivL B n i).length := by
  have e1 : pivL B n (i + 1) = pivL B n i := by rw [pivL_succ, if_neg (by simpa using h), List.append_nil]
  obtain ⟨rest, h1, h2⟩ := pivL_more B n (i + 1) (r - (i + 1))
  rw [show i + 1 + (r - (i + 1)) = r by omega, e1] at h1
  refine ⟨fun x hx => ?_, by rw [e1]⟩
  rw [h1, List.getElem?_append_right (Nat.le_refl _), Nat.sub_self] at hx
  have := h2 x (List.mem_of_getElem? hx)
  omega
theorem cellF_front {c n : Nat} {A : Mt} : ∀ i, i < c → ∀ j, j < n → tr (cellF c (grid c (fun k j => A ((List.range n).getD k 0) j) n)) i j = tr A i j := fun i hi j hj => by
  simp only [tr]
  rw [cellF_grid j hj i hi]
  simp [List.getD, hj]
set_option maxHeartbeats 16000000 in
theorem bases_yes (r c l cap : Nat) (a : Option Addr) (xs : List F) (w : World) (hr : r ≤ 64) (hc : c ≤ 64) (hl : l = r * c) (hx : xs.length = r * c) (hcap : l ≤ cap) (hX : Row8 w a xs) (hna : a = none → cap = 0)
    (s2 s3 : Addr) (hs2 : w.cell? ⟨2, 0, none⟩ = some (errAt s2)) (hs3 : w.cell? ⟨1, 0, none⟩ = some (errAt s3)) :
    Calls Tryd.prog 4 #[.agg #[.int .i64 r, .int .i64 c, .slice a l cap]] w fun e w' => e = .returned (.bool true) ∧ Below w.heap.size w w' := by
  have HL : Hid _ := hl
  have HXL : Hid _ := hx
  have HX : Hid (Row8 w a xs) := hX
  have HNA : Hid _ := hna
  have HS2 : Hid _ := hs2
  have HS3 : Hid _ := hs3
  have HA0 : Hid _ := holds_new (holds_nil w) #[.int .i64 r, .int .i64 c, .slice a l cap] 24
  have HW0 : Hid _ := (Below.refl w.heap.size w).alloc (Nat.le_refl _) (.cells #[.int .i64 r, .int .i64 c, .slice a l cap] 24)
  clear hl hx hX hna hs2 hs3
  go_enter Tryd.func4, Tryd.ntmps4
  go_wp2_with fail
  refine Calls.mono (alive3_ok _ s2 (cell_later HW0.out HS2.out)) ?_
  rintro e w1 ⟨rfl, hb⟩
  have HA1 : Hid _ := holds_later HA0.out hb
  have HW1 : Hid (Below w.heap.size w w1) := HW0.out.trans (hb.mono HW0.out.size)
  clear hb HA0 HW0
  have c1 := cellAt (holds_at HA1.out 0 rfl) 0 _ rfl
  have c2 := cellAt (holds_at HA1.out 0 rfl) 1 _ rfl
  have c3 := cellAt (holds_at HA1.out 0 rfl) 2 _ rfl
  go_wp2_with fail
  refine Calls.mono (inForm_yes r c a l cap _ hr hc HL.out) ?_
  rintro e w2 ⟨rfl, hb⟩
  have HA2 : Hid _ := holds_later HA1.out hb
  have HW2 : Hid (Below w.heap.size w w2) := HW1.out.trans (hb.mono HW1.out.size)
  clear hb HA1 HW1 c1 c2 c3
  have c1 := cellAt (holds_at HA2.out 0 rfl) 0 _ rfl
  have c2 := cellAt (holds_at HA2.out 0 rfl) 1 _ rfl
  have c3 := cellAt (holds_at HA2.out 0 rfl) 2 _ rfl
  go_wp2_with fail
  refine Calls.mono (basis_F r c l cap a xs _ hr hc HL.out HXL.out hcap (row8_below HX.out HW2.out) HNA.out) ?_
  rintro e w3 ⟨av, cv, rfl, hown, hb⟩
  have hA3 := holds_later HA2.out hb
  have hW3 := HW2.out.trans (hb.mono HW2.out.size)
  have HA4 : Hid _ := holds_new hA3 #[] 3
  have HW4 : Hid (Below w.heap.size w (w3.alloc (.cells #[] 3))) := hW3.alloc hW3.size _
  have zM : w.heap.size ≤ w3.heap.size := hW3.size
  have zB : w.heap.size < w3.heap.size := ltHeap (holds_at hA3 0 rfl)
  generalize hP : pivL (tr (cellF c xs)) c r = p at *
  have HLIST : Hid (∀ (k j : Nat), p[k]? = some j → ∃ g, av = some ⟨g, 0, none⟩ ∧ g < w3.heap.size ∧ (w3.alloc (.cells #[] 3)).cell? ⟨g, k, none⟩ = some (.int .i64 j)) := fun k j h => by
    obtain ⟨g, e, hg, hc⟩ := own_nat hown h
    exact ⟨g, e, hg, cell?_alloc_old _ hc⟩
  clear hb hown hA3 hW3 HA2 HW2 c1 c2 c3
  have HP : Hid _ := hP
  clear hP
  go_wp2
  generalize hM : w3.heap.size = M at *
  generalize (w3.alloc (.cells #[] 3)) = W4 at *
  clear hM
  go_loopw [5, 6, 7] (fun v t i wr => ∃ k : Nat, k ≤ r ∧ i = .int .i64 k ∧ t = .int .i64 (pivL (tr (cellF c xs)) c k).length ∧ Below M W4 wr ∧ wr.ownsRow M 3 1 v k (natV (List.range k))) (fun _ _ i _ => r - (intOf i).toNat)
  case atStart => exact ⟨0, by omega, rfl, rfl, Below.refl _ _, ⟨rfl, .inr ⟨M, 0, #[], rfl, Nat.le_refl _, holds_at HA4.out 0 rfl, Nat.le_refl _, by decide, rfl, rfl⟩⟩⟩
  case round =>
    obtain ⟨k, hk, rfl, rfl, hbw, hown⟩ := hrel
    obtain ⟨aa, ca, rfl⟩ := own_shape hown
    have hbox := (hbw.block w.heap.size zB).trans (holds_at HA4.out 1 rfl)
    have hWr : Below w.heap.size w wr := HW4.out.trans (hbw.mono zM)
    have HWR : Hid _ := hWr
    have HBW : Hid _ := hbw
    have HBOX : Hid _ := hbox
    have HOWN : Hid _ := hown
    have zWr := hbw.size
    clear hWr hbw hbox hown
    have c1 := cellAt HBOX.out 0 _ rfl
    by_cases hlt : k < r
    · have c2 := cellAt HBOX.out 1 _ rfl
      have c3 := cellAt HBOX.out 2 _ rfl
      have hri : RowI wr aa (natI (List.range k)) := rowI_nat (B := M) (cap := ca) (by rw [List.length_range]; exact HOWN.out)
      have HRI : Hid _ := hri
      clear hri
      go_wp2_with fail
      refine Calls.mono (take_F r c l cap k ca a aa xs (natI (List.range k)) _ hr hc HL.out HXL.out hcap (row8_below HX.out HWR.out) HNA.out (by rw [natI_len, List.length_range]) (by omega) HRI.out s3 (cell_later HWR.out HS3.out)) ?_
      rintro e w5 (⟨_, gs, ms, rfl, hms, hgs, hhs, hb⟩ | ⟨hno, _⟩)
      rotate_left
      · refine absurd (fun n hn => ?_) hno
        obtain ⟨x, hx, rfl⟩ := List.mem_map.1 hn
        have := List.mem_range.1 hx
        omega
      rw [takeM_grid c xs _ HXL.out (r := r) (fun x hx => by have := List.mem_range.1 hx; omega), List.length_range] at hhs
      have HMS : Hid _ := hms
      have hA5 := holds_new (holds_cons (holds_cons (holds_nil _) hhs) (heap_later HBOX.out hb)) #[.int .i64 k, .int .i64 c, .slice (some ⟨gs, 0, none⟩) ms ms] 24
      have HA5 : Hid _ := hA5
      have h5 : Below wr.heap.size wr (w5.alloc (.cells #[.int .i64 k, .int .i64 c, .slice (some ⟨gs, 0, none⟩) ms ms] 24)) := hb.alloc hb.size _
      have H5 : Hid _ := h5
      clear hb hms hhs hA5 h5 c1 c2 c3 HRI
      have c1 := cellAt (holds_at HA5.out 1 rfl) 0 _ rfl
      have c2 := cellAt (holds_at HA5.out 1 rfl) 1 _ rfl
      have c3 := cellAt (holds_at HA5.out 1 rfl) 2 _ rfl
      go_wp2_with fail
      refine Calls.mono (row_F r c l cap k a xs _ hr hc HL.out HXL.out hcap (row8_below HX.out (HWR.out.trans (H5.out.mono HWR.out.size))) HNA.out hlt) ?_
      rintro e w6 ⟨a6, cap6, rfl, hr6, hn6, hh6, hb⟩
      have hc6 : c ≤ cap6 := by
        by_cases ha : a = none
        · have h0 := HNA.out ha
          have h1 := HL.out
          have : c = 0 := by
            rcases Nat.eq_zero_or_pos c with e | e
            · exact e
            · have := Nat.mul_pos (show 0 < r by omega) e; omega
          omega
        · obtain ⟨g, _, _, cur, _, _, h3, _⟩ := hh6 ha
          rwa [rowAt_len HXL.out hlt] at h3
      have HR6 : Hid _ := hr6
      have HN6 : Hid _ := hn6
      have HA6 : Hid _ := holds_later HA5.out hb
      have h6 : Below wr.heap.size wr w6 := H5.out.trans (hb.mono H5.out.size)
      have H6 : Hid _ := h6
      clear hb hr6 hn6 hh6 h6 HA5 H5 c1 c2 c3
      have c1 := cellAt (holds_at HA6.out 0 rfl) 0 _ rfl
      have c2 := cellAt (holds_at HA6.out 0 rfl) 1 _ rfl
      have c3 := cellAt (holds_at HA6.out 0 rfl) 2 _ rfl
      have hrl : (rowAt c xs k).length = c := rowAt_len HXL.out hlt
      have HRL : Hid _ := hrl
      clear hrl
      go_wp2_with fail
      refine Calls.mono (express_F k c ms ms c cap6 (some ⟨gs, 0, none⟩) a6 _ (rowAt c xs k) _ (by omega) hc HMS.out (by rw [grid_len]) (Nat.le_refl _) (holds_row HA6.out 2 rfl) rfl HRL.out hc6 HR6.out HN6.out) ?_
      have eR : ∀ j, j < c → at8 (rowAt c xs k) j = tr (cellF c xs) j k := fun j hj => at8_rowAt hj
      have hdep : Dep (tr (cellF c (grid c (fun k_1 j => cellF c xs ((List.range k).getD k_1 0) j) k))) c k (at8 (rowAt c xs k)) ↔ ¬ isPiv (tr (cellF c xs)) c k := by
        rw [isPiv, Classical.not_not]
        constructor
        · rintro ⟨x, hx⟩
          exact ⟨x, fun i hi => by
            show tr (cellF c xs) i k = _
            rw [← eR i hi, hx i hi]; exact sumF_congr fun j hj => by rw [cellF_front i hi j hj]⟩
        · rintro ⟨x, hx⟩
          exact ⟨x, fun i hi => by rw [eR i hi]; refine (hx i hi).trans (sumF_congr fun j hj => by rw [cellF_front i hi j hj])⟩
      have HDEP : Hid _ := hdep
      clear hdep eR
      -- what stands at the end of a round
      have hend : ∀ w7, Below w6.heap.size w6 w7 → ∃ g2 cap2 w8, (Builtin.append_ #[27, 27] 27 #[.slice aa k ca, .slice (some ⟨w7.heap.size, 0, none⟩) 1 1]).run Tryd.prog (w7.alloc (.cells #[.int .i64 k] 3)) = .ok (.slice (some ⟨g2, 0, none⟩) (k + 1) cap2) w8 ∧
          w8.ownsRow M 3 1 (.slice (some ⟨g2, 0, none⟩) (k + 1) cap2) (k + 1) (natV (List.range (k + 1))) ∧ Below M W4 w8 := fun w7 hb => by
        have h7 := H6.out.trans (hb.mono H6.out.size)
        have ho := (own_below HOWN.out h7).alloc (.cells #[.int .i64 k] 3)
        have hsz := h7.size
        have hM : M ≤ wr.heap.size := Nat.le_trans (by have := ltHeap (holds_at HA4.out 0 rfl); omega) zWr
        obtain ⟨g2, cap2, w8, hrun, ho3, hgr, hor, hlt2⟩ := appendI (b := w7.heap.size) (c := 1) (x := (k : Int)) 27 ho (cellAt (heap_alloc_last w7 (.cells #[.int .i64 k] 3)) 0 _ rfl) (by omega) (by simp; omega)
        rw [natV_snoc, ← List.range_succ] at ho3
        exact ⟨g2, cap2, w8, hrun, ho3, below_own ((HBW.out.trans (h7.mono hM)).alloc (by omega) _) ho hgr (by simp; omega)⟩
      have HEND : Hid _ := hend
      clear hend
      rintro e w7 (⟨gx, x, rfl, _, _, hsol, hb⟩ | ⟨rfl, hno, hb⟩)
      · -- a combination of the rows ahead
        have hnp : ¬ isPiv (tr (cellF c xs)) c k := HDEP.out.1 ⟨x, hsol.sol⟩
        obtain ⟨hat, hlen⟩ := piv_no hlt hnp
        rw [HP.out] at hat
        obtain ⟨g2, cap2, w8, hrun, ho3, hb8⟩ := HEND.out w7 hb
        have h7 := H6.out.trans (hb.mono H6.out.size)
        have HRun : Hid _ := hrun
        have HO3 : Hid _ := ho3
        have HB8 : Hid _ := hb8
        have HLEN : Hid _ := hlen
        have HAT : Hid _ := hat
        clear hb hsol hrun ho3 hb8 hnp hlen hat c1 c2 c3
        by_cases hin : (pivL (tr (cellF c xs)) c k).length < p.length
        · obtain ⟨g, rfl, hg, hcc⟩ := HLIST.out _ _ (List.getElem?_eq_getElem hin)
          have hne := HAT.out _ (List.getElem?_eq_getElem hin)
          generalize hy : p[(pivL (tr (cellF c xs)) c k).length] = y at *
          have c4 : w7.cell? ⟨g, (pivL (tr (cellF c xs)) c k).length, none⟩ = some (.int .i64 y) := by
            have hM : M ≤ wr.heap.size := Nat.le_trans (by have := ltHeap (holds_at HA4.out 0 rfl); omega) zWr
            have hbb := HBW.out.trans (h7.mono hM)
            rw [← hcc]; simp only [World.cell?, hbb.block g hg]
          have hne2 : ((y : Int) == (k : Int)) = false := by simp; omega
          clear hcc hy h7 hne
          go_wp2_with (at_builtin; refine wpList_append_run rfl _ _ 27 rfl _ _ _ _ rfl rfl HRun.out ?_)
          exact ⟨⟨k + 1, by omega, by go_num, by rw [HLEN.out], HB8.out, HO3.out⟩, by simp [intOf]; omega⟩
        · clear h7
          go_wp2_with (at_builtin; refine wpList_append_run rfl _ _ 27 rfl _ _ _ _ rfl rfl HRun.out ?_)
          exact ⟨⟨k + 1, by omega, by go_num, by rw [HLEN.out], HB8.out, HO3.out⟩, by simp [intOf]; omega⟩
      · -- a row of the basis
        have hnp : isPiv (tr (cellF c xs)) c k := Classical.byContradiction fun h => hno (HDEP.out.2 h)
        obtain ⟨hat, hlen⟩ := piv_yes hlt hnp
        rw [HP.out] at hat
        obtain ⟨g2, cap2, w8, hrun, ho3, hb8⟩ := HEND.out w7 hb
        have h7 := H6.out.trans (hb.mono H6.out.size)
        have hin := (List.getElem?_eq_some_iff.1 hat).1
        obtain ⟨g, rfl, hg, hcc⟩ := HLIST.out _ _ hat
        have c4 : w7.cell? ⟨g, (pivL (tr (cellF c xs)) c k).length, none⟩ = some (.int .i64 k) := by
          have hM : M ≤ wr.heap.size := Nat.le_trans (by have := ltHeap (holds_at HA4.out 0 rfl); omega) zWr
          have hbb := HBW.out.trans (h7.mono hM)
          rw [← hcc]; simp only [World.cell?, hbb.block g hg]
        have HRun : Hid _ := hrun
        have HO3 : Hid _ := ho3
        have HB8 : Hid _ := hb8
        have HLEN : Hid _ := hlen
        clear hb hno hrun ho3 hb8 hnp hlen hat hcc h7 c1 c2 c3
        have hbd := pivL_le (tr (cellF c xs)) c k
        go_wp2_with (at_builtin; refine wpList_append_run rfl _ _ 27 rfl _ _ _ _ rfl rfl HRun.out ?_)
        exact ⟨⟨k + 1, by omega, by go_num, by rw [HLEN.out]; go_num, HB8.out, HO3.out⟩, by simp [intOf]; omega⟩
    · obtain rfl : k = r := by omega
      rw [HP.out]
      go_wp2
      go_ret
      exact ⟨rfl, HWR.out⟩
theorem bases_no (r c : Int) (l cap : Nat) (a : Option Addr) (w : World) (s2 : Addr) (hs2 : w.cell? ⟨2, 0, none⟩ = some (errAt s2)) (h : ¬ FormOk r c l) :
    Calls Tryd.prog 4 #[.agg #[.int .i64 r, .int .i64 c, .slice a l cap]] w fun e w' => e = .returned (.bool true) ∧ Below w.heap.size w w' := by
  have HS2 : Hid _ := hs2
  have H : Hid _ := h
  have HA0 : Hid _ := holds_new (holds_nil w) #[.int .i64 r, .int .i64 c, .slice a l cap] 24
  have HW0 : Hid _ := (Below.refl w.heap.size w).alloc (Nat.le_refl _) (.cells #[.int .i64 r, .int .i64 c, .slice a l cap] 24)
  clear hs2 h
  go_enter Tryd.func4, Tryd.ntmps4
  go_wp2_with fail
  refine Calls.mono (alive3_ok _ s2 (cell_later HW0.out HS2.out)) ?_
  rintro e w1 ⟨rfl, hb⟩
  have HA1 : Hid _ := holds_later HA0.out hb
  have HW1 : Hid (Below w.heap.size w w1) := HW0.out.trans (hb.mono HW0.out.size)
  clear hb HA0 HW0
  have c1 := cellAt (holds_at HA1.out 0 rfl) 0 _ rfl
  have c2 := cellAt (holds_at HA1.out 0 rfl) 1 _ rfl
  have c3 := cellAt (holds_at HA1.out 0 rfl) 2 _ rfl
  go_wp2_with fail
  refine Calls.mono (inForm_no r c a l cap _ H.out) ?_
  rintro e w2 ⟨rfl, hb⟩
  have HW2 : Hid (Below w.heap.size w w2) := HW1.out.trans (hb.mono HW1.out.size)
  clear hb HA1 HW1 c1 c2 c3
  go_wp2
  go_ret
  exact ⟨rfl, HW2.out⟩
theorem bases_walk (r c : Int) (l cap : Nat) (a : Option Addr) (xs : List F) (w : World) (hx : l = xs.length) (hcap : l ≤ cap) (hX : Row8 w a xs) (hna : a = none → cap = 0) (es : List Addr) (hes : ErrsAt w gsSolve es) :
    Calls Tryd.prog 4 #[.agg #[.int .i64 r, .int .i64 c, .slice a l cap]] w fun e w' => e = .returned (.bool true) ∧ Below w.heap.size w w' := by
  obtain ⟨s2, _, hs2, _⟩ := errs_at hes 1 2 rfl
  obtain ⟨s3, _, hs3, _⟩ := errs_at hes 2 1 rfl
  by_cases h : FormOk r c l
  · obtain ⟨r', c', rfl, rfl, hr, hc, hl⟩ := h.nat
    exact bases_yes r' c' l cap a xs w hr hc hl (by omega) hcap hX hna s2 s3 hs2 hs3
  · exact bases_no r c l cap a w s2 hs2 h
end Go.Proofs.YtaaanfaelmfamabDoor
