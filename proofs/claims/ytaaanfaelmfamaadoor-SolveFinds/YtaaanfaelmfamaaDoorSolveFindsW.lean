/- The walk of the statement SolveFinds: it returns true of all matrices and lists. -/
import Derived.Test.YtaaanfaelmfamaaDoorSolveA
import Derived.Test.YtaaanfaelmfamaaDoorMatS
import Derived.Test.YtaaanfaelmfamaaDoorErrs
namespace Go.Proofs.YtaaanfaelmfamaaDoor
open Go.RowKit Gf
set_option linter.unusedVariables false
set_option maxRecDepth 20000
/-- copy into fresh noughts: as many as go in -/
theorem run_copyN (g n c : Nat) (a : Option Addr) (la ca : Nat) (vs : List F) (w : World) (ty : TypeId) (hla : la = vs.length) (hg : w.heap[g]? = some (.cells (vfs (zeros n)) 5 (0, 0))) (hx : Row8 w a vs) :
    (Builtin.copy_ #[22, 22] ty #[.slice (some ⟨g, 0, none⟩) n c, .slice a la ca]).run Tryd.prog w = .ok (goInt ((min la n : Nat) : Int)) (w.setRow g (vfs (rowF n (at8 vs)))) := by
  have hs : (Tryd.prog.info? 5).map (·.size) = some 1 := by kernel_rfl
  subst hla
  have e : vs.take n ++ (zeros n).drop (vs.take n).length = rowF n (at8 vs) := rowF_eq (by simp [zeros_len]; omega) fun j hj => by
    by_cases h : j < vs.length
    · rw [at8_left (by simp; omega), at8_take hj]
    · rw [at8_right (by simp; omega), at8_drop, at8_zeros, at8_over (by omega)]
  rcases hx with rfl | ⟨b, off, rfl, hx⟩
  · have e1 : min ([] : List F).length n = 0 := by simp
    rw [e1, ← e]
    rw [run_copy_none w _ _ _ _ _ _ _ _ _ _ Tryd.underlying22 hs (by simp)]
    simp only [List.take_nil, List.length_nil, List.drop_zero, List.nil_append]
    rw [setRow_self w g _ _ _ hg]
    rfl
  · have := run_copy_row (P := Tryd.prog) w 22 22 ty 5 g 0 n c ⟨b, off, none⟩ vs.length ca (vfs (zeros n)) 5 ((vs.take n).map vf) Tryd.underlying22 hs hg
      (by show _ = min _ _; rw [List.length_map, List.length_take]; omega) (fun j v hv => by
        simp only [List.getElem?_map, Option.map_eq_some_iff] at hv
        obtain ⟨x, hx1, rfl⟩ := hv
        have hj : j < (vs.take n).length := (List.getElem?_eq_some_iff.1 hx1).1
        rw [List.length_take] at hj
        rw [List.getElem?_take, if_pos (by omega)] at hx1
        have e : at8 vs j = x := by simp [at8, hx1]
        have hadd : (⟨b, off, none⟩ : Addr).add j = ⟨b, off + j, none⟩ := by unfold Addr.add; split <;> simp_all
        rw [hadd, hx j (by omega), e]; rfl) (by simp [vfs_size, zeros_len]; omega) (fun v hv => by
        simp only [List.mem_map] at hv
        obtain ⟨x, _, rfl⟩ := hv
        rfl)
    rw [this, ← e]
    have e2 : ((vs.take n).map vf).length = min vs.length n := by rw [List.length_map, List.length_take]; omega
    have e3 : ((vfs (zeros n)).toList.take 0 ++ (vs.take n).map vf ++ (vfs (zeros n)).toList.drop (0 + ((vs.take n).map vf).length)).toArray = vfs (vs.take n ++ (zeros n).drop (vs.take n).length) := by simp [vfs]
    rw [e2] at e3 ⊢
    rw [e3]
theorem leftTo_sol {r c : Nat} {xs vs : List F} {x : Nat → F} (hv : vs.length = c) (h : SolOf (tr (cellF c xs)) c r (at8 vs) x) : leftTo c (rowF r x) xs r = vs := by
  refine (rowF_eq hv fun j hj => ?_).symm
  rw [h.sol j hj]
  exact sumF_congr fun l hl => by rw [at8_rowF hl, F.mul_comm]; rfl
theorem timesM_sol {r c : Nat} {xs vs : List F} {x : Nat → F} (hv : vs.length = r) (h : SolOf (cellF c xs) r c (at8 vs) x) : timesM r c xs (rowF c x) = vs := by
  refine (rowF_eq hv fun j hj => ?_).symm
  rw [h.sol j hj]
  exact sumF_congr fun l hl => by rw [at8_rowF hl]; rfl
theorem leftTo_dep (r c : Nat) (xs L : List F) : Dep (tr (cellF c xs)) c r (at8 (leftTo c L xs r)) := ⟨at8 L, fun j hj => by
  rw [leftTo, at8_rowF hj]
  exact sumF_congr fun l hl => F.mul_comm _ _⟩
theorem timesM_dep (r c : Nat) (xs L : List F) : Dep (cellF c xs) r c (at8 (timesM r c xs L)) := ⟨at8 L, fun j hj => by
  rw [timesM, at8_rowF hj]; rfl⟩
set_option maxHeartbeats 8000000 in
theorem finds_yes (r c l cap lv cv : Nat) (a b : Option Addr) (xs vs : List F) (w : World) (hr : r ≤ 64) (hc : c ≤ 64) (hl : l = r * c) (hx : xs.length = r * c) (hcap : l ≤ cap) (hX : Row8 w a xs) (hna : a = none → cap = 0)
    (hlv : lv = vs.length) (hV : Row8 w b vs) (s2 : Addr) (hs2 : w.cell? ⟨1, 0, none⟩ = some (errAt s2)) :
    Calls Tryd.prog 8 #[.agg #[.int .i64 r, .int .i64 c, .slice a l cap], .slice b lv cv] w fun e w' => e = .returned (.bool true) ∧ Below w.heap.size w w' := by
  have HL : Hid _ := hl
  have HXL : Hid _ := hx
  have HX : Hid (Row8 w a xs) := hX
  have HV : Hid (Row8 w b vs) := hV
  have HLV : Hid _ := hlv
  have HNA : Hid _ := hna
  have HS2 : Hid _ := hs2
  have HA0 : Hid _ := holds_new (holds_nil w) #[.int .i64 r, .int .i64 c, .slice a l cap] 24
  have HW0 : Hid _ := (Below.refl w.heap.size w).alloc (Nat.le_refl _) (.cells #[.int .i64 r, .int .i64 c, .slice a l cap] 24)
  clear hl hx hX hV hlv hna hs2
  go_enter Tryd.func8, Tryd.ntmps8
  go_wp2_with fail
  refine Calls.mono (alive3_ok _ s2 (cell_later HW0.out HS2.out)) ?_
  rintro e w1 ⟨rfl, hb⟩
  have HA1 : Hid _ := holds_later HA0.out hb
  have HW1 : Hid (Below w.heap.size w w1) := HW0.out.trans (hb.mono HW0.out.size)
  clear hb HA0 HW0
  have c1 := cellAt (holds_at HA1.out 0 rfl) 0 _ rfl
  have c2 := cellAt (holds_at HA1.out 0 rfl) 1 _ rfl
  have c3 := cellAt (holds_at HA1.out 0 rfl) 2 _ rfl
  go_wp2_with fail
  refine Calls.mono (inForm_yes r c a l cap _ hr hc HL.out) ?_
  rintro e w2 ⟨rfl, hb⟩
  have HA2 : Hid _ := holds_later HA1.out hb
  have HW2 : Hid (Below w.heap.size w w2) := HW1.out.trans (hb.mono HW1.out.size)
  clear hb HA1 HW1 c1 c2 c3
  have c1 := cellAt (holds_at HA2.out 0 rfl) 0 _ rfl
  have hmr := run_make8 r (by omega)
  have hmc := run_make8 c (by omega)
  have hcp1 := run_copyN w2.heap.size r r b lv cv vs (w2.alloc (.cells (vfs (zeros r)) 5)) 3 HLV.out (heap_alloc_last w2 _) (row8_below HV.out (HW2.out.alloc HW2.out.size _))
  rw [World.setRow_alloc_new] at hcp1
  have hA3 := holds_new HA2.out (vfs (rowF r (at8 vs))) 5
  have hW3 := HW2.out.alloc HW2.out.size (.cells (vfs (rowF r (at8 vs))) 5)
  have c2 := cellAt (holds_at hA3 1 rfl) 1 _ rfl
  have hcp2 := run_copyN (w2.alloc (.cells (vfs (rowF r (at8 vs))) 5)).heap.size c c b lv cv vs ((w2.alloc (.cells (vfs (rowF r (at8 vs))) 5)).alloc (.cells (vfs (zeros c)) 5)) 3 HLV.out (heap_alloc_last _ _) (row8_below HV.out (hW3.alloc hW3.size _))
  rw [World.setRow_alloc_new] at hcp2
  have hA4 := holds_new hA3 (vfs (rowF c (at8 vs))) 5
  have hW4 := hW3.alloc hW3.size (.cells (vfs (rowF c (at8 vs))) 5)
  rw [World.size_alloc] at hcp2 hA4
  have HA4 : Hid _ := hA4
  have HW4 : Hid _ := hW4
  have c4 := cellAt (holds_at hA4 2 rfl) 0 _ rfl
  have c5 := cellAt (holds_at hA4 2 rfl) 1 _ rfl
  have c6 := cellAt (holds_at hA4 2 rfl) 2 _ rfl
  clear HA2 HW2 hA3 hW3 hA4 hW4
  go_wp2_with fail
  clear hmr hmc hcp1 hcp2 c1 c2
  refine Calls.mono (left_F r c l cap r r a (some ⟨w2.heap.size, 0, none⟩) xs (rowF r (at8 vs)) _ hr hc HL.out HXL.out hcap (row8_below HX.out HW4.out) rfl (rowF_len _ _) (holds_row HA4.out 1 rfl)) ?_
  rintro e w5 ⟨gv, rfl, hgv, hhv, hb⟩
  have HA5 : Hid _ := holds_cons (holds_later HA4.out hb) hhv
  have HW5 : Hid (Below w.heap.size w w5) := HW4.out.trans (hb.mono HW4.out.size)
  clear hb hhv HA4 HW4 c4 c5 c6
  have c4 := cellAt (holds_at HA5.out 3 rfl) 0 _ rfl
  have c5 := cellAt (holds_at HA5.out 3 rfl) 1 _ rfl
  have c6 := cellAt (holds_at HA5.out 3 rfl) 2 _ rfl
  go_wp2_with fail
  refine Calls.mono (express_F r c l cap c c a (some ⟨gv, 0, none⟩) xs (leftTo c (rowF r (at8 vs)) xs r) _ hr hc HL.out HXL.out hcap (row8_below HX.out HW5.out) rfl (leftTo_len _ _ _ _) (Nat.le_refl _) (holds_row HA5.out 0 rfl) (fun h => by cases h)) ?_
  rintro e w6 (⟨gx, x, rfl, hgx, hhx, hsol, hb⟩ | ⟨_, hno, _⟩)
  rotate_left
  · exact absurd (leftTo_dep r c xs _) hno
  have HA6 : Hid _ := holds_cons (holds_later HA5.out hb) hhx
  have HW6 : Hid (Below w.heap.size w w6) := HW5.out.trans (hb.mono HW5.out.size)
  have HSOL : Hid _ := hsol
  clear hb hhx hsol HA5 HW5 c4 c5 c6
  have c4 := cellAt (holds_at HA6.out 4 rfl) 0 _ rfl
  have c5 := cellAt (holds_at HA6.out 4 rfl) 1 _ rfl
  have c6 := cellAt (holds_at HA6.out 4 rfl) 2 _ rfl
  go_wp2_with fail
  refine Calls.mono (left_F r c l cap r r a (some ⟨gx, 0, none⟩) xs (rowF r x) _ hr hc HL.out HXL.out hcap (row8_below HX.out HW6.out) rfl (rowF_len _ _) (holds_row HA6.out 0 rfl)) ?_
  rw [leftTo_sol (leftTo_len _ _ _ _) HSOL.out]
  rintro e w7 ⟨ga2, rfl, hga, hha, hb⟩
  have HA7 : Hid _ := holds_cons (holds_later HA6.out hb) hha
  have HW7 : Hid (Below w.heap.size w w7) := HW6.out.trans (hb.mono HW6.out.size)
  clear hb hha HA6 HW6 c4 c5 c6
  have c4 := cellAt (holds_at HA7.out 5 rfl) 0 _ rfl
  have c5 := cellAt (holds_at HA7.out 5 rfl) 1 _ rfl
  have c6 := cellAt (holds_at HA7.out 5 rfl) 2 _ rfl
  go_wp2_with fail
  refine Calls.mono (times_F r c l cap c c a (some ⟨w2.heap.size + 1, 0, none⟩) xs (rowF c (at8 vs)) _ hr hc HL.out HXL.out hcap (row8_below HX.out HW7.out) rfl (rowF_len _ _) (holds_row HA7.out 3 rfl)) ?_
  rintro e w8 ⟨gw, rfl, hgw, hhw, hb⟩
  have HA8 : Hid _ := holds_cons (holds_later HA7.out hb) hhw
  have HW8 : Hid (Below w.heap.size w w8) := HW7.out.trans (hb.mono HW7.out.size)
  clear hb hhw HA7 HW7 c4 c5 c6
  have c4 := cellAt (holds_at HA8.out 6 rfl) 0 _ rfl
  have c5 := cellAt (holds_at HA8.out 6 rfl) 1 _ rfl
  have c6 := cellAt (holds_at HA8.out 6 rfl) 2 _ rfl
  have htl : (timesM r c xs (rowF c (at8 vs))).length = r := rowF_len _ _
  have HTL : Hid _ := htl
  clear htl
  go_wp2_with fail
  refine Calls.mono (solve_F r c l cap r r a (some ⟨gw, 0, none⟩) xs (timesM r c xs (rowF c (at8 vs))) _ hr hc HL.out HXL.out hcap (row8_below HX.out HW8.out) HNA.out rfl HTL.out (Nat.le_refl _) (holds_row HA8.out 0 rfl) (fun h => by cases h)) ?_
  rintro e w9 (⟨gy, y, rfl, hgy, hhy, hsol, hb⟩ | ⟨_, hno, _⟩)
  rotate_left
  · exact absurd (timesM_dep r c xs _) hno
  have HA9 : Hid _ := holds_cons (holds_later HA8.out hb) hhy
  have HW9 : Hid (Below w.heap.size w w9) := HW8.out.trans (hb.mono HW8.out.size)
  have HSOL2 : Hid _ := hsol
  clear hb hhy hsol HA8 HW8 c4 c5 c6
  have c4 := cellAt (holds_at HA9.out 7 rfl) 0 _ rfl
  have c5 := cellAt (holds_at HA9.out 7 rfl) 1 _ rfl
  have c6 := cellAt (holds_at HA9.out 7 rfl) 2 _ rfl
  go_wp2_with fail
  refine Calls.mono (times_F r c l cap c c a (some ⟨gy, 0, none⟩) xs (rowF c y) _ hr hc HL.out HXL.out hcap (row8_below HX.out HW9.out) rfl (rowF_len _ _) (holds_row HA9.out 0 rfl)) ?_
  rw [timesM_sol HTL.out HSOL2.out]
  rintro e wa ⟨gi, rfl, hgi, hhi, hb⟩
  have hA := holds_cons (holds_later HA9.out hb) hhi
  have HWa : Hid (Below w.heap.size w wa) := HW9.out.trans (hb.mono HW9.out.size)
  have k1 := conv8 (ca := r) HTL.out.symm (holds_row hA 0 rfl)
  have k2 := conv8 (ca := r) HTL.out.symm (holds_row hA 2 rfl)
  have hll := leftTo_len c (rowF r (at8 vs)) xs r
  have k3 := conv8 (ca := c) hll.symm (holds_row hA 3 rfl)
  have k4 := conv8 (ca := c) hll.symm (holds_row hA 5 rfl)
  clear hb hhi hA HA9 HW9 c4 c5 c6 hll
  go_wp2
  go_ret
  exact ⟨rfl, HWa.out⟩
theorem finds_no (r c : Int) (l cap lv cv : Nat) (a b : Option Addr) (w : World) (s2 : Addr) (hs2 : w.cell? ⟨1, 0, none⟩ = some (errAt s2)) (h : ¬ FormOk r c l) :
    Calls Tryd.prog 8 #[.agg #[.int .i64 r, .int .i64 c, .slice a l cap], .slice b lv cv] w fun e w' => e = .returned (.bool true) ∧ Below w.heap.size w w' := by
  have HS2 : Hid _ := hs2
  have H : Hid _ := h
  have HA0 : Hid _ := holds_new (holds_nil w) #[.int .i64 r, .int .i64 c, .slice a l cap] 24
  have HW0 : Hid _ := (Below.refl w.heap.size w).alloc (Nat.le_refl _) (.cells #[.int .i64 r, .int .i64 c, .slice a l cap] 24)
  clear hs2 h
  go_enter Tryd.func8, Tryd.ntmps8
  go_wp2_with fail
  refine Calls.mono (alive3_ok _ s2 (cell_later HW0.out HS2.out)) ?_
  rintro e w1 ⟨rfl, hb⟩
  have HA1 : Hid _ := holds_later HA0.out hb
  have HW1 : Hid (Below w.heap.size w w1) := HW0.out.trans (hb.mono HW0.out.size)
  clear hb HA0 HW0
  have c1 := cellAt (holds_at HA1.out 0 rfl) 0 _ rfl
  have c2 := cellAt (holds_at HA1.out 0 rfl) 1 _ rfl
  have c3 := cellAt (holds_at HA1.out 0 rfl) 2 _ rfl
  go_wp2_with fail
  refine Calls.mono (inForm_no r c a l cap _ H.out) ?_
  rintro e w2 ⟨rfl, hb⟩
  have HW2 : Hid (Below w.heap.size w w2) := HW1.out.trans (hb.mono HW1.out.size)
  clear hb HA1 HW1 c1 c2 c3
  go_wp2
  go_ret
  exact ⟨rfl, HW2.out⟩
theorem finds_walk (r c : Int) (l cap lv cv : Nat) (a b : Option Addr) (xs vs : List F) (w : World) (hx : l = xs.length) (hcap : l ≤ cap) (hX : Row8 w a xs) (hna : a = none → cap = 0) (hlv : lv = vs.length) (hV : Row8 w b vs) (es : List Addr) (hes : ErrsAt w gsSolve es) :
    Calls Tryd.prog 8 #[.agg #[.int .i64 r, .int .i64 c, .slice a l cap], .slice b lv cv] w fun e w' => e = .returned (.bool true) ∧ Below w.heap.size w w' := by
  obtain ⟨s2, _, hs2, _⟩ := errs_at hes 1 1 rfl
  by_cases h : FormOk r c l
  · obtain ⟨r', c', rfl, rfl, hr, hc, hl⟩ := h.nat
    exact finds_yes r' c' l cap lv cv a b xs vs w hr hc hl (by omega) hcap hX hna hlv hV s2 hs2
  · exact finds_no r c l cap lv cv a b w s2 hs2 h
end Go.Proofs.YtaaanfaelmfamaaDoor
