/- The walk of the statement MatVectors: it returns true of all matrices and lists. -/
import Derived.Test.YtagahiahhgafpaaDoorMatIn
import Derived.Test.YtagahiahhgafpaaDoorMatBad
import Derived.Test.YtagahiahhgafpaaDoorRef2
import Derived.Test.YtagahiahhgafpaaDoorErrsNeq
namespace Go.Proofs.YtagahiahhgafpaaDoor
open Go.RowKit Gf
set_option linter.unusedVariables false
def gsVectors : List Nat := [0]
theorem times_mul (r c : Nat) (xs vs : List F) : timesM r c xs vs = mulM c 1 xs vs r := by
  refine list_ext_len (by rw [timesM_len, mulM_len, Nat.mul_one]) fun j hj => ?_
  rw [timesM_len] at hj
  have e := at8_mulM (n := c) (c := 1) (r := r) (i := j) (j := 0) (a := xs) (b := vs) hj (by omega)
  rw [Nat.mul_one, Nat.add_zero] at e
  rw [timesM, at8_rowF hj, e]
  exact sumF_congr fun l _ => by rw [Nat.mul_one, Nat.add_zero]
theorem left_mul (r c : Nat) (xs vs : List F) : leftTo c vs xs r = mulM r c vs xs 1 := by
  refine list_ext_len (by rw [leftTo_len, mulM_len, Nat.one_mul]) fun j hj => ?_
  rw [leftTo_len] at hj
  have e := at8_mulM (n := r) (c := c) (r := 1) (i := 0) (j := j) (a := vs) (b := xs) (by omega) hj
  rw [Nat.zero_mul, Nat.zero_add] at e
  rw [leftTo, at8_rowF hj, e]
  exact sumF_congr fun l _ => by rw [Nat.zero_mul, Nat.zero_add]
set_option maxRecDepth 100000 in
set_option maxHeartbeats 4000000 in
theorem vectors_A (r c : Int) (l cap lv cv : Nat) (a b : Option Addr) (xs vs : List F) (w : World) (h : ¬ (0 ≤ r ∧ r ≤ 64 ∧ 0 ≤ c ∧ c ≤ 64 ∧ (l : Int) = r * c)) (hx : l = xs.length) (hcap : l ≤ cap) (hm : cap ≤ 140737488351232) (hX : Row8 w a xs) (hna : a = none → cap = 0)
    (hv : lv = vs.length) (hcv : lv ≤ cv) (hmv : cv ≤ 140737488351232) (hV : Row8 w b vs) (hnb : b = none → cv = 0) (s : Addr) (hs : w.cell? ⟨0, 0, none⟩ = some (errAt s)) :
    Calls Tryd.prog 6 #[.agg #[.int .i64 r, .int .i64 c, .slice a l cap], .slice b lv cv] w fun e w' => e = .returned (.bool true) ∧ Below w.heap.size w w' := by
  have HXL : Hid _ := hx
  have HVL : Hid _ := hv
  have HX : Hid (Row8 w a xs) := hX
  have HV : Hid (Row8 w b vs) := hV
  have HNA : Hid _ := hna
  have HNB : Hid _ := hnb
  have HS : Hid _ := hs
  have HF : Hid _ := h
  clear h
  clear hx hX hna hv hV hnb hs
  go_enter Tryd.func6, Tryd.ntmps6
  go_wp2_with fail
  refine Calls.mono (alive_ok _) ?_
  rintro e w1 ⟨rfl, hb1⟩
  have hA := heap_later (heap_alloc_last w (.cells #[.int .i64 r, .int .i64 c, .slice a l cap] 24)) hb1
  have HW1 : Hid (Below w.heap.size w w1) := ((Below.refl w.heap.size w).alloc (Nat.le_refl _) _).trans (hb1.mono (by simp))
  have c1 := cellAt hA 0 _ rfl
  have c2 := cellAt hA 1 _ rfl
  have c3 := cellAt hA 2 _ rfl
  have HA1 : Hid _ := hA
  clear hb1 hA
  go_wp2_with fail
  refine Calls.mono (in_F r c l cap a xs _ HXL.out (by omega) (row8_below HX.out HW1.out) HNA.out) ?_
  rintro e w2 ⟨gx, rfl, hgx, hhx, hb2⟩
  have HA2 : Hid _ := heap_later HA1.out hb2
  have HW2 : Hid (Below w.heap.size w w2) := HW1.out.trans (hb2.mono HW1.out.size)
  have HGX2 : Hid _ := hhx
  clear hb2 hhx hgx c1 c2 c3 HA1 HW1
  go_wp2_with fail
  refine Calls.mono (bytes_F b lv cv vs _ HVL.out (by omega) (row8_below HV.out HW2.out) HNB.out) ?_
  rintro e w3 ⟨gv, rfl, hgv, hb3, hhv⟩
  have HA3 : Hid _ := heap_later HA2.out hb3
  have HGX3 : Hid _ := heap_later HGX2.out hb3
  have HGV3 : Hid _ := hhv
  have HW3 : Hid (Below w.heap.size w w3) := HW2.out.trans (hb3.mono HW2.out.size)
  clear hb3 hhv hgv HA2 HGX2 HW2
  have hAl := (Below.refl w3.heap.size w3).alloc (Nat.le_refl _) (.cells #[.int .i64 r, .int .i64 c, .slice (some ⟨gx, 0, none⟩) l (l + 6)] 24)
  have hB := heap_alloc_last w3 (.cells #[.int .i64 r, .int .i64 c, .slice (some ⟨gx, 0, none⟩) l (l + 6)] 24)
  have HA4 : Hid _ := heap_later HA3.out hAl
  have HGX4 : Hid _ := heap_later HGX3.out hAl
  have HGV4 : Hid _ := heap_later HGV3.out hAl
  have HB4 : Hid _ := hB
  have HW4 : Hid (Below w.heap.size w (w3.alloc (.cells #[.int .i64 r, .int .i64 c, .slice (some ⟨gx, 0, none⟩) l (l + 6)] 24))) := HW3.out.trans (hAl.mono HW3.out.size)
  have d1 : ∀ j v, (#[.int .i64 r, .int .i64 c, .slice (some ⟨gx, 0, none⟩) l (l + 6)] : Array Value)[j]? = some v → (w3.alloc (.cells #[.int .i64 r, .int .i64 c, .slice (some ⟨gx, 0, none⟩) l (l + 6)] 24)).cell? ⟨w3.heap.size, j, none⟩ = some v := fun j v h => cellAt hB j v h
  clear hAl hB HA3 HGX3 HGV3 HW3
  clear d1
  go_wp2_with fail
  generalize hN : w3.heap.size = N at *
  generalize (w3.alloc (.cells #[.int .i64 r, .int .i64 c, .slice (some ⟨gx, 0, none⟩) l (l + 6)] 24)) = W4 at *
  clear hN
  refine Calls.mono (times_bad r c _ _ l (l + 6) lv (lv + 6) _ s (cell_later HW4.out HS.out) (.inl HF.out)) ?_
  rintro e w5 ⟨rfl, hb5⟩
  have HA5 : Hid _ := heap_later HA4.out hb5
  have HB5 : Hid _ := heap_later HB4.out hb5
  have HGX5 : Hid _ := heap_later HGX4.out hb5
  have HGV5 : Hid _ := heap_later HGV4.out hb5
  have HW5 : Hid (Below w.heap.size w w5) := HW4.out.trans (hb5.mono HW4.out.size)
  have c1 := cellAt HB5.out 0 _ rfl
  have c2 := cellAt HB5.out 1 _ rfl
  have c3 := cellAt HB5.out 2 _ rfl
  clear hb5 HA4 HB4 HGX4 HGV4 HW4
  go_wp2_with fail
  refine Calls.mono (left_bad r c _ _ l (l + 6) lv (lv + 6) _ s (cell_later HW5.out HS.out) (.inl HF.out)) ?_
  rintro e w6 ⟨rfl, hb6⟩
  have HA6 : Hid _ := heap_later HA5.out hb6
  have HB6 : Hid _ := heap_later HB5.out hb6
  have HGX6 : Hid _ := heap_later HGX5.out hb6
  have HGV6 : Hid _ := heap_later HGV5.out hb6
  have HW6 : Hid (Below w.heap.size w w6) := HW5.out.trans (hb6.mono HW5.out.size)
  have c4 := cellAt HB6.out 2 _ rfl
  have c5 := cellAt HA6.out 2 _ rfl
  clear hb6 HA5 HB5 HGX5 HGV5 HW5 c1 c2 c3
  go_wp2_with fail
  refine Calls.mono (kept_F gx l cap a xs _ HXL.out (by omega) hcap HGX6.out (row8_below HX.out HW6.out)) ?_
  rintro e w7 ⟨rfl, hb7⟩
  have HA7 : Hid _ := heap_later HA6.out hb7
  have HGV7 : Hid _ := heap_later HGV6.out hb7
  have HW7 : Hid (Below w.heap.size w w7) := HW6.out.trans (hb7.mono HW6.out.size)
  clear hb7 HA6 HB6 HGX6 HGV6 HW6 c4 c5
  go_wp2_with fail
  refine Calls.mono (kept_F gv lv cv b vs _ HVL.out (by omega) hcv HGV7.out (row8_below HV.out HW7.out)) ?_
  rintro e w8 ⟨rfl, hb8⟩
  have HA8 : Hid _ := heap_later HA7.out hb8
  have HW8 : Hid (Below w.heap.size w w8) := HW7.out.trans (hb8.mono HW7.out.size)
  have c1 := cellAt HA8.out 0 _ rfl
  have c2 := cellAt HA8.out 1 _ rfl
  have c3 := cellAt HA8.out 2 _ rfl
  clear hb8 HA7 HGV7 HW7
  go_wp2_with fail
  refine Calls.mono (inForm_no r c a l cap _ HF.out) ?_
  rintro e w9 ⟨rfl, hb9⟩
  have HA9 : Hid _ := heap_later HA8.out hb9
  have HW9 : Hid (Below w.heap.size w w9) := HW8.out.trans (hb9.mono HW8.out.size)
  have d1 := cellAt HA9.out 0 _ rfl
  have d2 := cellAt HA9.out 1 _ rfl
  have d3 := cellAt HA9.out 2 _ rfl
  clear hb9 HA8 HW8 c1 c2 c3
  have c9 := cell_later HW9.out HS.out
  have q9 := neq_same w9 s
  unfold errAt at *
  go_wp2_with fail
  refine Calls.mono (inForm_no r c a l cap _ HF.out) ?_
  rintro e wC ⟨rfl, hbC⟩
  have HAC : Hid _ := heap_later HA9.out hbC
  have HWC : Hid (Below w.heap.size w wC) := HW9.out.trans (hbC.mono HW9.out.size)
  have e1 := cellAt HAC.out 0 _ rfl
  have e2 := cellAt HAC.out 1 _ rfl
  have e3 := cellAt HAC.out 2 _ rfl
  clear hbC HA9 HW9
  have c8 := cell_later HWC.out HS.out
  have q8 := eq_same wC s
  unfold errAt at *
  go_wp2
  go_ret
  exact ⟨rfl, HWC.out⟩
set_option maxRecDepth 100000 in
set_option maxHeartbeats 4000000 in
theorem vectors_B (r c : Nat) (l cap lv cv : Nat) (a b : Option Addr) (xs vs : List F) (w : World) (hr : r ≤ 64) (hc : c ≤ 64) (hl : l = r * c) (h1 : lv = c) (h2 : lv = r) (hx : l = xs.length) (hcap : l ≤ cap) (hm : cap ≤ 140737488351232) (hX : Row8 w a xs) (hna : a = none → cap = 0)
    (hv : lv = vs.length) (hcv : lv ≤ cv) (hmv : cv ≤ 140737488351232) (hV : Row8 w b vs) (hnb : b = none → cv = 0) (s : Addr) (hs : w.cell? ⟨0, 0, none⟩ = some (errAt s)) :
    Calls Tryd.prog 6 #[.agg #[.int .i64 r, .int .i64 c, .slice a l cap], .slice b lv cv] w fun e w' => e = .returned (.bool true) ∧ Below w.heap.size w w' := by
  have HXL : Hid _ := hx
  have HVL : Hid _ := hv
  have HX : Hid (Row8 w a xs) := hX
  have HV : Hid (Row8 w b vs) := hV
  have HNA : Hid _ := hna
  have HNB : Hid _ := hnb
  have HS : Hid _ := hs
  have HL : Hid _ := hl
  have HXR : Hid (xs.length = r * c) := by show _ = _; rw [← hx]; exact hl
  have H1 : Hid _ := h1
  have H2 : Hid _ := h2
  clear hl h1 h2
  clear hx hX hna hv hV hnb hs
  go_enter Tryd.func6, Tryd.ntmps6
  go_wp2_with fail
  refine Calls.mono (alive_ok _) ?_
  rintro e w1 ⟨rfl, hb1⟩
  have hA := heap_later (heap_alloc_last w (.cells #[.int .i64 r, .int .i64 c, .slice a l cap] 24)) hb1
  have HW1 : Hid (Below w.heap.size w w1) := ((Below.refl w.heap.size w).alloc (Nat.le_refl _) _).trans (hb1.mono (by simp))
  have c1 := cellAt hA 0 _ rfl
  have c2 := cellAt hA 1 _ rfl
  have c3 := cellAt hA 2 _ rfl
  have HA1 : Hid _ := hA
  clear hb1 hA
  go_wp2_with fail
  refine Calls.mono (in_F r c l cap a xs _ HXL.out (by omega) (row8_below HX.out HW1.out) HNA.out) ?_
  rintro e w2 ⟨gx, rfl, hgx, hhx, hb2⟩
  have HA2 : Hid _ := heap_later HA1.out hb2
  have HW2 : Hid (Below w.heap.size w w2) := HW1.out.trans (hb2.mono HW1.out.size)
  have HGX2 : Hid _ := hhx
  clear hb2 hhx hgx c1 c2 c3 HA1 HW1
  go_wp2_with fail
  refine Calls.mono (bytes_F b lv cv vs _ HVL.out (by omega) (row8_below HV.out HW2.out) HNB.out) ?_
  rintro e w3 ⟨gv, rfl, hgv, hb3, hhv⟩
  have HA3 : Hid _ := heap_later HA2.out hb3
  have HGX3 : Hid _ := heap_later HGX2.out hb3
  have HGV3 : Hid _ := hhv
  have HW3 : Hid (Below w.heap.size w w3) := HW2.out.trans (hb3.mono HW2.out.size)
  clear hb3 hhv hgv HA2 HGX2 HW2
  have hAl := (Below.refl w3.heap.size w3).alloc (Nat.le_refl _) (.cells #[.int .i64 r, .int .i64 c, .slice (some ⟨gx, 0, none⟩) l (l + 6)] 24)
  have hB := heap_alloc_last w3 (.cells #[.int .i64 r, .int .i64 c, .slice (some ⟨gx, 0, none⟩) l (l + 6)] 24)
  have HA4 : Hid _ := heap_later HA3.out hAl
  have HGX4 : Hid _ := heap_later HGX3.out hAl
  have HGV4 : Hid _ := heap_later HGV3.out hAl
  have HB4 : Hid _ := hB
  have HW4 : Hid (Below w.heap.size w (w3.alloc (.cells #[.int .i64 r, .int .i64 c, .slice (some ⟨gx, 0, none⟩) l (l + 6)] 24))) := HW3.out.trans (hAl.mono HW3.out.size)
  have d1 : ∀ j v, (#[.int .i64 r, .int .i64 c, .slice (some ⟨gx, 0, none⟩) l (l + 6)] : Array Value)[j]? = some v → (w3.alloc (.cells #[.int .i64 r, .int .i64 c, .slice (some ⟨gx, 0, none⟩) l (l + 6)] 24)).cell? ⟨w3.heap.size, j, none⟩ = some v := fun j v h => cellAt hB j v h
  clear hAl hB HA3 HGX3 HGV3 HW3
  clear d1
  go_wp2_with fail
  generalize hN : w3.heap.size = N at *
  generalize (w3.alloc (.cells #[.int .i64 r, .int .i64 c, .slice (some ⟨gx, 0, none⟩) l (l + 6)] 24)) = W4 at *
  clear hN
  refine Calls.mono (times_F r c l (l + 6) lv (lv + 6) _ _ xs vs _ hr hc HL.out HXR.out (by omega) (row8_front HGX4.out) H1.out (by rw [← HVL.out]; exact H1.out) (row8_front HGV4.out)) ?_
  rintro e w5 ⟨gt, rfl, hgt, hht, hb5⟩
  have HT5 : Hid _ := hht
  have HA5 : Hid _ := heap_later HA4.out hb5
  have HB5 : Hid _ := heap_later HB4.out hb5
  have HGX5 : Hid _ := heap_later HGX4.out hb5
  have HGV5 : Hid _ := heap_later HGV4.out hb5
  have HW5 : Hid (Below w.heap.size w w5) := HW4.out.trans (hb5.mono HW4.out.size)
  have c1 := cellAt HB5.out 0 _ rfl
  have c2 := cellAt HB5.out 1 _ rfl
  have c3 := cellAt HB5.out 2 _ rfl
  clear hb5 HA4 HB4 HGX4 HGV4 HW4 hht hgt
  go_wp2_with fail
  refine Calls.mono (left_F r c l (l + 6) lv (lv + 6) _ _ xs vs _ hr hc HL.out HXR.out (by omega) (row8_front HGX5.out) H2.out (by rw [← HVL.out]; exact H2.out) (row8_front HGV5.out)) ?_
  rintro e w6 ⟨gl, rfl, hgl, hhl, hb6⟩
  have HL6 : Hid _ := hhl
  have HA6 : Hid _ := heap_later HA5.out hb6
  have HB6 : Hid _ := heap_later HB5.out hb6
  have HGX6 : Hid _ := heap_later HGX5.out hb6
  have HGV6 : Hid _ := heap_later HGV5.out hb6
  have HT6 : Hid _ := heap_later HT5.out hb6
  have HW6 : Hid (Below w.heap.size w w6) := HW5.out.trans (hb6.mono HW5.out.size)
  have c4 := cellAt HB6.out 2 _ rfl
  have c5 := cellAt HA6.out 2 _ rfl
  clear hb6 HA5 HB5 HGX5 HGV5 HW5 c1 c2 c3 hhl hgl
  go_wp2_with fail
  refine Calls.mono (kept_F gx l cap a xs _ HXL.out (by omega) hcap HGX6.out (row8_below HX.out HW6.out)) ?_
  rintro e w7 ⟨rfl, hb7⟩
  have HA7 : Hid _ := heap_later HA6.out hb7
  have HGV7 : Hid _ := heap_later HGV6.out hb7
  have HT7 : Hid _ := heap_later HT6.out hb7
  have HL7 : Hid _ := heap_later HL6.out hb7
  have HW7 : Hid (Below w.heap.size w w7) := HW6.out.trans (hb7.mono HW6.out.size)
  clear hb7 HA6 HB6 HGX6 HGV6 HW6 c4 c5
  go_wp2_with fail
  refine Calls.mono (kept_F gv lv cv b vs _ HVL.out (by omega) hcv HGV7.out (row8_below HV.out HW7.out)) ?_
  rintro e w8 ⟨rfl, hb8⟩
  have HA8 : Hid _ := heap_later HA7.out hb8
  have HT8 : Hid _ := heap_later HT7.out hb8
  have HL8 : Hid _ := heap_later HL7.out hb8
  have HW8 : Hid (Below w.heap.size w w8) := HW7.out.trans (hb8.mono HW7.out.size)
  have c1 := cellAt HA8.out 0 _ rfl
  have c2 := cellAt HA8.out 1 _ rfl
  have c3 := cellAt HA8.out 2 _ rfl
  clear hb8 HA7 HGV7 HW7
  go_wp2_with fail
  refine Calls.mono (inForm_yes r c a l cap _ hr hc HL.out) ?_
  rintro e w9 ⟨rfl, hb9⟩
  have HA9 : Hid _ := heap_later HA8.out hb9
  have HT9 : Hid _ := heap_later HT8.out hb9
  have HL9 : Hid _ := heap_later HL8.out hb9
  have HW9 : Hid (Below w.heap.size w w9) := HW8.out.trans (hb9.mono HW8.out.size)
  have d1 := cellAt HA9.out 0 _ rfl
  have d2 := cellAt HA9.out 1 _ rfl
  have d3 := cellAt HA9.out 2 _ rfl
  clear hb9 HA8 HW8 c1 c2 c3
  have e0 := H1.out
  subst e0
  go_wp2_with fail
  refine Calls.mono (rproduct_F r lv 1 l cap lv cv a b xs vs _ hr hc (by decide) HL.out HXR.out hcap (row8_below HX.out HW9.out) (by omega) (by rw [← HVL.out]; omega) hcv (row8_below HV.out HW9.out)) ?_
  rintro e wA ⟨gp, mp, rfl, hmp, hgp, hhp, hbA⟩
  have HAA : Hid _ := heap_later HA9.out hbA
  have hT : Row8 wA (some ⟨gt, 0, none⟩) (mulM lv 1 xs vs r) := by rw [← times_mul]; exact row8_own (heap_later HT9.out hbA)
  have q1 := fun o => conv8 (ca := r) (la := r) (by rw [mulM_len]; omega) (row8_alloc hT o)
  have q2 := fun o => conv8 (ca := mp) (la := mp) (by rw [mulM_len]; exact hmp) (row8_alloc (row8_own hhp) o)
  have HLA : Hid _ := heap_later HL9.out hbA
  have HWA : Hid (Below w.heap.size w wA) := HW9.out.trans (hbA.mono HW9.out.size)
  have zA := ltHeap HAA.out
  have c1 := cellAt HAA.out 0 _ rfl
  have c2 := cellAt HAA.out 1 _ rfl
  have c3 := cellAt HAA.out 2 _ rfl
  clear hbA hhp hT hmp hgp HA9 HW9 d1 d2 d3
  go_wp2_with fail
  clear q1 q2
  have hAl := (Below.refl wA.heap.size wA).alloc (Nat.le_refl _) (.cells #[.int .i64 r, .int .i64 1, .slice (some ⟨gp, 0, none⟩) mp mp] 24)
  have HWB : Hid (Below w.heap.size w (wA.alloc (.cells #[.int .i64 r, .int .i64 1, .slice (some ⟨gp, 0, none⟩) mp mp] 24))) := HWA.out.trans (hAl.mono HWA.out.size)
  have HAB : Hid _ := heap_later HAA.out hAl
  have HLB : Hid _ := heap_later HLA.out hAl
  clear hAl HWA HAA
  refine Calls.mono (inForm_yes r lv a l cap _ hr hc HL.out) ?_
  rintro e wC ⟨rfl, hbC⟩
  have HAC : Hid _ := heap_later HAB.out hbC
  have HLC : Hid _ := heap_later HLB.out hbC
  have HWC : Hid (Below w.heap.size w wC) := HWB.out.trans (hbC.mono HWB.out.size)
  have e1 := cellAt HAC.out 0 _ rfl
  have e2 := cellAt HAC.out 1 _ rfl
  have e3 := cellAt HAC.out 2 _ rfl
  clear hbC HAB HWB
  have e0 := H2.out
  subst e0
  go_wp2_with fail
  refine Calls.mono (rproduct_F 1 lv lv lv cv l cap b a vs xs _ (by decide) hr hc (by omega) (by rw [← HVL.out]; omega) hcv (row8_below HV.out HWC.out) HL.out HXR.out hcap (row8_below HX.out HWC.out)) ?_
  rintro e wD ⟨gq, mq, rfl, hmq, hgq, hhq, hbD⟩
  have hT : Row8 wD (some ⟨gl, 0, none⟩) (mulM lv lv vs xs 1) := by rw [← left_mul]; exact row8_own (heap_later HLC.out hbD)
  have q1 := fun o => conv8 (ca := lv) (la := lv) (by rw [mulM_len]; omega) (row8_alloc hT o)
  have q2 := fun o => conv8 (ca := mq) (la := mq) (by rw [mulM_len]; exact hmq) (row8_alloc (row8_own hhq) o)
  have HWD : Hid (Below w.heap.size w wD) := HWC.out.trans (hbD.mono HWC.out.size)
  clear hbD hhq hT hmq hgq HAC HWC e1 e2 e3
  go_wp2
  go_ret
  exact ⟨by simp, HWD.out.alloc HWD.out.size _⟩
set_option maxRecDepth 100000 in
set_option maxHeartbeats 4000000 in
theorem vectors_C (r c : Nat) (l cap lv cv : Nat) (a b : Option Addr) (xs vs : List F) (w : World) (hr : r ≤ 64) (hc : c ≤ 64) (hl : l = r * c) (h1 : lv = c) (h2 : lv ≠ r) (hx : l = xs.length) (hcap : l ≤ cap) (hm : cap ≤ 140737488351232) (hX : Row8 w a xs) (hna : a = none → cap = 0)
    (hv : lv = vs.length) (hcv : lv ≤ cv) (hmv : cv ≤ 140737488351232) (hV : Row8 w b vs) (hnb : b = none → cv = 0) (s : Addr) (hs : w.cell? ⟨0, 0, none⟩ = some (errAt s)) :
    Calls Tryd.prog 6 #[.agg #[.int .i64 r, .int .i64 c, .slice a l cap], .slice b lv cv] w fun e w' => e = .returned (.bool true) ∧ Below w.heap.size w w' := by
  have HXL : Hid _ := hx
  have HVL : Hid _ := hv
  have HX : Hid (Row8 w a xs) := hX
  have HV : Hid (Row8 w b vs) := hV
  have HNA : Hid _ := hna
  have HNB : Hid _ := hnb
  have HS : Hid _ := hs
  have HL : Hid _ := hl
  have HXR : Hid (xs.length = r * c) := by show _ = _; rw [← hx]; exact hl
  have H1 : Hid _ := h1
  have H2 : Hid _ := h2
  clear hl h1 h2
  have hu : ((lv : Int) == (r : Int)) = false := by rw [beq_eq_false_iff_ne]; exact fun e => H2.out (by omega)
  clear hx hX hna hv hV hnb hs
  go_enter Tryd.func6, Tryd.ntmps6
  go_wp2_with fail
  refine Calls.mono (alive_ok _) ?_
  rintro e w1 ⟨rfl, hb1⟩
  have hA := heap_later (heap_alloc_last w (.cells #[.int .i64 r, .int .i64 c, .slice a l cap] 24)) hb1
  have HW1 : Hid (Below w.heap.size w w1) := ((Below.refl w.heap.size w).alloc (Nat.le_refl _) _).trans (hb1.mono (by simp))
  have c1 := cellAt hA 0 _ rfl
  have c2 := cellAt hA 1 _ rfl
  have c3 := cellAt hA 2 _ rfl
  have HA1 : Hid _ := hA
  clear hb1 hA
  go_wp2_with fail
  refine Calls.mono (in_F r c l cap a xs _ HXL.out (by omega) (row8_below HX.out HW1.out) HNA.out) ?_
  rintro e w2 ⟨gx, rfl, hgx, hhx, hb2⟩
  have HA2 : Hid _ := heap_later HA1.out hb2
  have HW2 : Hid (Below w.heap.size w w2) := HW1.out.trans (hb2.mono HW1.out.size)
  have HGX2 : Hid _ := hhx
  clear hb2 hhx hgx c1 c2 c3 HA1 HW1
  go_wp2_with fail
  refine Calls.mono (bytes_F b lv cv vs _ HVL.out (by omega) (row8_below HV.out HW2.out) HNB.out) ?_
  rintro e w3 ⟨gv, rfl, hgv, hb3, hhv⟩
  have HA3 : Hid _ := heap_later HA2.out hb3
  have HGX3 : Hid _ := heap_later HGX2.out hb3
  have HGV3 : Hid _ := hhv
  have HW3 : Hid (Below w.heap.size w w3) := HW2.out.trans (hb3.mono HW2.out.size)
  clear hb3 hhv hgv HA2 HGX2 HW2
  have hAl := (Below.refl w3.heap.size w3).alloc (Nat.le_refl _) (.cells #[.int .i64 r, .int .i64 c, .slice (some ⟨gx, 0, none⟩) l (l + 6)] 24)
  have hB := heap_alloc_last w3 (.cells #[.int .i64 r, .int .i64 c, .slice (some ⟨gx, 0, none⟩) l (l + 6)] 24)
  have HA4 : Hid _ := heap_later HA3.out hAl
  have HGX4 : Hid _ := heap_later HGX3.out hAl
  have HGV4 : Hid _ := heap_later HGV3.out hAl
  have HB4 : Hid _ := hB
  have HW4 : Hid (Below w.heap.size w (w3.alloc (.cells #[.int .i64 r, .int .i64 c, .slice (some ⟨gx, 0, none⟩) l (l + 6)] 24))) := HW3.out.trans (hAl.mono HW3.out.size)
  have d1 : ∀ j v, (#[.int .i64 r, .int .i64 c, .slice (some ⟨gx, 0, none⟩) l (l + 6)] : Array Value)[j]? = some v → (w3.alloc (.cells #[.int .i64 r, .int .i64 c, .slice (some ⟨gx, 0, none⟩) l (l + 6)] 24)).cell? ⟨w3.heap.size, j, none⟩ = some v := fun j v h => cellAt hB j v h
  clear hAl hB HA3 HGX3 HGV3 HW3
  clear d1
  go_wp2_with fail
  generalize hN : w3.heap.size = N at *
  generalize (w3.alloc (.cells #[.int .i64 r, .int .i64 c, .slice (some ⟨gx, 0, none⟩) l (l + 6)] 24)) = W4 at *
  clear hN
  refine Calls.mono (times_F r c l (l + 6) lv (lv + 6) _ _ xs vs _ hr hc HL.out HXR.out (by omega) (row8_front HGX4.out) H1.out (by rw [← HVL.out]; exact H1.out) (row8_front HGV4.out)) ?_
  rintro e w5 ⟨gt, rfl, hgt, hht, hb5⟩
  have HT5 : Hid _ := hht
  have HA5 : Hid _ := heap_later HA4.out hb5
  have HB5 : Hid _ := heap_later HB4.out hb5
  have HGX5 : Hid _ := heap_later HGX4.out hb5
  have HGV5 : Hid _ := heap_later HGV4.out hb5
  have HW5 : Hid (Below w.heap.size w w5) := HW4.out.trans (hb5.mono HW4.out.size)
  have c1 := cellAt HB5.out 0 _ rfl
  have c2 := cellAt HB5.out 1 _ rfl
  have c3 := cellAt HB5.out 2 _ rfl
  clear hb5 HA4 HB4 HGX4 HGV4 HW4 hht hgt
  go_wp2_with fail
  refine Calls.mono (left_bad r c _ _ l (l + 6) lv (lv + 6) _ s (cell_later HW5.out HS.out) (.inr (fun e => H2.out (by omega)))) ?_
  rintro e w6 ⟨rfl, hb6⟩
  have HA6 : Hid _ := heap_later HA5.out hb6
  have HB6 : Hid _ := heap_later HB5.out hb6
  have HGX6 : Hid _ := heap_later HGX5.out hb6
  have HGV6 : Hid _ := heap_later HGV5.out hb6
  have HT6 : Hid _ := heap_later HT5.out hb6
  have HW6 : Hid (Below w.heap.size w w6) := HW5.out.trans (hb6.mono HW5.out.size)
  have c4 := cellAt HB6.out 2 _ rfl
  have c5 := cellAt HA6.out 2 _ rfl
  clear hb6 HA5 HB5 HGX5 HGV5 HW5 c1 c2 c3
  go_wp2_with fail
  refine Calls.mono (kept_F gx l cap a xs _ HXL.out (by omega) hcap HGX6.out (row8_below HX.out HW6.out)) ?_
  rintro e w7 ⟨rfl, hb7⟩
  have HA7 : Hid _ := heap_later HA6.out hb7
  have HGV7 : Hid _ := heap_later HGV6.out hb7
  have HT7 : Hid _ := heap_later HT6.out hb7
  have HW7 : Hid (Below w.heap.size w w7) := HW6.out.trans (hb7.mono HW6.out.size)
  clear hb7 HA6 HB6 HGX6 HGV6 HW6 c4 c5
  go_wp2_with fail
  refine Calls.mono (kept_F gv lv cv b vs _ HVL.out (by omega) hcv HGV7.out (row8_below HV.out HW7.out)) ?_
  rintro e w8 ⟨rfl, hb8⟩
  have HA8 : Hid _ := heap_later HA7.out hb8
  have HT8 : Hid _ := heap_later HT7.out hb8
  have HW8 : Hid (Below w.heap.size w w8) := HW7.out.trans (hb8.mono HW7.out.size)
  have c1 := cellAt HA8.out 0 _ rfl
  have c2 := cellAt HA8.out 1 _ rfl
  have c3 := cellAt HA8.out 2 _ rfl
  clear hb8 HA7 HGV7 HW7
  go_wp2_with fail
  refine Calls.mono (inForm_yes r c a l cap _ hr hc HL.out) ?_
  rintro e w9 ⟨rfl, hb9⟩
  have HA9 : Hid _ := heap_later HA8.out hb9
  have HT9 : Hid _ := heap_later HT8.out hb9
  have HW9 : Hid (Below w.heap.size w w9) := HW8.out.trans (hb9.mono HW8.out.size)
  have d1 := cellAt HA9.out 0 _ rfl
  have d2 := cellAt HA9.out 1 _ rfl
  have d3 := cellAt HA9.out 2 _ rfl
  clear hb9 HA8 HW8 c1 c2 c3
  have e0 := H1.out
  subst e0
  go_wp2_with fail
  refine Calls.mono (rproduct_F r lv 1 l cap lv cv a b xs vs _ hr hc (by decide) HL.out HXR.out hcap (row8_below HX.out HW9.out) (by omega) (by rw [← HVL.out]; omega) hcv (row8_below HV.out HW9.out)) ?_
  rintro e wA ⟨gp, mp, rfl, hmp, hgp, hhp, hbA⟩
  have HAA : Hid _ := heap_later HA9.out hbA
  have hT : Row8 wA (some ⟨gt, 0, none⟩) (mulM lv 1 xs vs r) := by rw [← times_mul]; exact row8_own (heap_later HT9.out hbA)
  have q1 := fun o => conv8 (ca := r) (la := r) (by rw [mulM_len]; omega) (row8_alloc hT o)
  have q2 := fun o => conv8 (ca := mp) (la := mp) (by rw [mulM_len]; exact hmp) (row8_alloc (row8_own hhp) o)
  have HWA : Hid (Below w.heap.size w wA) := HW9.out.trans (hbA.mono HW9.out.size)
  have zA := ltHeap HAA.out
  have c1 := cellAt HAA.out 0 _ rfl
  have c2 := cellAt HAA.out 1 _ rfl
  have c3 := cellAt HAA.out 2 _ rfl
  clear hbA hhp hT hmp hgp HA9 HW9 d1 d2 d3
  go_wp2_with fail
  clear q1 q2
  have hAl := (Below.refl wA.heap.size wA).alloc (Nat.le_refl _) (.cells #[.int .i64 r, .int .i64 1, .slice (some ⟨gp, 0, none⟩) mp mp] 24)
  have HWB : Hid (Below w.heap.size w (wA.alloc (.cells #[.int .i64 r, .int .i64 1, .slice (some ⟨gp, 0, none⟩) mp mp] 24))) := HWA.out.trans (hAl.mono HWA.out.size)
  have HAB : Hid _ := heap_later HAA.out hAl
  clear hAl HWA HAA
  refine Calls.mono (inForm_yes r lv a l cap _ hr hc HL.out) ?_
  rintro e wC ⟨rfl, hbC⟩
  have HAC : Hid _ := heap_later HAB.out hbC
  have HWC : Hid (Below w.heap.size w wC) := HWB.out.trans (hbC.mono HWB.out.size)
  have e1 := cellAt HAC.out 0 _ rfl
  have e2 := cellAt HAC.out 1 _ rfl
  have e3 := cellAt HAC.out 2 _ rfl
  clear hbC HAB HWB
  have c8 := cell_later HWC.out HS.out
  have q8 := eq_same wC s
  unfold errAt at *
  go_wp2
  go_ret
  exact ⟨rfl, HWC.out⟩
set_option maxRecDepth 100000 in
set_option maxHeartbeats 4000000 in
theorem vectors_D (r c : Nat) (l cap lv cv : Nat) (a b : Option Addr) (xs vs : List F) (w : World) (hr : r ≤ 64) (hc : c ≤ 64) (hl : l = r * c) (h1 : lv ≠ c) (h2 : lv = r) (hx : l = xs.length) (hcap : l ≤ cap) (hm : cap ≤ 140737488351232) (hX : Row8 w a xs) (hna : a = none → cap = 0)
    (hv : lv = vs.length) (hcv : lv ≤ cv) (hmv : cv ≤ 140737488351232) (hV : Row8 w b vs) (hnb : b = none → cv = 0) (s : Addr) (hs : w.cell? ⟨0, 0, none⟩ = some (errAt s)) :
    Calls Tryd.prog 6 #[.agg #[.int .i64 r, .int .i64 c, .slice a l cap], .slice b lv cv] w fun e w' => e = .returned (.bool true) ∧ Below w.heap.size w w' := by
  have HXL : Hid _ := hx
  have HVL : Hid _ := hv
  have HX : Hid (Row8 w a xs) := hX
  have HV : Hid (Row8 w b vs) := hV
  have HNA : Hid _ := hna
  have HNB : Hid _ := hnb
  have HS : Hid _ := hs
  have HL : Hid _ := hl
  have HXR : Hid (xs.length = r * c) := by show _ = _; rw [← hx]; exact hl
  have H1 : Hid _ := h1
  have H2 : Hid _ := h2
  clear hl h1 h2
  have ht : ((lv : Int) == (c : Int)) = false := by rw [beq_eq_false_iff_ne]; exact fun e => H1.out (by omega)
  clear hx hX hna hv hV hnb hs
  go_enter Tryd.func6, Tryd.ntmps6
  go_wp2_with fail
  refine Calls.mono (alive_ok _) ?_
  rintro e w1 ⟨rfl, hb1⟩
  have hA := heap_later (heap_alloc_last w (.cells #[.int .i64 r, .int .i64 c, .slice a l cap] 24)) hb1
  have HW1 : Hid (Below w.heap.size w w1) := ((Below.refl w.heap.size w).alloc (Nat.le_refl _) _).trans (hb1.mono (by simp))
  have c1 := cellAt hA 0 _ rfl
  have c2 := cellAt hA 1 _ rfl
  have c3 := cellAt hA 2 _ rfl
  have HA1 : Hid _ := hA
  clear hb1 hA
  go_wp2_with fail
  refine Calls.mono (in_F r c l cap a xs _ HXL.out (by omega) (row8_below HX.out HW1.out) HNA.out) ?_
  rintro e w2 ⟨gx, rfl, hgx, hhx, hb2⟩
  have HA2 : Hid _ := heap_later HA1.out hb2
  have HW2 : Hid (Below w.heap.size w w2) := HW1.out.trans (hb2.mono HW1.out.size)
  have HGX2 : Hid _ := hhx
  clear hb2 hhx hgx c1 c2 c3 HA1 HW1
  go_wp2_with fail
  refine Calls.mono (bytes_F b lv cv vs _ HVL.out (by omega) (row8_below HV.out HW2.out) HNB.out) ?_
  rintro e w3 ⟨gv, rfl, hgv, hb3, hhv⟩
  have HA3 : Hid _ := heap_later HA2.out hb3
  have HGX3 : Hid _ := heap_later HGX2.out hb3
  have HGV3 : Hid _ := hhv
  have HW3 : Hid (Below w.heap.size w w3) := HW2.out.trans (hb3.mono HW2.out.size)
  clear hb3 hhv hgv HA2 HGX2 HW2
  have hAl := (Below.refl w3.heap.size w3).alloc (Nat.le_refl _) (.cells #[.int .i64 r, .int .i64 c, .slice (some ⟨gx, 0, none⟩) l (l + 6)] 24)
  have hB := heap_alloc_last w3 (.cells #[.int .i64 r, .int .i64 c, .slice (some ⟨gx, 0, none⟩) l (l + 6)] 24)
  have HA4 : Hid _ := heap_later HA3.out hAl
  have HGX4 : Hid _ := heap_later HGX3.out hAl
  have HGV4 : Hid _ := heap_later HGV3.out hAl
  have HB4 : Hid _ := hB
  have HW4 : Hid (Below w.heap.size w (w3.alloc (.cells #[.int .i64 r, .int .i64 c, .slice (some ⟨gx, 0, none⟩) l (l + 6)] 24))) := HW3.out.trans (hAl.mono HW3.out.size)
  have d1 : ∀ j v, (#[.int .i64 r, .int .i64 c, .slice (some ⟨gx, 0, none⟩) l (l + 6)] : Array Value)[j]? = some v → (w3.alloc (.cells #[.int .i64 r, .int .i64 c, .slice (some ⟨gx, 0, none⟩) l (l + 6)] 24)).cell? ⟨w3.heap.size, j, none⟩ = some v := fun j v h => cellAt hB j v h
  clear hAl hB HA3 HGX3 HGV3 HW3
  clear d1
  go_wp2_with fail
  generalize hN : w3.heap.size = N at *
  generalize (w3.alloc (.cells #[.int .i64 r, .int .i64 c, .slice (some ⟨gx, 0, none⟩) l (l + 6)] 24)) = W4 at *
  clear hN
  refine Calls.mono (times_bad r c _ _ l (l + 6) lv (lv + 6) _ s (cell_later HW4.out HS.out) (.inr (fun e => H1.out (by omega)))) ?_
  rintro e w5 ⟨rfl, hb5⟩
  have HA5 : Hid _ := heap_later HA4.out hb5
  have HB5 : Hid _ := heap_later HB4.out hb5
  have HGX5 : Hid _ := heap_later HGX4.out hb5
  have HGV5 : Hid _ := heap_later HGV4.out hb5
  have HW5 : Hid (Below w.heap.size w w5) := HW4.out.trans (hb5.mono HW4.out.size)
  have c1 := cellAt HB5.out 0 _ rfl
  have c2 := cellAt HB5.out 1 _ rfl
  have c3 := cellAt HB5.out 2 _ rfl
  clear hb5 HA4 HB4 HGX4 HGV4 HW4
  go_wp2_with fail
  refine Calls.mono (left_F r c l (l + 6) lv (lv + 6) _ _ xs vs _ hr hc HL.out HXR.out (by omega) (row8_front HGX5.out) H2.out (by rw [← HVL.out]; exact H2.out) (row8_front HGV5.out)) ?_
  rintro e w6 ⟨gl, rfl, hgl, hhl, hb6⟩
  have HL6 : Hid _ := hhl
  have HA6 : Hid _ := heap_later HA5.out hb6
  have HB6 : Hid _ := heap_later HB5.out hb6
  have HGX6 : Hid _ := heap_later HGX5.out hb6
  have HGV6 : Hid _ := heap_later HGV5.out hb6
  have HW6 : Hid (Below w.heap.size w w6) := HW5.out.trans (hb6.mono HW5.out.size)
  have c4 := cellAt HB6.out 2 _ rfl
  have c5 := cellAt HA6.out 2 _ rfl
  clear hb6 HA5 HB5 HGX5 HGV5 HW5 c1 c2 c3 hhl hgl
  go_wp2_with fail
  refine Calls.mono (kept_F gx l cap a xs _ HXL.out (by omega) hcap HGX6.out (row8_below HX.out HW6.out)) ?_
  rintro e w7 ⟨rfl, hb7⟩
  have HA7 : Hid _ := heap_later HA6.out hb7
  have HGV7 : Hid _ := heap_later HGV6.out hb7
  have HL7 : Hid _ := heap_later HL6.out hb7
  have HW7 : Hid (Below w.heap.size w w7) := HW6.out.trans (hb7.mono HW6.out.size)
  clear hb7 HA6 HB6 HGX6 HGV6 HW6 c4 c5
  go_wp2_with fail
  refine Calls.mono (kept_F gv lv cv b vs _ HVL.out (by omega) hcv HGV7.out (row8_below HV.out HW7.out)) ?_
  rintro e w8 ⟨rfl, hb8⟩
  have HA8 : Hid _ := heap_later HA7.out hb8
  have HL8 : Hid _ := heap_later HL7.out hb8
  have HW8 : Hid (Below w.heap.size w w8) := HW7.out.trans (hb8.mono HW7.out.size)
  have c1 := cellAt HA8.out 0 _ rfl
  have c2 := cellAt HA8.out 1 _ rfl
  have c3 := cellAt HA8.out 2 _ rfl
  clear hb8 HA7 HGV7 HW7
  go_wp2_with fail
  refine Calls.mono (inForm_yes r c a l cap _ hr hc HL.out) ?_
  rintro e w9 ⟨rfl, hb9⟩
  have HA9 : Hid _ := heap_later HA8.out hb9
  have HL9 : Hid _ := heap_later HL8.out hb9
  have HW9 : Hid (Below w.heap.size w w9) := HW8.out.trans (hb9.mono HW8.out.size)
  have d1 := cellAt HA9.out 0 _ rfl
  have d2 := cellAt HA9.out 1 _ rfl
  have d3 := cellAt HA9.out 2 _ rfl
  clear hb9 HA8 HW8 c1 c2 c3
  have c9 := cell_later HW9.out HS.out
  have q9 := neq_same w9 s
  unfold errAt at *
  go_wp2_with fail
  refine Calls.mono (inForm_yes r c a l cap _ hr hc HL.out) ?_
  rintro e wC ⟨rfl, hbC⟩
  have HAC : Hid _ := heap_later HA9.out hbC
  have HLC : Hid _ := heap_later HL9.out hbC
  have HWC : Hid (Below w.heap.size w wC) := HW9.out.trans (hbC.mono HW9.out.size)
  have e1 := cellAt HAC.out 0 _ rfl
  have e2 := cellAt HAC.out 1 _ rfl
  have e3 := cellAt HAC.out 2 _ rfl
  clear hbC HA9 HW9
  have e0 := H2.out
  subst e0
  go_wp2_with fail
  refine Calls.mono (rproduct_F 1 lv c lv cv l cap b a vs xs _ (by decide) hr hc (by omega) (by rw [← HVL.out]; omega) hcv (row8_below HV.out HWC.out) HL.out HXR.out hcap (row8_below HX.out HWC.out)) ?_
  rintro e wD ⟨gq, mq, rfl, hmq, hgq, hhq, hbD⟩
  have hT : Row8 wD (some ⟨gl, 0, none⟩) (mulM lv c vs xs 1) := by rw [← left_mul]; exact row8_own (heap_later HLC.out hbD)
  have q1 := fun o => conv8 (ca := c) (la := c) (by rw [mulM_len]; omega) (row8_alloc hT o)
  have q2 := fun o => conv8 (ca := mq) (la := mq) (by rw [mulM_len]; exact hmq) (row8_alloc (row8_own hhq) o)
  have HWD : Hid (Below w.heap.size w wD) := HWC.out.trans (hbD.mono HWC.out.size)
  clear hbD hhq hT hmq hgq HAC HWC e1 e2 e3
  go_wp2
  go_ret
  exact ⟨by simp, HWD.out.alloc HWD.out.size _⟩
set_option maxRecDepth 100000 in
set_option maxHeartbeats 4000000 in
theorem vectors_E (r c : Nat) (l cap lv cv : Nat) (a b : Option Addr) (xs vs : List F) (w : World) (hr : r ≤ 64) (hc : c ≤ 64) (hl : l = r * c) (h1 : lv ≠ c) (h2 : lv ≠ r) (hx : l = xs.length) (hcap : l ≤ cap) (hm : cap ≤ 140737488351232) (hX : Row8 w a xs) (hna : a = none → cap = 0)
    (hv : lv = vs.length) (hcv : lv ≤ cv) (hmv : cv ≤ 140737488351232) (hV : Row8 w b vs) (hnb : b = none → cv = 0) (s : Addr) (hs : w.cell? ⟨0, 0, none⟩ = some (errAt s)) :
    Calls Tryd.prog 6 #[.agg #[.int .i64 r, .int .i64 c, .slice a l cap], .slice b lv cv] w fun e w' => e = .returned (.bool true) ∧ Below w.heap.size w w' := by
  have HXL : Hid _ := hx
  have HVL : Hid _ := hv
  have HX : Hid (Row8 w a xs) := hX
  have HV : Hid (Row8 w b vs) := hV
  have HNA : Hid _ := hna
  have HNB : Hid _ := hnb
  have HS : Hid _ := hs
  have HL : Hid _ := hl
  have HXR : Hid (xs.length = r * c) := by show _ = _; rw [← hx]; exact hl
  have H1 : Hid _ := h1
  have H2 : Hid _ := h2
  clear hl h1 h2
  have ht : ((lv : Int) == (c : Int)) = false := by rw [beq_eq_false_iff_ne]; exact fun e => H1.out (by omega)
  have hu : ((lv : Int) == (r : Int)) = false := by rw [beq_eq_false_iff_ne]; exact fun e => H2.out (by omega)
  clear hx hX hna hv hV hnb hs
  go_enter Tryd.func6, Tryd.ntmps6
  go_wp2_with fail
  refine Calls.mono (alive_ok _) ?_
  rintro e w1 ⟨rfl, hb1⟩
  have hA := heap_later (heap_alloc_last w (.cells #[.int .i64 r, .int .i64 c, .slice a l cap] 24)) hb1
  have HW1 : Hid (Below w.heap.size w w1) := ((Below.refl w.heap.size w).alloc (Nat.le_refl _) _).trans (hb1.mono (by simp))
  have c1 := cellAt hA 0 _ rfl
  have c2 := cellAt hA 1 _ rfl
  have c3 := cellAt hA 2 _ rfl
  have HA1 : Hid _ := hA
  clear hb1 hA
  go_wp2_with fail
  refine Calls.mono (in_F r c l cap a xs _ HXL.out (by omega) (row8_below HX.out HW1.out) HNA.out) ?_
  rintro e w2 ⟨gx, rfl, hgx, hhx, hb2⟩
  have HA2 : Hid _ := heap_later HA1.out hb2
  have HW2 : Hid (Below w.heap.size w w2) := HW1.out.trans (hb2.mono HW1.out.size)
  have HGX2 : Hid _ := hhx
  clear hb2 hhx hgx c1 c2 c3 HA1 HW1
  go_wp2_with fail
  refine Calls.mono (bytes_F b lv cv vs _ HVL.out (by omega) (row8_below HV.out HW2.out) HNB.out) ?_
  rintro e w3 ⟨gv, rfl, hgv, hb3, hhv⟩
  have HA3 : Hid _ := heap_later HA2.out hb3
  have HGX3 : Hid _ := heap_later HGX2.out hb3
  have HGV3 : Hid _ := hhv
  have HW3 : Hid (Below w.heap.size w w3) := HW2.out.trans (hb3.mono HW2.out.size)
  clear hb3 hhv hgv HA2 HGX2 HW2
  have hAl := (Below.refl w3.heap.size w3).alloc (Nat.le_refl _) (.cells #[.int .i64 r, .int .i64 c, .slice (some ⟨gx, 0, none⟩) l (l + 6)] 24)
  have hB := heap_alloc_last w3 (.cells #[.int .i64 r, .int .i64 c, .slice (some ⟨gx, 0, none⟩) l (l + 6)] 24)
  have HA4 : Hid _ := heap_later HA3.out hAl
  have HGX4 : Hid _ := heap_later HGX3.out hAl
  have HGV4 : Hid _ := heap_later HGV3.out hAl
  have HB4 : Hid _ := hB
  have HW4 : Hid (Below w.heap.size w (w3.alloc (.cells #[.int .i64 r, .int .i64 c, .slice (some ⟨gx, 0, none⟩) l (l + 6)] 24))) := HW3.out.trans (hAl.mono HW3.out.size)
  have d1 : ∀ j v, (#[.int .i64 r, .int .i64 c, .slice (some ⟨gx, 0, none⟩) l (l + 6)] : Array Value)[j]? = some v → (w3.alloc (.cells #[.int .i64 r, .int .i64 c, .slice (some ⟨gx, 0, none⟩) l (l + 6)] 24)).cell? ⟨w3.heap.size, j, none⟩ = some v := fun j v h => cellAt hB j v h
  clear hAl hB HA3 HGX3 HGV3 HW3
  clear d1
  go_wp2_with fail
  generalize hN : w3.heap.size = N at *
  generalize (w3.alloc (.cells #[.int .i64 r, .int .i64 c, .slice (some ⟨gx, 0, none⟩) l (l + 6)] 24)) = W4 at *
  clear hN
  refine Calls.mono (times_bad r c _ _ l (l + 6) lv (lv + 6) _ s (cell_later HW4.out HS.out) (.inr (fun e => H1.out (by omega)))) ?_
  rintro e w5 ⟨rfl, hb5⟩
  have HA5 : Hid _ := heap_later HA4.out hb5
  have HB5 : Hid _ := heap_later HB4.out hb5
  have HGX5 : Hid _ := heap_later HGX4.out hb5
  have HGV5 : Hid _ := heap_later HGV4.out hb5
  have HW5 : Hid (Below w.heap.size w w5) := HW4.out.trans (hb5.mono HW4.out.size)
  have c1 := cellAt HB5.out 0 _ rfl
  have c2 := cellAt HB5.out 1 _ rfl
  have c3 := cellAt HB5.out 2 _ rfl
  clear hb5 HA4 HB4 HGX4 HGV4 HW4
  go_wp2_with fail
  refine Calls.mono (left_bad r c _ _ l (l + 6) lv (lv + 6) _ s (cell_later HW5.out HS.out) (.inr (fun e => H2.out (by omega)))) ?_
  rintro e w6 ⟨rfl, hb6⟩
  have HA6 : Hid _ := heap_later HA5.out hb6
  have HB6 : Hid _ := heap_later HB5.out hb6
  have HGX6 : Hid _ := heap_later HGX5.out hb6
  have HGV6 : Hid _ := heap_later HGV5.out hb6
  have HW6 : Hid (Below w.heap.size w w6) := HW5.out.trans (hb6.mono HW5.out.size)
  have c4 := cellAt HB6.out 2 _ rfl
  have c5 := cellAt HA6.out 2 _ rfl
  clear hb6 HA5 HB5 HGX5 HGV5 HW5 c1 c2 c3
  go_wp2_with fail
  refine Calls.mono (kept_F gx l cap a xs _ HXL.out (by omega) hcap HGX6.out (row8_below HX.out HW6.out)) ?_
  rintro e w7 ⟨rfl, hb7⟩
  have HA7 : Hid _ := heap_later HA6.out hb7
  have HGV7 : Hid _ := heap_later HGV6.out hb7
  have HW7 : Hid (Below w.heap.size w w7) := HW6.out.trans (hb7.mono HW6.out.size)
  clear hb7 HA6 HB6 HGX6 HGV6 HW6 c4 c5
  go_wp2_with fail
  refine Calls.mono (kept_F gv lv cv b vs _ HVL.out (by omega) hcv HGV7.out (row8_below HV.out HW7.out)) ?_
  rintro e w8 ⟨rfl, hb8⟩
  have HA8 : Hid _ := heap_later HA7.out hb8
  have HW8 : Hid (Below w.heap.size w w8) := HW7.out.trans (hb8.mono HW7.out.size)
  have c1 := cellAt HA8.out 0 _ rfl
  have c2 := cellAt HA8.out 1 _ rfl
  have c3 := cellAt HA8.out 2 _ rfl
  clear hb8 HA7 HGV7 HW7
  go_wp2_with fail
  refine Calls.mono (inForm_yes r c a l cap _ hr hc HL.out) ?_
  rintro e w9 ⟨rfl, hb9⟩
  have HA9 : Hid _ := heap_later HA8.out hb9
  have HW9 : Hid (Below w.heap.size w w9) := HW8.out.trans (hb9.mono HW8.out.size)
  have d1 := cellAt HA9.out 0 _ rfl
  have d2 := cellAt HA9.out 1 _ rfl
  have d3 := cellAt HA9.out 2 _ rfl
  clear hb9 HA8 HW8 c1 c2 c3
  have c9 := cell_later HW9.out HS.out
  have q9 := neq_same w9 s
  unfold errAt at *
  go_wp2_with fail
  refine Calls.mono (inForm_yes r c a l cap _ hr hc HL.out) ?_
  rintro e wC ⟨rfl, hbC⟩
  have HAC : Hid _ := heap_later HA9.out hbC
  have HWC : Hid (Below w.heap.size w wC) := HW9.out.trans (hbC.mono HW9.out.size)
  have e1 := cellAt HAC.out 0 _ rfl
  have e2 := cellAt HAC.out 1 _ rfl
  have e3 := cellAt HAC.out 2 _ rfl
  clear hbC HA9 HW9
  have c8 := cell_later HWC.out HS.out
  have q8 := eq_same wC s
  unfold errAt at *
  go_wp2
  go_ret
  exact ⟨rfl, HWC.out⟩
theorem vectors_walk (r c : Int) (l cap lv cv : Nat) (a b : Option Addr) (xs vs : List F) (w : World) (hx : l = xs.length) (hcap : l ≤ cap) (hm : cap ≤ 140737488351232) (hX : Row8 w a xs) (hna : a = none → cap = 0)
    (hv : lv = vs.length) (hcv : lv ≤ cv) (hmv : cv ≤ 140737488351232) (hV : Row8 w b vs) (hnb : b = none → cv = 0) (es : List Addr) (hes : ErrsAt w gsVectors es) :
    Calls Tryd.prog 6 #[.agg #[.int .i64 r, .int .i64 c, .slice a l cap], .slice b lv cv] w fun e w' => e = .returned (.bool true) ∧ Below w.heap.size w w' := by
  obtain ⟨s, _, hs, _⟩ := errs_at hes 0 0 rfl
  by_cases h1 : 0 ≤ r ∧ r ≤ 64 ∧ 0 ≤ c ∧ c ≤ 64 ∧ (l : Int) = r * c
  · obtain ⟨r, rfl⟩ := Int.eq_ofNat_of_zero_le h1.1
    obtain ⟨c, rfl⟩ := Int.eq_ofNat_of_zero_le h1.2.2.1
    have e1 : l = r * c := by have := h1.2.2.2.2; rw [← Int.natCast_mul] at this; omega
    by_cases h2 : lv = c
    · by_cases h3 : lv = r
      · exact vectors_B r c l cap lv cv a b xs vs w (by omega) (by omega) e1 h2 h3 hx hcap hm hX hna hv hcv hmv hV hnb s hs
      · exact vectors_C r c l cap lv cv a b xs vs w (by omega) (by omega) e1 h2 h3 hx hcap hm hX hna hv hcv hmv hV hnb s hs
    · by_cases h3 : lv = r
      · exact vectors_D r c l cap lv cv a b xs vs w (by omega) (by omega) e1 h2 h3 hx hcap hm hX hna hv hcv hmv hV hnb s hs
      · exact vectors_E r c l cap lv cv a b xs vs w (by omega) (by omega) e1 h2 h3 hx hcap hm hX hna hv hcv hmv hV hnb s hs
  · exact vectors_A r c l cap lv cv a b xs vs w h1 hx hcap hm hX hna hv hcv hmv hV hnb s hs
end Go.Proofs.YtagahiahhgafpaaDoor
