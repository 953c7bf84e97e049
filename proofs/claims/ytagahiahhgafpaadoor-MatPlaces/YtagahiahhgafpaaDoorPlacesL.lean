/- The walk of the statement MatPlaces, out of form, and in form with the list too long. -/
import Derived.Test.YtagahiahhgafpaaDoorMatIn
import Derived.Test.YtagahiahhgafpaaDoorMatAs
import Derived.Test.YtagahiahhgafpaaDoorMatAt
import Derived.Test.YtagahiahhgafpaaDoorPlacesK
import Derived.Test.YtagahiahhgafpaaDoorInts
import Derived.Test.YtagahiahhgafpaaDoorErrsNeq
import Derived.Test.YtagahiahhgafpaaDoorRefOf
import Derived.Deep.RegionHeld3
import Derived.BigQuiet
import Derived.Deep.QuietTactic
namespace Go.Proofs.YtagahiahhgafpaaDoor
open Go.RowKit Gf
set_option linter.unusedVariables false
set_option maxRecDepth 100000 in
set_option maxHeartbeats 8000000 in
theorem places_A (r c : Int) (l cap ln cn : Nat) (N0 N1 : Int) (a an : Option Addr) (xs : List F) (ns : List Int) (w : World) (h : ¬ (0 ≤ r ∧ r ≤ 64 ∧ 0 ≤ c ∧ c ≤ 64 ∧ (l : Int) = r * c)) (hx : l = xs.length) (hcap : l ≤ cap) (hm : cap ≤ 140737488351232) (hX : Row8 w a xs) (hna : a = none → cap = 0)
    (hv : ln = ns.length) (hcv : ln ≤ cn) (hmv : cn ≤ 17592186043904) (hV : RowI w an ns) (hnb : an = none → cn = 0) (es : List Addr) (hes : ErrsAt w gsNum es) (s0 s1 : Addr) (he0 : es[1]? = some s0) (he1 : es[11]? = some s1)
    (hs : w.cell? ⟨0, 0, none⟩ = some (errAt s0)) (hs1 : w.cell? ⟨1, 0, none⟩ = some (errAt s1)) :
    Calls Tryd.prog 4 #[.agg #[.int .i64 r, .int .i64 c, .slice a l cap], .slice an ln cn, .agg #[.int .i64 N0, .int .i64 N1]] w fun e w' => e = .returned (.bool true) ∧ Below w.heap.size w w' := by
  have HXL : Hid _ := hx
  have HVL : Hid _ := hv
  have HX : Hid (Row8 w a xs) := hX
  have HV : Hid (RowI w an ns) := hV
  have HNA : Hid _ := hna
  have HNB : Hid _ := hnb
  have HS : Hid _ := hs
  have HS1 : Hid _ := hs1
  have HES : Hid (ErrsAt w gsNum es) := hes
  have HE0 : Hid (es[1]? = some s0) := he0
  have HE1 : Hid (es[11]? = some s1) := he1
  have HF : Hid _ := h
  clear h
  clear hx hX hna hv hV hnb hs hs1 hes he0 he1
  go_enter Tryd.func4, Tryd.ntmps4
  go_wp2_with fail
  refine Calls.mono (alive_ok _) ?_
  rintro e w1 ⟨rfl, hb1⟩
  have hA := holds_later (holds_new (holds_new (holds_nil w) #[.int .i64 r, .int .i64 c, .slice a l cap] 24) #[.int .i64 N0, .int .i64 N1] 26) hb1
  rw [World.size_alloc] at hA
  have HW : Hid (Below w.heap.size w w1) := (((Below.refl w.heap.size w).alloc (Nat.le_refl _) _).alloc (by simp) _).trans (hb1.mono (by simp; omega))
  have HA : Hid _ := hA
  clear hb1 hA
  have qM0 := cellAt (holds_at HA.out 1 rfl) 0 _ rfl
  have qM1 := cellAt (holds_at HA.out 1 rfl) 1 _ rfl
  have qM2 := cellAt (holds_at HA.out 1 rfl) 2 _ rfl
  go_wp2_with fail
  refine Calls.mono (in_F r c l cap a xs _ HXL.out (by omega) (row8_below HX.out HW.out) HNA.out) ?_
  rintro e w2 ⟨gx, rfl, hgx, hh, hb⟩
  have hA := holds_later HA.out hb
  have hW := HW.out.trans (hb.mono HW.out.size)
  clear qM0 qM1 qM2
  have hA := holds_cons hA hh
  have HGX : Hid (w.heap.size ≤ gx) := Nat.le_trans HW.out.size hgx
  clear hgx
  clear HA HW hb hh
  have HA : Hid _ := hA
  have HW : Hid (Below w.heap.size w w2) := hW
  clear hA hW
  have qN0 := cellAt (holds_at HA.out 1 rfl) 0 _ rfl
  have qN1 := cellAt (holds_at HA.out 1 rfl) 1 _ rfl
  have qzN := ltHeap (holds_at HA.out 1 rfl)
  go_wp2_with fail
  have hA := holds_new HA.out #[.int .i64 r, .int .i64 c, .slice (some ⟨gx, 0, none⟩) l (l + 6)] 24
  have hW := HW.out.alloc HW.out.size (.cells #[.int .i64 r, .int .i64 c, .slice (some ⟨gx, 0, none⟩) l (l + 6)] 24)
  clear qN0 qN1 qzN
  clear HA HW
  have HA : Hid _ := hA
  have HW : Hid (Below w.heap.size w _) := hW
  clear hA hW
  refine Calls.mono (at_bad r c N0 N1 _ l (l + 6) _ s0 (cell_later HW.out HS.out) HF.out) ?_
  rintro e w3 ⟨rfl, hb⟩
  have hA := holds_later HA.out hb
  have hW := HW.out.trans (hb.mono HW.out.size)
  clear HA HW hb
  have HA : Hid _ := hA
  have HW : Hid (Below w.heap.size w w3) := hW
  clear hA hW
  have qx0 := cellAt (holds_at HA.out 0 rfl) 0 _ rfl
  have qx1 := cellAt (holds_at HA.out 0 rfl) 1 _ rfl
  have qx2 := cellAt (holds_at HA.out 0 rfl) 2 _ rfl
  have qN0 := cellAt (holds_at HA.out 2 rfl) 0 _ rfl
  have qN1 := cellAt (holds_at HA.out 2 rfl) 1 _ rfl
  go_wp2_with fail
  refine Calls.mono (row_bad r c N0 _ l (l + 6) _ s0 (cell_later HW.out HS.out) HF.out) ?_
  rintro e w4 ⟨rfl, hb⟩
  have hA := holds_later HA.out hb
  have hW := HW.out.trans (hb.mono HW.out.size)
  clear qx0 qx1 qx2 qN0 qN1
  clear HA HW hb
  have HA : Hid _ := hA
  have HW : Hid (Below w.heap.size w w4) := hW
  clear hA hW
  go_wp2_with fail
  refine Calls.mono (ints_F an ln cn ns _ HVL.out (by omega) (rowI_below HV.out HW.out) HNB.out) ?_
  rintro e w5 ⟨gi, rfl, hgi, hb, hh⟩
  have hA := holds_later HA.out hb
  have hW := HW.out.trans (hb.mono HW.out.size)
  have hA := holds_cons hA hh
  clear HA HW hb hh hgi
  have HA : Hid _ := hA
  have HW : Hid (Below w.heap.size w w5) := hW
  clear hA hW
  have qx0 := cellAt (holds_at HA.out 1 rfl) 0 _ rfl
  have qx1 := cellAt (holds_at HA.out 1 rfl) 1 _ rfl
  have qx2 := cellAt (holds_at HA.out 1 rfl) 2 _ rfl
  go_wp2_with fail
  refine Calls.mono (take_bad r c _ _ l (l + 6) ln (ln + 4) _ s0 (cell_later HW.out HS.out) HF.out) ?_
  rintro e w6 ⟨rfl, hb⟩
  have hA := holds_later HA.out hb
  have hW := HW.out.trans (hb.mono HW.out.size)
  clear qx0 qx1 qx2
  clear HA HW hb
  have HA : Hid _ := hA
  have HW : Hid (Below w.heap.size w w6) := hW
  clear hA hW
  have qx0 := cellAt (holds_at HA.out 1 rfl) 0 _ rfl
  have qx1 := cellAt (holds_at HA.out 1 rfl) 1 _ rfl
  have qx2 := cellAt (holds_at HA.out 1 rfl) 2 _ rfl
  have qzx := ltHeap (holds_at HA.out 1 rfl)
  have qM0 := cellAt (holds_at HA.out 4 rfl) 0 _ rfl
  have qM1 := cellAt (holds_at HA.out 4 rfl) 1 _ rfl
  have qM2 := cellAt (holds_at HA.out 4 rfl) 2 _ rfl
  have qzM := ltHeap (holds_at HA.out 4 rfl)
  go_wp2_with fail
  have hA := holds_new HA.out #[.int .i64 0, .int .i64 0, .slice none 0 0] 24
  have hW := HW.out.alloc HW.out.size (.cells #[.int .i64 0, .int .i64 0, .slice none 0 0] 24)
  clear qx0 qx1 qx2 qzx qM0 qM1 qM2 qzM
  clear HA HW
  have HA : Hid _ := hA
  have HW : Hid (Below w.heap.size w _) := hW
  clear hA hW
  refine Calls.mono (kept_F gx l cap a xs _ HXL.out (by omega) hcap (holds_at HA.out 3 rfl) (row8_below HX.out HW.out)) ?_
  rintro e w7 ⟨rfl, hb⟩
  have hA := holds_later HA.out hb
  have hW := HW.out.trans (hb.mono HW.out.size)
  clear HA HW hb
  have HA : Hid _ := hA
  have HW : Hid (Below w.heap.size w w7) := hW
  clear hA hW
  go_wp2_with fail
  refine Calls.mono (keptInts_F gi ln cn an ns _ HVL.out (by omega) hcv (holds_at HA.out 1 rfl) (rowI_below HV.out HW.out)) ?_
  rintro e w8 ⟨rfl, hb⟩
  have hA := holds_later HA.out hb
  have hW := HW.out.trans (hb.mono HW.out.size)
  clear HA HW hb
  have HA : Hid _ := hA
  have HW : Hid (Below w.heap.size w w8) := hW
  clear hA hW
  have qM0 := cellAt (holds_at HA.out 5 rfl) 0 _ rfl
  have qM1 := cellAt (holds_at HA.out 5 rfl) 1 _ rfl
  have qM2 := cellAt (holds_at HA.out 5 rfl) 2 _ rfl
  go_wp2_with fail
  refine Calls.mono (inForm_no r c a l cap _ HF.out) ?_
  rintro e w9 ⟨rfl, hb⟩
  have hA := holds_later HA.out hb
  have hW := HW.out.trans (hb.mono HW.out.size)
  clear qM0 qM1 qM2
  clear HA HW hb
  have HA : Hid _ := hA
  have HW : Hid (Below w.heap.size w w9) := hW
  clear hA hW
  have qt0 := cellAt (holds_at HA.out 0 rfl) 0 _ rfl
  have qt1 := cellAt (holds_at HA.out 0 rfl) 1 _ rfl
  have qt2 := cellAt (holds_at HA.out 0 rfl) 2 _ rfl
  have c9 := (cell_later HW.out HS.out)
  have q9 := eq_same w9 s0
  unfold errAt at *
  go_wp2_with fail
  refine Calls.mono (as_shape _ 0 0 none 0 0 _ es s0 (errsAt_below HES.out HW.out) HE0.out rfl) ?_
  rintro e wZ ⟨rfl, hb⟩
  have hW := HW.out.trans (hb.mono HW.out.size)
  go_wp2
  go_ret
  exact ⟨rfl, hW⟩
set_option maxRecDepth 100000 in
set_option maxHeartbeats 8000000 in
theorem places_1aL (r c : Nat) (l cap ln cn : Nat) (N0 N1 : Int) (a an : Option Addr) (xs : List F) (ns : List Int) (w : World) (hr : r ≤ 64) (hc : c ≤ 64) (hl : l = r * c) (h0 : N0 < 0) (hL : 64 < ln) (hx : l = xs.length) (hcap : l ≤ cap) (hm : cap ≤ 140737488351232) (hX : Row8 w a xs) (hna : a = none → cap = 0)
    (hv : ln = ns.length) (hcv : ln ≤ cn) (hmv : cn ≤ 17592186043904) (hV : RowI w an ns) (hnb : an = none → cn = 0) (es : List Addr) (hes : ErrsAt w gsNum es) (s0 s1 : Addr) (he0 : es[1]? = some s0) (he1 : es[11]? = some s1)
    (hs : w.cell? ⟨0, 0, none⟩ = some (errAt s0)) (hs1 : w.cell? ⟨1, 0, none⟩ = some (errAt s1)) :
    Calls Tryd.prog 4 #[.agg #[.int .i64 r, .int .i64 c, .slice a l cap], .slice an ln cn, .agg #[.int .i64 N0, .int .i64 N1]] w fun e w' => e = .returned (.bool true) ∧ Below w.heap.size w w' := by
  have HXL : Hid _ := hx
  have HVL : Hid _ := hv
  have HX : Hid (Row8 w a xs) := hX
  have HV : Hid (RowI w an ns) := hV
  have HNA : Hid _ := hna
  have HNB : Hid _ := hnb
  have HS : Hid _ := hs
  have HS1 : Hid _ := hs1
  have HES : Hid (ErrsAt w gsNum es) := hes
  have HE0 : Hid (es[1]? = some s0) := he0
  have HE1 : Hid (es[11]? = some s1) := he1
  have HL : Hid _ := hl
  have HXR : Hid (xs.length = r * c) := by show _ = _; rw [← hx]; exact hl
  clear hl
  clear hx hX hna hv hV hnb hs hs1 hes he0 he1
  go_enter Tryd.func4, Tryd.ntmps4
  go_wp2_with fail
  refine Calls.mono (alive_ok _) ?_
  rintro e w1 ⟨rfl, hb1⟩
  have hA := holds_later (holds_new (holds_new (holds_nil w) #[.int .i64 r, .int .i64 c, .slice a l cap] 24) #[.int .i64 N0, .int .i64 N1] 26) hb1
  rw [World.size_alloc] at hA
  have HW : Hid (Below w.heap.size w w1) := (((Below.refl w.heap.size w).alloc (Nat.le_refl _) _).alloc (by simp) _).trans (hb1.mono (by simp; omega))
  have HA : Hid _ := hA
  clear hb1 hA
  have qM0 := cellAt (holds_at HA.out 1 rfl) 0 _ rfl
  have qM1 := cellAt (holds_at HA.out 1 rfl) 1 _ rfl
  have qM2 := cellAt (holds_at HA.out 1 rfl) 2 _ rfl
  go_wp2_with fail
  refine Calls.mono (in_F r c l cap a xs _ HXL.out (by omega) (row8_below HX.out HW.out) HNA.out) ?_
  rintro e w2 ⟨gx, rfl, hgx, hh, hb⟩
  have hA := holds_later HA.out hb
  have hW := HW.out.trans (hb.mono HW.out.size)
  clear qM0 qM1 qM2
  have hA := holds_cons hA hh
  have HGX : Hid (w.heap.size ≤ gx) := Nat.le_trans HW.out.size hgx
  clear hgx
  clear HA HW hb hh
  have HA : Hid _ := hA
  have HW : Hid (Below w.heap.size w w2) := hW
  clear hA hW
  have qN0 := cellAt (holds_at HA.out 1 rfl) 0 _ rfl
  have qN1 := cellAt (holds_at HA.out 1 rfl) 1 _ rfl
  have qzN := ltHeap (holds_at HA.out 1 rfl)
  go_wp2_with fail
  have hA := holds_new HA.out #[.int .i64 r, .int .i64 c, .slice (some ⟨gx, 0, none⟩) l (l + 6)] 24
  have hW := HW.out.alloc HW.out.size (.cells #[.int .i64 r, .int .i64 c, .slice (some ⟨gx, 0, none⟩) l (l + 6)] 24)
  clear qN0 qN1 qzN
  clear HA HW
  have HA : Hid _ := hA
  have HW : Hid (Below w.heap.size w _) := hW
  clear hA hW
  refine Calls.mono (at_no r c l (l + 6) N0 N1 _ _ hr hc HL.out s1 (cell_later HW.out HS1.out) (by omega)) ?_
  rintro e w3 ⟨rfl, hb⟩
  have hA := holds_later HA.out hb
  have hW := HW.out.trans (hb.mono HW.out.size)
  clear HA HW hb
  have HA : Hid _ := hA
  have HW : Hid (Below w.heap.size w w3) := hW
  clear hA hW
  have qx0 := cellAt (holds_at HA.out 0 rfl) 0 _ rfl
  have qx1 := cellAt (holds_at HA.out 0 rfl) 1 _ rfl
  have qx2 := cellAt (holds_at HA.out 0 rfl) 2 _ rfl
  have qN0 := cellAt (holds_at HA.out 2 rfl) 0 _ rfl
  have qN1 := cellAt (holds_at HA.out 2 rfl) 1 _ rfl
  go_wp2_with fail
  refine Calls.mono (row_no r c l (l + 6) N0 _ _ hr hc HL.out s1 (cell_later HW.out HS1.out) (by omega)) ?_
  rintro e w4 ⟨rfl, hb⟩
  have hA := holds_later HA.out hb
  have hW := HW.out.trans (hb.mono HW.out.size)
  clear qx0 qx1 qx2 qN0 qN1
  clear HA HW hb
  have HA : Hid _ := hA
  have HW : Hid (Below w.heap.size w w4) := hW
  clear hA hW
  go_wp2_with fail
  refine Calls.mono (ints_F an ln cn ns _ HVL.out (by omega) (rowI_below HV.out HW.out) HNB.out) ?_
  rintro e w5 ⟨gi, rfl, hgi, hb, hh⟩
  have hA := holds_later HA.out hb
  have hW := HW.out.trans (hb.mono HW.out.size)
  have hA := holds_cons hA hh
  clear HA HW hb hh hgi
  have HA : Hid _ := hA
  have HW : Hid (Below w.heap.size w w5) := hW
  clear hA hW
  have qx0 := cellAt (holds_at HA.out 1 rfl) 0 _ rfl
  have qx1 := cellAt (holds_at HA.out 1 rfl) 1 _ rfl
  have qx2 := cellAt (holds_at HA.out 1 rfl) 2 _ rfl
  go_wp2_with fail
  refine Calls.mono (take_long r c _ _ l (l + 6) ln (ln + 4) _ s0 (cell_later HW.out HS.out) hr hc HL.out hL) ?_
  rintro e w6 ⟨rfl, hb⟩
  have hA := holds_later HA.out hb
  have hW := HW.out.trans (hb.mono HW.out.size)
  clear qx0 qx1 qx2
  clear HA HW hb
  have HA : Hid _ := hA
  have HW : Hid (Below w.heap.size w w6) := hW
  clear hA hW
  have qx0 := cellAt (holds_at HA.out 1 rfl) 0 _ rfl
  have qx1 := cellAt (holds_at HA.out 1 rfl) 1 _ rfl
  have qx2 := cellAt (holds_at HA.out 1 rfl) 2 _ rfl
  have qzx := ltHeap (holds_at HA.out 1 rfl)
  have qM0 := cellAt (holds_at HA.out 4 rfl) 0 _ rfl
  have qM1 := cellAt (holds_at HA.out 4 rfl) 1 _ rfl
  have qM2 := cellAt (holds_at HA.out 4 rfl) 2 _ rfl
  have qzM := ltHeap (holds_at HA.out 4 rfl)
  go_wp2_with fail
  have hA := holds_new HA.out #[.int .i64 0, .int .i64 0, .slice none 0 0] 24
  have hW := HW.out.alloc HW.out.size (.cells #[.int .i64 0, .int .i64 0, .slice none 0 0] 24)
  clear qx0 qx1 qx2 qzx qM0 qM1 qM2 qzM
  clear HA HW
  have HA : Hid _ := hA
  have HW : Hid (Below w.heap.size w _) := hW
  clear hA hW
  refine Calls.mono (kept_F gx l cap a xs _ HXL.out (by omega) hcap (holds_at HA.out 3 rfl) (row8_below HX.out HW.out)) ?_
  rintro e w7 ⟨rfl, hb⟩
  have hA := holds_later HA.out hb
  have hW := HW.out.trans (hb.mono HW.out.size)
  clear HA HW hb
  have HA : Hid _ := hA
  have HW : Hid (Below w.heap.size w w7) := hW
  clear hA hW
  go_wp2_with fail
  refine Calls.mono (keptInts_F gi ln cn an ns _ HVL.out (by omega) hcv (holds_at HA.out 1 rfl) (rowI_below HV.out HW.out)) ?_
  rintro e w8 ⟨rfl, hb⟩
  have hA := holds_later HA.out hb
  have hW := HW.out.trans (hb.mono HW.out.size)
  clear HA HW hb
  have HA : Hid _ := hA
  have HW : Hid (Below w.heap.size w w8) := hW
  clear hA hW
  have qM0 := cellAt (holds_at HA.out 5 rfl) 0 _ rfl
  have qM1 := cellAt (holds_at HA.out 5 rfl) 1 _ rfl
  have qM2 := cellAt (holds_at HA.out 5 rfl) 2 _ rfl
  go_wp2_with fail
  refine Calls.mono (inForm_yes r c a l cap _ hr hc HL.out) ?_
  rintro e w9 ⟨rfl, hb⟩
  have hA := holds_later HA.out hb
  have hW := HW.out.trans (hb.mono HW.out.size)
  clear qM0 qM1 qM2
  clear HA HW hb
  have HA : Hid _ := hA
  have HW : Hid (Below w.heap.size w w9) := hW
  clear hA hW
  have qN0 := cellAt (holds_at HA.out 4 rfl) 0 _ rfl
  have qN1 := cellAt (holds_at HA.out 4 rfl) 1 _ rfl
  have qM0 := cellAt (holds_at HA.out 5 rfl) 0 _ rfl
  have qM1 := cellAt (holds_at HA.out 5 rfl) 1 _ rfl
  have qM2 := cellAt (holds_at HA.out 5 rfl) 2 _ rfl
  have c9 := (cell_later HW.out HS1.out)
  have q9 := neq_same w9 s1
  unfold errAt at *
  have qt0 := cellAt (holds_at HA.out 0 rfl) 0 _ rfl
  have qt1 := cellAt (holds_at HA.out 0 rfl) 1 _ rfl
  have qt2 := cellAt (holds_at HA.out 0 rfl) 2 _ rfl
  have dL : decide ((64 : Int) < (ln : Int)) = true := by rw [decide_eq_true_iff]; omega
  go_wp2_with fail
  refine Calls.mono (as_shape _ 0 0 none 0 0 _ es s0 (errsAt_below HES.out HW.out) HE0.out rfl) ?_
  rintro e wZ ⟨rfl, hb⟩
  have hW := HW.out.trans (hb.mono HW.out.size)
  go_wp2
  go_ret
  exact ⟨rfl, hW⟩
set_option maxRecDepth 100000 in
set_option maxHeartbeats 8000000 in
theorem places_1bL (r c : Nat) (l cap ln cn : Nat) (N0 N1 : Int) (a an : Option Addr) (xs : List F) (ns : List Int) (w : World) (hr : r ≤ 64) (hc : c ≤ 64) (hl : l = r * c) (h0 : ¬ N0 < 0) (h1 : (r : Int) ≤ N0) (hL : 64 < ln) (hx : l = xs.length) (hcap : l ≤ cap) (hm : cap ≤ 140737488351232) (hX : Row8 w a xs) (hna : a = none → cap = 0)
    (hv : ln = ns.length) (hcv : ln ≤ cn) (hmv : cn ≤ 17592186043904) (hV : RowI w an ns) (hnb : an = none → cn = 0) (es : List Addr) (hes : ErrsAt w gsNum es) (s0 s1 : Addr) (he0 : es[1]? = some s0) (he1 : es[11]? = some s1)
    (hs : w.cell? ⟨0, 0, none⟩ = some (errAt s0)) (hs1 : w.cell? ⟨1, 0, none⟩ = some (errAt s1)) :
    Calls Tryd.prog 4 #[.agg #[.int .i64 r, .int .i64 c, .slice a l cap], .slice an ln cn, .agg #[.int .i64 N0, .int .i64 N1]] w fun e w' => e = .returned (.bool true) ∧ Below w.heap.size w w' := by
  have HXL : Hid _ := hx
  have HVL : Hid _ := hv
  have HX : Hid (Row8 w a xs) := hX
  have HV : Hid (RowI w an ns) := hV
  have HNA : Hid _ := hna
  have HNB : Hid _ := hnb
  have HS : Hid _ := hs
  have HS1 : Hid _ := hs1
  have HES : Hid (ErrsAt w gsNum es) := hes
  have HE0 : Hid (es[1]? = some s0) := he0
  have HE1 : Hid (es[11]? = some s1) := he1
  have HL : Hid _ := hl
  have HXR : Hid (xs.length = r * c) := by show _ = _; rw [← hx]; exact hl
  clear hl
  clear hx hX hna hv hV hnb hs hs1 hes he0 he1
  go_enter Tryd.func4, Tryd.ntmps4
  go_wp2_with fail
  refine Calls.mono (alive_ok _) ?_
  rintro e w1 ⟨rfl, hb1⟩
  have hA := holds_later (holds_new (holds_new (holds_nil w) #[.int .i64 r, .int .i64 c, .slice a l cap] 24) #[.int .i64 N0, .int .i64 N1] 26) hb1
  rw [World.size_alloc] at hA
  have HW : Hid (Below w.heap.size w w1) := (((Below.refl w.heap.size w).alloc (Nat.le_refl _) _).alloc (by simp) _).trans (hb1.mono (by simp; omega))
  have HA : Hid _ := hA
  clear hb1 hA
  have qM0 := cellAt (holds_at HA.out 1 rfl) 0 _ rfl
  have qM1 := cellAt (holds_at HA.out 1 rfl) 1 _ rfl
  have qM2 := cellAt (holds_at HA.out 1 rfl) 2 _ rfl
  go_wp2_with fail
  refine Calls.mono (in_F r c l cap a xs _ HXL.out (by omega) (row8_below HX.out HW.out) HNA.out) ?_
  rintro e w2 ⟨gx, rfl, hgx, hh, hb⟩
  have hA := holds_later HA.out hb
  have hW := HW.out.trans (hb.mono HW.out.size)
  clear qM0 qM1 qM2
  have hA := holds_cons hA hh
  have HGX : Hid (w.heap.size ≤ gx) := Nat.le_trans HW.out.size hgx
  clear hgx
  clear HA HW hb hh
  have HA : Hid _ := hA
  have HW : Hid (Below w.heap.size w w2) := hW
  clear hA hW
  have qN0 := cellAt (holds_at HA.out 1 rfl) 0 _ rfl
  have qN1 := cellAt (holds_at HA.out 1 rfl) 1 _ rfl
  have qzN := ltHeap (holds_at HA.out 1 rfl)
  go_wp2_with fail
  have hA := holds_new HA.out #[.int .i64 r, .int .i64 c, .slice (some ⟨gx, 0, none⟩) l (l + 6)] 24
  have hW := HW.out.alloc HW.out.size (.cells #[.int .i64 r, .int .i64 c, .slice (some ⟨gx, 0, none⟩) l (l + 6)] 24)
  clear qN0 qN1 qzN
  clear HA HW
  have HA : Hid _ := hA
  have HW : Hid (Below w.heap.size w _) := hW
  clear hA hW
  refine Calls.mono (at_no r c l (l + 6) N0 N1 _ _ hr hc HL.out s1 (cell_later HW.out HS1.out) (by omega)) ?_
  rintro e w3 ⟨rfl, hb⟩
  have hA := holds_later HA.out hb
  have hW := HW.out.trans (hb.mono HW.out.size)
  clear HA HW hb
  have HA : Hid _ := hA
  have HW : Hid (Below w.heap.size w w3) := hW
  clear hA hW
  have qx0 := cellAt (holds_at HA.out 0 rfl) 0 _ rfl
  have qx1 := cellAt (holds_at HA.out 0 rfl) 1 _ rfl
  have qx2 := cellAt (holds_at HA.out 0 rfl) 2 _ rfl
  have qN0 := cellAt (holds_at HA.out 2 rfl) 0 _ rfl
  have qN1 := cellAt (holds_at HA.out 2 rfl) 1 _ rfl
  go_wp2_with fail
  refine Calls.mono (row_no r c l (l + 6) N0 _ _ hr hc HL.out s1 (cell_later HW.out HS1.out) (by omega)) ?_
  rintro e w4 ⟨rfl, hb⟩
  have hA := holds_later HA.out hb
  have hW := HW.out.trans (hb.mono HW.out.size)
  clear qx0 qx1 qx2 qN0 qN1
  clear HA HW hb
  have HA : Hid _ := hA
  have HW : Hid (Below w.heap.size w w4) := hW
  clear hA hW
  go_wp2_with fail
  refine Calls.mono (ints_F an ln cn ns _ HVL.out (by omega) (rowI_below HV.out HW.out) HNB.out) ?_
  rintro e w5 ⟨gi, rfl, hgi, hb, hh⟩
  have hA := holds_later HA.out hb
  have hW := HW.out.trans (hb.mono HW.out.size)
  have hA := holds_cons hA hh
  clear HA HW hb hh hgi
  have HA : Hid _ := hA
  have HW : Hid (Below w.heap.size w w5) := hW
  clear hA hW
  have qx0 := cellAt (holds_at HA.out 1 rfl) 0 _ rfl
  have qx1 := cellAt (holds_at HA.out 1 rfl) 1 _ rfl
  have qx2 := cellAt (holds_at HA.out 1 rfl) 2 _ rfl
  go_wp2_with fail
  refine Calls.mono (take_long r c _ _ l (l + 6) ln (ln + 4) _ s0 (cell_later HW.out HS.out) hr hc HL.out hL) ?_
  rintro e w6 ⟨rfl, hb⟩
  have hA := holds_later HA.out hb
  have hW := HW.out.trans (hb.mono HW.out.size)
  clear qx0 qx1 qx2
  clear HA HW hb
  have HA : Hid _ := hA
  have HW : Hid (Below w.heap.size w w6) := hW
  clear hA hW
  have qx0 := cellAt (holds_at HA.out 1 rfl) 0 _ rfl
  have qx1 := cellAt (holds_at HA.out 1 rfl) 1 _ rfl
  have qx2 := cellAt (holds_at HA.out 1 rfl) 2 _ rfl
  have qzx := ltHeap (holds_at HA.out 1 rfl)
  have qM0 := cellAt (holds_at HA.out 4 rfl) 0 _ rfl
  have qM1 := cellAt (holds_at HA.out 4 rfl) 1 _ rfl
  have qM2 := cellAt (holds_at HA.out 4 rfl) 2 _ rfl
  have qzM := ltHeap (holds_at HA.out 4 rfl)
  go_wp2_with fail
  have hA := holds_new HA.out #[.int .i64 0, .int .i64 0, .slice none 0 0] 24
  have hW := HW.out.alloc HW.out.size (.cells #[.int .i64 0, .int .i64 0, .slice none 0 0] 24)
  clear qx0 qx1 qx2 qzx qM0 qM1 qM2 qzM
  clear HA HW
  have HA : Hid _ := hA
  have HW : Hid (Below w.heap.size w _) := hW
  clear hA hW
  refine Calls.mono (kept_F gx l cap a xs _ HXL.out (by omega) hcap (holds_at HA.out 3 rfl) (row8_below HX.out HW.out)) ?_
  rintro e w7 ⟨rfl, hb⟩
  have hA := holds_later HA.out hb
  have hW := HW.out.trans (hb.mono HW.out.size)
  clear HA HW hb
  have HA : Hid _ := hA
  have HW : Hid (Below w.heap.size w w7) := hW
  clear hA hW
  go_wp2_with fail
  refine Calls.mono (keptInts_F gi ln cn an ns _ HVL.out (by omega) hcv (holds_at HA.out 1 rfl) (rowI_below HV.out HW.out)) ?_
  rintro e w8 ⟨rfl, hb⟩
  have hA := holds_later HA.out hb
  have hW := HW.out.trans (hb.mono HW.out.size)
  clear HA HW hb
  have HA : Hid _ := hA
  have HW : Hid (Below w.heap.size w w8) := hW
  clear hA hW
  have qM0 := cellAt (holds_at HA.out 5 rfl) 0 _ rfl
  have qM1 := cellAt (holds_at HA.out 5 rfl) 1 _ rfl
  have qM2 := cellAt (holds_at HA.out 5 rfl) 2 _ rfl
  go_wp2_with fail
  refine Calls.mono (inForm_yes r c a l cap _ hr hc HL.out) ?_
  rintro e w9 ⟨rfl, hb⟩
  have hA := holds_later HA.out hb
  have hW := HW.out.trans (hb.mono HW.out.size)
  clear qM0 qM1 qM2
  clear HA HW hb
  have HA : Hid _ := hA
  have HW : Hid (Below w.heap.size w w9) := hW
  clear hA hW
  have qN0 := cellAt (holds_at HA.out 4 rfl) 0 _ rfl
  have qN1 := cellAt (holds_at HA.out 4 rfl) 1 _ rfl
  have qM0 := cellAt (holds_at HA.out 5 rfl) 0 _ rfl
  have qM1 := cellAt (holds_at HA.out 5 rfl) 1 _ rfl
  have qM2 := cellAt (holds_at HA.out 5 rfl) 2 _ rfl
  have c9 := (cell_later HW.out HS1.out)
  have q9 := neq_same w9 s1
  have d0 : decide (N0 < 0) = false := by simpa using h0
  unfold errAt at *
  have qt0 := cellAt (holds_at HA.out 0 rfl) 0 _ rfl
  have qt1 := cellAt (holds_at HA.out 0 rfl) 1 _ rfl
  have qt2 := cellAt (holds_at HA.out 0 rfl) 2 _ rfl
  have dL : decide ((64 : Int) < (ln : Int)) = true := by rw [decide_eq_true_iff]; omega
  go_wp2_with fail
  refine Calls.mono (as_shape _ 0 0 none 0 0 _ es s0 (errsAt_below HES.out HW.out) HE0.out rfl) ?_
  rintro e wZ ⟨rfl, hb⟩
  have hW := HW.out.trans (hb.mono HW.out.size)
  go_wp2
  go_ret
  exact ⟨rfl, hW⟩
set_option maxRecDepth 100000 in
set_option maxHeartbeats 8000000 in
theorem places_2aL (r c : Nat) (l cap ln cn : Nat) (i : Nat) (N1 : Int) (a an : Option Addr) (xs : List F) (ns : List Int) (w : World) (hr : r ≤ 64) (hc : c ≤ 64) (hl : l = r * c) (hi : i < r) (h2 : N1 < 0) (hL : 64 < ln) (hx : l = xs.length) (hcap : l ≤ cap) (hm : cap ≤ 140737488351232) (hX : Row8 w a xs) (hna : a = none → cap = 0)
    (hv : ln = ns.length) (hcv : ln ≤ cn) (hmv : cn ≤ 17592186043904) (hV : RowI w an ns) (hnb : an = none → cn = 0) (es : List Addr) (hes : ErrsAt w gsNum es) (s0 s1 : Addr) (he0 : es[1]? = some s0) (he1 : es[11]? = some s1)
    (hs : w.cell? ⟨0, 0, none⟩ = some (errAt s0)) (hs1 : w.cell? ⟨1, 0, none⟩ = some (errAt s1)) :
    Calls Tryd.prog 4 #[.agg #[.int .i64 r, .int .i64 c, .slice a l cap], .slice an ln cn, .agg #[.int .i64 (i : Int), .int .i64 N1]] w fun e w' => e = .returned (.bool true) ∧ Below w.heap.size w w' := by
  have HXL : Hid _ := hx
  have HVL : Hid _ := hv
  have HX : Hid (Row8 w a xs) := hX
  have HV : Hid (RowI w an ns) := hV
  have HNA : Hid _ := hna
  have HNB : Hid _ := hnb
  have HS : Hid _ := hs
  have HS1 : Hid _ := hs1
  have HES : Hid (ErrsAt w gsNum es) := hes
  have HE0 : Hid (es[1]? = some s0) := he0
  have HE1 : Hid (es[11]? = some s1) := he1
  have HL : Hid _ := hl
  have HXR : Hid (xs.length = r * c) := by show _ = _; rw [← hx]; exact hl
  clear hl
  clear hx hX hna hv hV hnb hs hs1 hes he0 he1
  go_enter Tryd.func4, Tryd.ntmps4
  go_wp2_with fail
  refine Calls.mono (alive_ok _) ?_
  rintro e w1 ⟨rfl, hb1⟩
  have hA := holds_later (holds_new (holds_new (holds_nil w) #[.int .i64 r, .int .i64 c, .slice a l cap] 24) #[.int .i64 (i : Int), .int .i64 N1] 26) hb1
  rw [World.size_alloc] at hA
  have HW : Hid (Below w.heap.size w w1) := (((Below.refl w.heap.size w).alloc (Nat.le_refl _) _).alloc (by simp) _).trans (hb1.mono (by simp; omega))
  have HA : Hid _ := hA
  clear hb1 hA
  have qM0 := cellAt (holds_at HA.out 1 rfl) 0 _ rfl
  have qM1 := cellAt (holds_at HA.out 1 rfl) 1 _ rfl
  have qM2 := cellAt (holds_at HA.out 1 rfl) 2 _ rfl
  go_wp2_with fail
  refine Calls.mono (in_F r c l cap a xs _ HXL.out (by omega) (row8_below HX.out HW.out) HNA.out) ?_
  rintro e w2 ⟨gx, rfl, hgx, hh, hb⟩
  have hA := holds_later HA.out hb
  have hW := HW.out.trans (hb.mono HW.out.size)
  clear qM0 qM1 qM2
  have hA := holds_cons hA hh
  have HGX : Hid (w.heap.size ≤ gx) := Nat.le_trans HW.out.size hgx
  clear hgx
  clear HA HW hb hh
  have HA : Hid _ := hA
  have HW : Hid (Below w.heap.size w w2) := hW
  clear hA hW
  have qN0 := cellAt (holds_at HA.out 1 rfl) 0 _ rfl
  have qN1 := cellAt (holds_at HA.out 1 rfl) 1 _ rfl
  have qzN := ltHeap (holds_at HA.out 1 rfl)
  go_wp2_with fail
  have hA := holds_new HA.out #[.int .i64 r, .int .i64 c, .slice (some ⟨gx, 0, none⟩) l (l + 6)] 24
  have hW := HW.out.alloc HW.out.size (.cells #[.int .i64 r, .int .i64 c, .slice (some ⟨gx, 0, none⟩) l (l + 6)] 24)
  clear qN0 qN1 qzN
  clear HA HW
  have HA : Hid _ := hA
  have HW : Hid (Below w.heap.size w _) := hW
  clear hA hW
  refine Calls.mono (at_no r c l (l + 6) (i : Int) N1 _ _ hr hc HL.out s1 (cell_later HW.out HS1.out) (by omega)) ?_
  rintro e w3 ⟨rfl, hb⟩
  have hA := holds_later HA.out hb
  have hW := HW.out.trans (hb.mono HW.out.size)
  clear HA HW hb
  have HA : Hid _ := hA
  have HW : Hid (Below w.heap.size w w3) := hW
  clear hA hW
  have qx0 := cellAt (holds_at HA.out 0 rfl) 0 _ rfl
  have qx1 := cellAt (holds_at HA.out 0 rfl) 1 _ rfl
  have qx2 := cellAt (holds_at HA.out 0 rfl) 2 _ rfl
  have qN0 := cellAt (holds_at HA.out 2 rfl) 0 _ rfl
  have qN1 := cellAt (holds_at HA.out 2 rfl) 1 _ rfl
  go_wp2_with fail
  refine Calls.mono (row_F r c l (l + 6) i _ xs _ hr hc HL.out HXR.out (by omega) (row8_front (holds_at HA.out 1 rfl)) (fun h => by cases h) hi) ?_
  rintro e w4 ⟨a2, cl, rfl, _, _, hrow, hb⟩
  have hA := holds_later HA.out hb
  have hW := HW.out.trans (hb.mono HW.out.size)
  clear qx0 qx1 qx2 qN0 qN1
  obtain ⟨gl, rfl, hgl, cur, hcur, hcu⟩ := hrow (fun h => by cases h)
  have HGL : Hid (w.heap.size ≤ gl) := Nat.le_trans HW.out.size hgl
  have HXLN : Hid (gx ≠ gl) := by have := ltHeap (holds_at HA.out 1 rfl); show _ ≠ _; omega
  have HCU : Hid _ := hcu
  have hA := holds_cons hA hcur
  clear HA HW hb hrow hgl hcu hcur
  have HA : Hid _ := hA
  have HW : Hid (Below w.heap.size w w4) := hW
  clear hA hW
  go_wp2_with fail
  refine Calls.mono (ints_F an ln cn ns _ HVL.out (by omega) (rowI_below HV.out HW.out) HNB.out) ?_
  rintro e w5 ⟨gi, rfl, hgi, hb, hh⟩
  have hA := holds_later HA.out hb
  have hW := HW.out.trans (hb.mono HW.out.size)
  have hA := holds_cons hA hh
  clear HA HW hb hh hgi
  have HA : Hid _ := hA
  have HW : Hid (Below w.heap.size w w5) := hW
  clear hA hW
  have qx0 := cellAt (holds_at HA.out 2 rfl) 0 _ rfl
  have qx1 := cellAt (holds_at HA.out 2 rfl) 1 _ rfl
  have qx2 := cellAt (holds_at HA.out 2 rfl) 2 _ rfl
  go_wp2_with fail
  refine Calls.mono (take_long r c _ _ l (l + 6) ln (ln + 4) _ s0 (cell_later HW.out HS.out) hr hc HL.out hL) ?_
  rintro e w6 ⟨rfl, hb⟩
  have hA := holds_later HA.out hb
  have hW := HW.out.trans (hb.mono HW.out.size)
  clear qx0 qx1 qx2
  clear HA HW hb
  have HA : Hid _ := hA
  have HW : Hid (Below w.heap.size w w6) := hW
  clear hA hW
  have qx0 := cellAt (holds_at HA.out 2 rfl) 0 _ rfl
  have qx1 := cellAt (holds_at HA.out 2 rfl) 1 _ rfl
  have qx2 := cellAt (holds_at HA.out 2 rfl) 2 _ rfl
  have qzx := ltHeap (holds_at HA.out 2 rfl)
  have qM0 := cellAt (holds_at HA.out 5 rfl) 0 _ rfl
  have qM1 := cellAt (holds_at HA.out 5 rfl) 1 _ rfl
  have qM2 := cellAt (holds_at HA.out 5 rfl) 2 _ rfl
  have qzM := ltHeap (holds_at HA.out 5 rfl)
  go_wp2_with fail
  have hA := holds_new HA.out #[.int .i64 0, .int .i64 0, .slice none 0 0] 24
  have hW := HW.out.alloc HW.out.size (.cells #[.int .i64 0, .int .i64 0, .slice none 0 0] 24)
  clear qx0 qx1 qx2 qzx qM0 qM1 qM2 qzM
  clear HA HW
  have HA : Hid _ := hA
  have HW : Hid (Below w.heap.size w _) := hW
  clear hA hW
  refine Calls.mono (kept_F gx l cap a xs _ HXL.out (by omega) hcap (holds_at HA.out 4 rfl) (row8_below HX.out HW.out)) ?_
  rintro e w7 ⟨rfl, hb⟩
  have hA := holds_later HA.out hb
  have hW := HW.out.trans (hb.mono HW.out.size)
  clear HA HW hb
  have HA : Hid _ := hA
  have HW : Hid (Below w.heap.size w w7) := hW
  clear hA hW
  go_wp2_with fail
  refine Calls.mono (keptInts_F gi ln cn an ns _ HVL.out (by omega) hcv (holds_at HA.out 1 rfl) (rowI_below HV.out HW.out)) ?_
  rintro e w8 ⟨rfl, hb⟩
  have hA := holds_later HA.out hb
  have hW := HW.out.trans (hb.mono HW.out.size)
  clear HA HW hb
  have HA : Hid _ := hA
  have HW : Hid (Below w.heap.size w w8) := hW
  clear hA hW
  have qM0 := cellAt (holds_at HA.out 6 rfl) 0 _ rfl
  have qM1 := cellAt (holds_at HA.out 6 rfl) 1 _ rfl
  have qM2 := cellAt (holds_at HA.out 6 rfl) 2 _ rfl
  go_wp2_with fail
  refine Calls.mono (inForm_yes r c a l cap _ hr hc HL.out) ?_
  rintro e w9 ⟨rfl, hb⟩
  have hA := holds_later HA.out hb
  have hW := HW.out.trans (hb.mono HW.out.size)
  clear qM0 qM1 qM2
  clear HA HW hb
  have HA : Hid _ := hA
  have HW : Hid (Below w.heap.size w w9) := hW
  clear hA hW
  have qN0 := cellAt (holds_at HA.out 5 rfl) 0 _ rfl
  have qN1 := cellAt (holds_at HA.out 5 rfl) 1 _ rfl
  have qM0 := cellAt (holds_at HA.out 6 rfl) 0 _ rfl
  have qM1 := cellAt (holds_at HA.out 6 rfl) 1 _ rfl
  have qM2 := cellAt (holds_at HA.out 6 rfl) 2 _ rfl
  have pM0 := boxB (holds_at HA.out 6 rfl) (ltHeap (holds_at HA.out 6 rfl)) 0 _ rfl
  have pM1 := boxB (holds_at HA.out 6 rfl) (ltHeap (holds_at HA.out 6 rfl)) 1 _ rfl
  have pM2 := boxB (holds_at HA.out 6 rfl) (ltHeap (holds_at HA.out 6 rfl)) 2 _ rfl
  have pN0 := boxB (holds_at HA.out 5 rfl) (ltHeap (holds_at HA.out 5 rfl)) 0 _ rfl
  have pN1 := boxB (holds_at HA.out 5 rfl) (ltHeap (holds_at HA.out 5 rfl)) 1 _ rfl
  have hl8 : Has8 w9 gl (rowAt c xs i) cl := ⟨cur, holds_at HA.out 2 rfl, HCU.out⟩
  have kl := conv_keep8 (la := c) (ca := cl) (by rw [rowAt_len HXR.out hi]) (row_keep (row8_has hl8))
  have hS : Below w9.heap.size w9 w9 := Below.refl _ _
  have hSd : Below w9.heap.size w9 w9.drew := (Below.refl _ _).drew
  clear hl8
  go_wp2
  refine wp_region_noPanic ?_
  refine wp_region_held_drew (S := fun u => Below w9.heap.size w9 u) (by kernel_rfl) ?_ (fun hHeld => ?_)
  · exact hSd
  refine wpAnyH_take (i := 0) (oi := { dst := some 116, op := Op.move (Operand.tmp 11), type := 30, pos := "law.go:89", after := #[], guard := none }) (v := ?_) rfl (by kernel_rfl) (by kernel_rfl) (by kernel_rfl) (fun _ _ _ h => h) (Or.inl ⟨by rfl, ?_⟩) hHeld ?_
  rotate_left
  · intro u hSw
    go_simp
    try with_reducible rfl
  try simp only [Act.put, List.setIfInBounds_toArray, List.set_cons_zero, List.set_cons_succ]
  refine wpAnyH_take (i := 1) (oi := { dst := some 117, op := Op.binOp BinOp.neq 30 (Operand.tmp 116) (Operand.const Value.nilIface) 30, type := 4, pos := "law.go:89", after := #[{ on := 0, ground := Ground.data }], guard := none }) (v := ?_) rfl (by kernel_rfl) (by kernel_rfl) (by kernel_rfl) (fun _ _ _ h => h) (Or.inl ⟨by rfl, ?_⟩) hHeld ?_
  rotate_left
  · intro u hSw
    go_simp
    try with_reducible rfl
  try simp only [Act.put, List.setIfInBounds_toArray, List.set_cons_zero, List.set_cons_succ]
  refine wpAnyH_take (i := 2) (oi := { dst := some 118, op := Op.move (Operand.tmp 117), type := 4, pos := "law.go:89", after := #[{ on := 1, ground := Ground.data }], guard := none }) (v := ?_) rfl (by kernel_rfl) (by kernel_rfl) (by kernel_rfl) (fun _ _ _ h => h) (Or.inl ⟨by rfl, ?_⟩) hHeld ?_
  rotate_left
  · intro u hSw
    go_simp
    try with_reducible rfl
  try simp only [Act.put, List.setIfInBounds_toArray, List.set_cons_zero, List.set_cons_succ]
  refine wpAnyH_take (i := 3) (oi := { dst := some 119, op := Op.move (Operand.tmp 10), type := 22, pos := "law.go:89", after := #[{ on := 2, ground := Ground.guard }], guard := some (2, false) }) (v := ?_) rfl (by kernel_rfl) (by kernel_rfl) (by kernel_rfl) (fun _ _ _ h => h) (Or.inl ⟨by rfl, ?_⟩) hHeld ?_
  rotate_left
  · intro u hSw
    go_simp
    try with_reducible rfl
  try simp only [Act.put, List.setIfInBounds_toArray, List.set_cons_zero, List.set_cons_succ]
  refine wpAnyH_take (i := 4) (oi := { dst := some 120, op := Op.convert 22 9 (Operand.tmp 119), type := 9, pos := "law.go:89", after := #[{ on := 3, ground := Ground.data }, { on := 2, ground := Ground.guard }], guard := some (2, false) }) (v := ?_) rfl (by kernel_rfl) (by kernel_rfl) (by kernel_rfl) (fun _ _ _ h => h) (Or.inl ⟨by rfl, ?_⟩) hHeld ?_
  rotate_left
  · intro u hSw
    go_simp
    try with_reducible rfl
  try simp only [Act.put, List.setIfInBounds_toArray, List.set_cons_zero, List.set_cons_succ]
  refine wpAnyH_take (i := 5) (oi := { dst := some 121, op := Op.load 24 (Operand.tmp 3), type := 24, pos := "law.go:89", after := #[{ on := 2, ground := Ground.guard }], guard := some (2, false) }) (v := ?_) rfl (by kernel_rfl) (by kernel_rfl) (by kernel_rfl) (fun _ _ _ h => h) (Or.inl ⟨by rfl, ?_⟩) hHeld ?_
  rotate_left
  · intro u hSw
    go_simp
    try with_reducible rfl
  try simp only [Act.put, List.setIfInBounds_toArray, List.set_cons_zero, List.set_cons_succ]
  refine wpAnyH_take (i := 6) (oi := { dst := some 122, op := Op.indexAddr 26 (Operand.tmp 5) (Operand.const (Value.int IntKind.i64 0)), type := 0, pos := "law.go:89", after := #[{ on := 2, ground := Ground.guard }], guard := some (2, false) }) (v := ?_) rfl (by kernel_rfl) (by kernel_rfl) (by kernel_rfl) (fun _ _ _ h => h) (Or.inl ⟨by rfl, ?_⟩) hHeld ?_
  rotate_left
  · intro u hSw
    go_simp
    try with_reducible rfl
  try simp only [Act.put, List.setIfInBounds_toArray, List.set_cons_zero, List.set_cons_succ]
  refine wpAnyH_take (i := 7) (oi := { dst := some 123, op := Op.load 3 (Operand.tmp 122), type := 3, pos := "law.go:89", after := #[{ on := 6, ground := Ground.data }, { on := 2, ground := Ground.guard }], guard := some (2, false) }) (v := ?_) rfl (by kernel_rfl) (by kernel_rfl) (by kernel_rfl) (fun _ _ _ h => h) (Or.inl ⟨by rfl, ?_⟩) hHeld ?_
  rotate_left
  · intro u hSw
    go_simp
    try with_reducible rfl
  try simp only [Act.put, List.setIfInBounds_toArray, List.set_cons_zero, List.set_cons_succ]
  refine wpAnyH_ready (rs := [8]) (by kernel_rfl) (by simp) ?_
  refine AllReadyH.cons (o := { dst := some 124, op := Op.call { callee := Callee.value (Operand.func 28), args := #[Operand.tmp 121, Operand.tmp 123], argTypes := #[24, 3] }, type := 22, pos := "law.go:89", after := #[{ on := 5, ground := Ground.data }, { on := 7, ground := Ground.data }, { on := 2, ground := Ground.chain }, { on := 2, ground := Ground.guard }], guard := some (2, false) }) rfl (fun K hK => ?_) AllReadyH.nil
  go_simp
  refine Calls.mono (rrow_F r c i l cap a xs _ hr hc hi HL.out HXR.out hcap (row8_below HX.out (HW.out.trans (Below.mono hSd HW.out.size))) HNA.out) ?_
  rintro e wi ⟨g2, c2, rfl, hg2, hh2, hb2⟩
  have hTa : Below w9.heap.size w9 wi := Below.trans hSd (Below.mono hb2 (below_size hSd))
  have k2 := conv8 (ca := c2) (la := c) (by rw [rowAt_len HXR.out hi]) (row8_has hh2)
  clear hh2 hg2 hb2
  go_wp2_with fail
  refine hK.out _ _ ?_ (fun hHeld => ?_)
  · exact hTa
  clear hK K
  try simp only [Act.put, List.setIfInBounds_toArray, List.set_cons_zero, List.set_cons_succ]
  refine wpAnyH_ready (rs := [9]) (by kernel_rfl) (by simp) ?_
  refine AllReadyH.cons (o := { dst := some 125, op := Op.convert 22 9 (Operand.tmp 124), type := 9, pos := "law.go:89", after := #[{ on := 8, ground := Ground.data }, { on := 2, ground := Ground.guard }], guard := some (2, false) }) rfl (fun K hK => ?_) AllReadyH.nil
  go_simp
  refine hK.out _ _ ?_ (fun hHeld => ?_)
  · exact hTa
  clear hK K
  try simp only [Act.put, List.setIfInBounds_toArray, List.set_cons_zero, List.set_cons_succ]
  refine wpAnyH_take (i := 10) (oi := { dst := some 126, op := Op.binOp BinOp.neq 9 (Operand.tmp 120) (Operand.tmp 125) 9, type := 4, pos := "law.go:89", after := #[{ on := 4, ground := Ground.data }, { on := 9, ground := Ground.data }, { on := 2, ground := Ground.guard }], guard := some (2, false) }) (v := ?_) rfl (by kernel_rfl) (by kernel_rfl) (by kernel_rfl) (fun _ _ _ h => h) (Or.inl ⟨by rfl, ?_⟩) hHeld ?_
  rotate_left
  · intro u hSw
    go_simp
    try with_reducible rfl
  try simp only [Act.put, List.setIfInBounds_toArray, List.set_cons_zero, List.set_cons_succ]
  refine wpAnyH_take (i := 11) (oi := { dst := some 127, op := Op.pick (Operand.tmp 118) (Operand.const (Value.bool true)) (Operand.tmp 126), type := 4, pos := "law.go:89", after := #[{ on := 2, ground := Ground.data }, { on := 10, ground := Ground.data }], guard := none }) (v := ?_) rfl (by kernel_rfl) (by kernel_rfl) (by kernel_rfl) (fun _ _ _ h => h) (Or.inl ⟨by rfl, ?_⟩) hHeld ?_
  rotate_left
  · intro u hSw
    go_simp
    try with_reducible rfl
  try simp only [Act.put, List.setIfInBounds_toArray, List.set_cons_zero, List.set_cons_succ]
  refine wpAnyH_done (by kernel_rfl) ?_ _
  refine NoPanic.normal ?_
  clear k2
  have hB9 := hTa
  have hA := holds_later HA.out hB9
  have hW := HW.out.trans (hB9.mono HW.out.size)
  clear HA HW
  have HA : Hid _ := hA
  have HW : Hid (Below w.heap.size w _) := hW
  clear hA hW qN0 qN1 qM0 qM1 qM2 pM0 pM1 pM2 pN0 pN1 kl hS hSd
  have qN0 := cellAt (holds_at HA.out 5 rfl) 0 _ rfl
  have qN1 := cellAt (holds_at HA.out 5 rfl) 1 _ rfl
  have qM0 := cellAt (holds_at HA.out 6 rfl) 0 _ rfl
  have qM1 := cellAt (holds_at HA.out 6 rfl) 1 _ rfl
  have qM2 := cellAt (holds_at HA.out 6 rfl) 2 _ rfl
  have c9 := (cell_later HW.out HS1.out)
  have q9 : ∀ u, _ := fun u => neq_same u s1
  unfold errAt at *
  have qt0 := cellAt (holds_at HA.out 0 rfl) 0 _ rfl
  have qt1 := cellAt (holds_at HA.out 0 rfl) 1 _ rfl
  have qt2 := cellAt (holds_at HA.out 0 rfl) 2 _ rfl
  have dL : decide ((64 : Int) < (ln : Int)) = true := by rw [decide_eq_true_iff]; omega
  go_wp2_with fail
  refine Calls.mono (as_shape _ 0 0 none 0 0 _ es s0 (errsAt_below HES.out HW.out) HE0.out rfl) ?_
  rintro e wZ ⟨rfl, hb⟩
  have hW := HW.out.trans (hb.mono HW.out.size)
  go_wp2
  go_ret
  exact ⟨rfl, hW⟩
set_option maxRecDepth 100000 in
set_option maxHeartbeats 8000000 in
theorem places_2bL (r c : Nat) (l cap ln cn : Nat) (i : Nat) (N1 : Int) (a an : Option Addr) (xs : List F) (ns : List Int) (w : World) (hr : r ≤ 64) (hc : c ≤ 64) (hl : l = r * c) (hi : i < r) (h2 : ¬ N1 < 0) (h3 : (c : Int) ≤ N1) (hL : 64 < ln) (hx : l = xs.length) (hcap : l ≤ cap) (hm : cap ≤ 140737488351232) (hX : Row8 w a xs) (hna : a = none → cap = 0)
    (hv : ln = ns.length) (hcv : ln ≤ cn) (hmv : cn ≤ 17592186043904) (hV : RowI w an ns) (hnb : an = none → cn = 0) (es : List Addr) (hes : ErrsAt w gsNum es) (s0 s1 : Addr) (he0 : es[1]? = some s0) (he1 : es[11]? = some s1)
    (hs : w.cell? ⟨0, 0, none⟩ = some (errAt s0)) (hs1 : w.cell? ⟨1, 0, none⟩ = some (errAt s1)) :
    Calls Tryd.prog 4 #[.agg #[.int .i64 r, .int .i64 c, .slice a l cap], .slice an ln cn, .agg #[.int .i64 (i : Int), .int .i64 N1]] w fun e w' => e = .returned (.bool true) ∧ Below w.heap.size w w' := by
  have HXL : Hid _ := hx
  have HVL : Hid _ := hv
  have HX : Hid (Row8 w a xs) := hX
  have HV : Hid (RowI w an ns) := hV
  have HNA : Hid _ := hna
  have HNB : Hid _ := hnb
  have HS : Hid _ := hs
  have HS1 : Hid _ := hs1
  have HES : Hid (ErrsAt w gsNum es) := hes
  have HE0 : Hid (es[1]? = some s0) := he0
  have HE1 : Hid (es[11]? = some s1) := he1
  have HL : Hid _ := hl
  have HXR : Hid (xs.length = r * c) := by show _ = _; rw [← hx]; exact hl
  clear hl
  clear hx hX hna hv hV hnb hs hs1 hes he0 he1
  go_enter Tryd.func4, Tryd.ntmps4
  go_wp2_with fail
  refine Calls.mono (alive_ok _) ?_
  rintro e w1 ⟨rfl, hb1⟩
  have hA := holds_later (holds_new (holds_new (holds_nil w) #[.int .i64 r, .int .i64 c, .slice a l cap] 24) #[.int .i64 (i : Int), .int .i64 N1] 26) hb1
  rw [World.size_alloc] at hA
  have HW : Hid (Below w.heap.size w w1) := (((Below.refl w.heap.size w).alloc (Nat.le_refl _) _).alloc (by simp) _).trans (hb1.mono (by simp; omega))
  have HA : Hid _ := hA
  clear hb1 hA
  have qM0 := cellAt (holds_at HA.out 1 rfl) 0 _ rfl
  have qM1 := cellAt (holds_at HA.out 1 rfl) 1 _ rfl
  have qM2 := cellAt (holds_at HA.out 1 rfl) 2 _ rfl
  go_wp2_with fail
  refine Calls.mono (in_F r c l cap a xs _ HXL.out (by omega) (row8_below HX.out HW.out) HNA.out) ?_
  rintro e w2 ⟨gx, rfl, hgx, hh, hb⟩
  have hA := holds_later HA.out hb
  have hW := HW.out.trans (hb.mono HW.out.size)
  clear qM0 qM1 qM2
  have hA := holds_cons hA hh
  have HGX : Hid (w.heap.size ≤ gx) := Nat.le_trans HW.out.size hgx
  clear hgx
  clear HA HW hb hh
  have HA : Hid _ := hA
  have HW : Hid (Below w.heap.size w w2) := hW
  clear hA hW
  have qN0 := cellAt (holds_at HA.out 1 rfl) 0 _ rfl
  have qN1 := cellAt (holds_at HA.out 1 rfl) 1 _ rfl
  have qzN := ltHeap (holds_at HA.out 1 rfl)
  go_wp2_with fail
  have hA := holds_new HA.out #[.int .i64 r, .int .i64 c, .slice (some ⟨gx, 0, none⟩) l (l + 6)] 24
  have hW := HW.out.alloc HW.out.size (.cells #[.int .i64 r, .int .i64 c, .slice (some ⟨gx, 0, none⟩) l (l + 6)] 24)
  clear qN0 qN1 qzN
  clear HA HW
  have HA : Hid _ := hA
  have HW : Hid (Below w.heap.size w _) := hW
  clear hA hW
  refine Calls.mono (at_no r c l (l + 6) (i : Int) N1 _ _ hr hc HL.out s1 (cell_later HW.out HS1.out) (by omega)) ?_
  rintro e w3 ⟨rfl, hb⟩
  have hA := holds_later HA.out hb
  have hW := HW.out.trans (hb.mono HW.out.size)
  clear HA HW hb
  have HA : Hid _ := hA
  have HW : Hid (Below w.heap.size w w3) := hW
  clear hA hW
  have qx0 := cellAt (holds_at HA.out 0 rfl) 0 _ rfl
  have qx1 := cellAt (holds_at HA.out 0 rfl) 1 _ rfl
  have qx2 := cellAt (holds_at HA.out 0 rfl) 2 _ rfl
  have qN0 := cellAt (holds_at HA.out 2 rfl) 0 _ rfl
  have qN1 := cellAt (holds_at HA.out 2 rfl) 1 _ rfl
  go_wp2_with fail
  refine Calls.mono (row_F r c l (l + 6) i _ xs _ hr hc HL.out HXR.out (by omega) (row8_front (holds_at HA.out 1 rfl)) (fun h => by cases h) hi) ?_
  rintro e w4 ⟨a2, cl, rfl, _, _, hrow, hb⟩
  have hA := holds_later HA.out hb
  have hW := HW.out.trans (hb.mono HW.out.size)
  clear qx0 qx1 qx2 qN0 qN1
  obtain ⟨gl, rfl, hgl, cur, hcur, hcu⟩ := hrow (fun h => by cases h)
  have HGL : Hid (w.heap.size ≤ gl) := Nat.le_trans HW.out.size hgl
  have HXLN : Hid (gx ≠ gl) := by have := ltHeap (holds_at HA.out 1 rfl); show _ ≠ _; omega
  have HCU : Hid _ := hcu
  have hA := holds_cons hA hcur
  clear HA HW hb hrow hgl hcu hcur
  have HA : Hid _ := hA
  have HW : Hid (Below w.heap.size w w4) := hW
  clear hA hW
  go_wp2_with fail
  refine Calls.mono (ints_F an ln cn ns _ HVL.out (by omega) (rowI_below HV.out HW.out) HNB.out) ?_
  rintro e w5 ⟨gi, rfl, hgi, hb, hh⟩
  have hA := holds_later HA.out hb
  have hW := HW.out.trans (hb.mono HW.out.size)
  have hA := holds_cons hA hh
  clear HA HW hb hh hgi
  have HA : Hid _ := hA
  have HW : Hid (Below w.heap.size w w5) := hW
  clear hA hW
  have qx0 := cellAt (holds_at HA.out 2 rfl) 0 _ rfl
  have qx1 := cellAt (holds_at HA.out 2 rfl) 1 _ rfl
  have qx2 := cellAt (holds_at HA.out 2 rfl) 2 _ rfl
  go_wp2_with fail
  refine Calls.mono (take_long r c _ _ l (l + 6) ln (ln + 4) _ s0 (cell_later HW.out HS.out) hr hc HL.out hL) ?_
  rintro e w6 ⟨rfl, hb⟩
  have hA := holds_later HA.out hb
  have hW := HW.out.trans (hb.mono HW.out.size)
  clear qx0 qx1 qx2
  clear HA HW hb
  have HA : Hid _ := hA
  have HW : Hid (Below w.heap.size w w6) := hW
  clear hA hW
  have qx0 := cellAt (holds_at HA.out 2 rfl) 0 _ rfl
  have qx1 := cellAt (holds_at HA.out 2 rfl) 1 _ rfl
  have qx2 := cellAt (holds_at HA.out 2 rfl) 2 _ rfl
  have qzx := ltHeap (holds_at HA.out 2 rfl)
  have qM0 := cellAt (holds_at HA.out 5 rfl) 0 _ rfl
  have qM1 := cellAt (holds_at HA.out 5 rfl) 1 _ rfl
  have qM2 := cellAt (holds_at HA.out 5 rfl) 2 _ rfl
  have qzM := ltHeap (holds_at HA.out 5 rfl)
  go_wp2_with fail
  have hA := holds_new HA.out #[.int .i64 0, .int .i64 0, .slice none 0 0] 24
  have hW := HW.out.alloc HW.out.size (.cells #[.int .i64 0, .int .i64 0, .slice none 0 0] 24)
  clear qx0 qx1 qx2 qzx qM0 qM1 qM2 qzM
  clear HA HW
  have HA : Hid _ := hA
  have HW : Hid (Below w.heap.size w _) := hW
  clear hA hW
  refine Calls.mono (kept_F gx l cap a xs _ HXL.out (by omega) hcap (holds_at HA.out 4 rfl) (row8_below HX.out HW.out)) ?_
  rintro e w7 ⟨rfl, hb⟩
  have hA := holds_later HA.out hb
  have hW := HW.out.trans (hb.mono HW.out.size)
  clear HA HW hb
  have HA : Hid _ := hA
  have HW : Hid (Below w.heap.size w w7) := hW
  clear hA hW
  go_wp2_with fail
  refine Calls.mono (keptInts_F gi ln cn an ns _ HVL.out (by omega) hcv (holds_at HA.out 1 rfl) (rowI_below HV.out HW.out)) ?_
  rintro e w8 ⟨rfl, hb⟩
  have hA := holds_later HA.out hb
  have hW := HW.out.trans (hb.mono HW.out.size)
  clear HA HW hb
  have HA : Hid _ := hA
  have HW : Hid (Below w.heap.size w w8) := hW
  clear hA hW
  have qM0 := cellAt (holds_at HA.out 6 rfl) 0 _ rfl
  have qM1 := cellAt (holds_at HA.out 6 rfl) 1 _ rfl
  have qM2 := cellAt (holds_at HA.out 6 rfl) 2 _ rfl
  go_wp2_with fail
  refine Calls.mono (inForm_yes r c a l cap _ hr hc HL.out) ?_
  rintro e w9 ⟨rfl, hb⟩
  have hA := holds_later HA.out hb
  have hW := HW.out.trans (hb.mono HW.out.size)
  clear qM0 qM1 qM2
  clear HA HW hb
  have HA : Hid _ := hA
  have HW : Hid (Below w.heap.size w w9) := hW
  clear hA hW
  have qN0 := cellAt (holds_at HA.out 5 rfl) 0 _ rfl
  have qN1 := cellAt (holds_at HA.out 5 rfl) 1 _ rfl
  have qM0 := cellAt (holds_at HA.out 6 rfl) 0 _ rfl
  have qM1 := cellAt (holds_at HA.out 6 rfl) 1 _ rfl
  have qM2 := cellAt (holds_at HA.out 6 rfl) 2 _ rfl
  have pM0 := boxB (holds_at HA.out 6 rfl) (ltHeap (holds_at HA.out 6 rfl)) 0 _ rfl
  have pM1 := boxB (holds_at HA.out 6 rfl) (ltHeap (holds_at HA.out 6 rfl)) 1 _ rfl
  have pM2 := boxB (holds_at HA.out 6 rfl) (ltHeap (holds_at HA.out 6 rfl)) 2 _ rfl
  have pN0 := boxB (holds_at HA.out 5 rfl) (ltHeap (holds_at HA.out 5 rfl)) 0 _ rfl
  have pN1 := boxB (holds_at HA.out 5 rfl) (ltHeap (holds_at HA.out 5 rfl)) 1 _ rfl
  have hl8 : Has8 w9 gl (rowAt c xs i) cl := ⟨cur, holds_at HA.out 2 rfl, HCU.out⟩
  have kl := conv_keep8 (la := c) (ca := cl) (by rw [rowAt_len HXR.out hi]) (row_keep (row8_has hl8))
  have hS : Below w9.heap.size w9 w9 := Below.refl _ _
  have hSd : Below w9.heap.size w9 w9.drew := (Below.refl _ _).drew
  clear hl8
  go_wp2
  refine wp_region_noPanic ?_
  refine wp_region_held_drew (S := fun u => Below w9.heap.size w9 u) (by kernel_rfl) ?_ (fun hHeld => ?_)
  · exact hSd
  refine wpAnyH_take (i := 0) (oi := { dst := some 116, op := Op.move (Operand.tmp 11), type := 30, pos := "law.go:89", after := #[], guard := none }) (v := ?_) rfl (by kernel_rfl) (by kernel_rfl) (by kernel_rfl) (fun _ _ _ h => h) (Or.inl ⟨by rfl, ?_⟩) hHeld ?_
  rotate_left
  · intro u hSw
    go_simp
    try with_reducible rfl
  try simp only [Act.put, List.setIfInBounds_toArray, List.set_cons_zero, List.set_cons_succ]
  refine wpAnyH_take (i := 1) (oi := { dst := some 117, op := Op.binOp BinOp.neq 30 (Operand.tmp 116) (Operand.const Value.nilIface) 30, type := 4, pos := "law.go:89", after := #[{ on := 0, ground := Ground.data }], guard := none }) (v := ?_) rfl (by kernel_rfl) (by kernel_rfl) (by kernel_rfl) (fun _ _ _ h => h) (Or.inl ⟨by rfl, ?_⟩) hHeld ?_
  rotate_left
  · intro u hSw
    go_simp
    try with_reducible rfl
  try simp only [Act.put, List.setIfInBounds_toArray, List.set_cons_zero, List.set_cons_succ]
  refine wpAnyH_take (i := 2) (oi := { dst := some 118, op := Op.move (Operand.tmp 117), type := 4, pos := "law.go:89", after := #[{ on := 1, ground := Ground.data }], guard := none }) (v := ?_) rfl (by kernel_rfl) (by kernel_rfl) (by kernel_rfl) (fun _ _ _ h => h) (Or.inl ⟨by rfl, ?_⟩) hHeld ?_
  rotate_left
  · intro u hSw
    go_simp
    try with_reducible rfl
  try simp only [Act.put, List.setIfInBounds_toArray, List.set_cons_zero, List.set_cons_succ]
  refine wpAnyH_take (i := 3) (oi := { dst := some 119, op := Op.move (Operand.tmp 10), type := 22, pos := "law.go:89", after := #[{ on := 2, ground := Ground.guard }], guard := some (2, false) }) (v := ?_) rfl (by kernel_rfl) (by kernel_rfl) (by kernel_rfl) (fun _ _ _ h => h) (Or.inl ⟨by rfl, ?_⟩) hHeld ?_
  rotate_left
  · intro u hSw
    go_simp
    try with_reducible rfl
  try simp only [Act.put, List.setIfInBounds_toArray, List.set_cons_zero, List.set_cons_succ]
  refine wpAnyH_take (i := 4) (oi := { dst := some 120, op := Op.convert 22 9 (Operand.tmp 119), type := 9, pos := "law.go:89", after := #[{ on := 3, ground := Ground.data }, { on := 2, ground := Ground.guard }], guard := some (2, false) }) (v := ?_) rfl (by kernel_rfl) (by kernel_rfl) (by kernel_rfl) (fun _ _ _ h => h) (Or.inl ⟨by rfl, ?_⟩) hHeld ?_
  rotate_left
  · intro u hSw
    go_simp
    try with_reducible rfl
  try simp only [Act.put, List.setIfInBounds_toArray, List.set_cons_zero, List.set_cons_succ]
  refine wpAnyH_take (i := 5) (oi := { dst := some 121, op := Op.load 24 (Operand.tmp 3), type := 24, pos := "law.go:89", after := #[{ on := 2, ground := Ground.guard }], guard := some (2, false) }) (v := ?_) rfl (by kernel_rfl) (by kernel_rfl) (by kernel_rfl) (fun _ _ _ h => h) (Or.inl ⟨by rfl, ?_⟩) hHeld ?_
  rotate_left
  · intro u hSw
    go_simp
    try with_reducible rfl
  try simp only [Act.put, List.setIfInBounds_toArray, List.set_cons_zero, List.set_cons_succ]
  refine wpAnyH_take (i := 6) (oi := { dst := some 122, op := Op.indexAddr 26 (Operand.tmp 5) (Operand.const (Value.int IntKind.i64 0)), type := 0, pos := "law.go:89", after := #[{ on := 2, ground := Ground.guard }], guard := some (2, false) }) (v := ?_) rfl (by kernel_rfl) (by kernel_rfl) (by kernel_rfl) (fun _ _ _ h => h) (Or.inl ⟨by rfl, ?_⟩) hHeld ?_
  rotate_left
  · intro u hSw
    go_simp
    try with_reducible rfl
  try simp only [Act.put, List.setIfInBounds_toArray, List.set_cons_zero, List.set_cons_succ]
  refine wpAnyH_take (i := 7) (oi := { dst := some 123, op := Op.load 3 (Operand.tmp 122), type := 3, pos := "law.go:89", after := #[{ on := 6, ground := Ground.data }, { on := 2, ground := Ground.guard }], guard := some (2, false) }) (v := ?_) rfl (by kernel_rfl) (by kernel_rfl) (by kernel_rfl) (fun _ _ _ h => h) (Or.inl ⟨by rfl, ?_⟩) hHeld ?_
  rotate_left
  · intro u hSw
    go_simp
    try with_reducible rfl
  try simp only [Act.put, List.setIfInBounds_toArray, List.set_cons_zero, List.set_cons_succ]
  refine wpAnyH_ready (rs := [8]) (by kernel_rfl) (by simp) ?_
  refine AllReadyH.cons (o := { dst := some 124, op := Op.call { callee := Callee.value (Operand.func 28), args := #[Operand.tmp 121, Operand.tmp 123], argTypes := #[24, 3] }, type := 22, pos := "law.go:89", after := #[{ on := 5, ground := Ground.data }, { on := 7, ground := Ground.data }, { on := 2, ground := Ground.chain }, { on := 2, ground := Ground.guard }], guard := some (2, false) }) rfl (fun K hK => ?_) AllReadyH.nil
  go_simp
  refine Calls.mono (rrow_F r c i l cap a xs _ hr hc hi HL.out HXR.out hcap (row8_below HX.out (HW.out.trans (Below.mono hSd HW.out.size))) HNA.out) ?_
  rintro e wi ⟨g2, c2, rfl, hg2, hh2, hb2⟩
  have hTa : Below w9.heap.size w9 wi := Below.trans hSd (Below.mono hb2 (below_size hSd))
  have k2 := conv8 (ca := c2) (la := c) (by rw [rowAt_len HXR.out hi]) (row8_has hh2)
  clear hh2 hg2 hb2
  go_wp2_with fail
  refine hK.out _ _ ?_ (fun hHeld => ?_)
  · exact hTa
  clear hK K
  try simp only [Act.put, List.setIfInBounds_toArray, List.set_cons_zero, List.set_cons_succ]
  refine wpAnyH_ready (rs := [9]) (by kernel_rfl) (by simp) ?_
  refine AllReadyH.cons (o := { dst := some 125, op := Op.convert 22 9 (Operand.tmp 124), type := 9, pos := "law.go:89", after := #[{ on := 8, ground := Ground.data }, { on := 2, ground := Ground.guard }], guard := some (2, false) }) rfl (fun K hK => ?_) AllReadyH.nil
  go_simp
  refine hK.out _ _ ?_ (fun hHeld => ?_)
  · exact hTa
  clear hK K
  try simp only [Act.put, List.setIfInBounds_toArray, List.set_cons_zero, List.set_cons_succ]
  refine wpAnyH_take (i := 10) (oi := { dst := some 126, op := Op.binOp BinOp.neq 9 (Operand.tmp 120) (Operand.tmp 125) 9, type := 4, pos := "law.go:89", after := #[{ on := 4, ground := Ground.data }, { on := 9, ground := Ground.data }, { on := 2, ground := Ground.guard }], guard := some (2, false) }) (v := ?_) rfl (by kernel_rfl) (by kernel_rfl) (by kernel_rfl) (fun _ _ _ h => h) (Or.inl ⟨by rfl, ?_⟩) hHeld ?_
  rotate_left
  · intro u hSw
    go_simp
    try with_reducible rfl
  try simp only [Act.put, List.setIfInBounds_toArray, List.set_cons_zero, List.set_cons_succ]
  refine wpAnyH_take (i := 11) (oi := { dst := some 127, op := Op.pick (Operand.tmp 118) (Operand.const (Value.bool true)) (Operand.tmp 126), type := 4, pos := "law.go:89", after := #[{ on := 2, ground := Ground.data }, { on := 10, ground := Ground.data }], guard := none }) (v := ?_) rfl (by kernel_rfl) (by kernel_rfl) (by kernel_rfl) (fun _ _ _ h => h) (Or.inl ⟨by rfl, ?_⟩) hHeld ?_
  rotate_left
  · intro u hSw
    go_simp
    try with_reducible rfl
  try simp only [Act.put, List.setIfInBounds_toArray, List.set_cons_zero, List.set_cons_succ]
  refine wpAnyH_done (by kernel_rfl) ?_ _
  refine NoPanic.normal ?_
  clear k2
  have hB9 := hTa
  have hA := holds_later HA.out hB9
  have hW := HW.out.trans (hB9.mono HW.out.size)
  clear HA HW
  have HA : Hid _ := hA
  have HW : Hid (Below w.heap.size w _) := hW
  clear hA hW qN0 qN1 qM0 qM1 qM2 pM0 pM1 pM2 pN0 pN1 kl hS hSd
  have qN0 := cellAt (holds_at HA.out 5 rfl) 0 _ rfl
  have qN1 := cellAt (holds_at HA.out 5 rfl) 1 _ rfl
  have qM0 := cellAt (holds_at HA.out 6 rfl) 0 _ rfl
  have qM1 := cellAt (holds_at HA.out 6 rfl) 1 _ rfl
  have qM2 := cellAt (holds_at HA.out 6 rfl) 2 _ rfl
  have c9 := (cell_later HW.out HS1.out)
  have q9 : ∀ u, _ := fun u => neq_same u s1
  have d0 : decide (N1 < 0) = false := by simpa using h2
  unfold errAt at *
  have qt0 := cellAt (holds_at HA.out 0 rfl) 0 _ rfl
  have qt1 := cellAt (holds_at HA.out 0 rfl) 1 _ rfl
  have qt2 := cellAt (holds_at HA.out 0 rfl) 2 _ rfl
  have dL : decide ((64 : Int) < (ln : Int)) = true := by rw [decide_eq_true_iff]; omega
  go_wp2_with fail
  refine Calls.mono (as_shape _ 0 0 none 0 0 _ es s0 (errsAt_below HES.out HW.out) HE0.out rfl) ?_
  rintro e wZ ⟨rfl, hb⟩
  have hW := HW.out.trans (hb.mono HW.out.size)
  go_wp2
  go_ret
  exact ⟨rfl, hW⟩
set_option maxRecDepth 100000 in
set_option maxHeartbeats 8000000 in
theorem places_3L (r c : Nat) (l cap ln cn : Nat) (i j : Nat) (a an : Option Addr) (xs : List F) (ns : List Int) (w : World) (hr : r ≤ 64) (hc : c ≤ 64) (hl : l = r * c) (hi : i < r) (hj : j < c) (hL : 64 < ln) (hx : l = xs.length) (hcap : l ≤ cap) (hm : cap ≤ 140737488351232) (hX : Row8 w a xs) (hna : a = none → cap = 0)
    (hv : ln = ns.length) (hcv : ln ≤ cn) (hmv : cn ≤ 17592186043904) (hV : RowI w an ns) (hnb : an = none → cn = 0) (es : List Addr) (hes : ErrsAt w gsNum es) (s0 s1 : Addr) (he0 : es[1]? = some s0) (he1 : es[11]? = some s1)
    (hs : w.cell? ⟨0, 0, none⟩ = some (errAt s0)) (hs1 : w.cell? ⟨1, 0, none⟩ = some (errAt s1)) :
    Calls Tryd.prog 4 #[.agg #[.int .i64 r, .int .i64 c, .slice a l cap], .slice an ln cn, .agg #[.int .i64 (i : Int), .int .i64 (j : Int)]] w fun e w' => e = .returned (.bool true) ∧ Below w.heap.size w w' := by
  have HXL : Hid _ := hx
  have HVL : Hid _ := hv
  have HX : Hid (Row8 w a xs) := hX
  have HV : Hid (RowI w an ns) := hV
  have HNA : Hid _ := hna
  have HNB : Hid _ := hnb
  have HS : Hid _ := hs
  have HS1 : Hid _ := hs1
  have HES : Hid (ErrsAt w gsNum es) := hes
  have HE0 : Hid (es[1]? = some s0) := he0
  have HE1 : Hid (es[11]? = some s1) := he1
  have HL : Hid _ := hl
  have HXR : Hid (xs.length = r * c) := by show _ = _; rw [← hx]; exact hl
  clear hl
  clear hx hX hna hv hV hnb hs hs1 hes he0 he1
  go_enter Tryd.func4, Tryd.ntmps4
  go_wp2_with fail
  refine Calls.mono (alive_ok _) ?_
  rintro e w1 ⟨rfl, hb1⟩
  have hA := holds_later (holds_new (holds_new (holds_nil w) #[.int .i64 r, .int .i64 c, .slice a l cap] 24) #[.int .i64 (i : Int), .int .i64 (j : Int)] 26) hb1
  rw [World.size_alloc] at hA
  have HW : Hid (Below w.heap.size w w1) := (((Below.refl w.heap.size w).alloc (Nat.le_refl _) _).alloc (by simp) _).trans (hb1.mono (by simp; omega))
  have HA : Hid _ := hA
  clear hb1 hA
  have qM0 := cellAt (holds_at HA.out 1 rfl) 0 _ rfl
  have qM1 := cellAt (holds_at HA.out 1 rfl) 1 _ rfl
  have qM2 := cellAt (holds_at HA.out 1 rfl) 2 _ rfl
  go_wp2_with fail
  refine Calls.mono (in_F r c l cap a xs _ HXL.out (by omega) (row8_below HX.out HW.out) HNA.out) ?_
  rintro e w2 ⟨gx, rfl, hgx, hh, hb⟩
  have hA := holds_later HA.out hb
  have hW := HW.out.trans (hb.mono HW.out.size)
  clear qM0 qM1 qM2
  have hA := holds_cons hA hh
  have HGX : Hid (w.heap.size ≤ gx) := Nat.le_trans HW.out.size hgx
  clear hgx
  clear HA HW hb hh
  have HA : Hid _ := hA
  have HW : Hid (Below w.heap.size w w2) := hW
  clear hA hW
  have qN0 := cellAt (holds_at HA.out 1 rfl) 0 _ rfl
  have qN1 := cellAt (holds_at HA.out 1 rfl) 1 _ rfl
  have qzN := ltHeap (holds_at HA.out 1 rfl)
  go_wp2_with fail
  have hA := holds_new HA.out #[.int .i64 r, .int .i64 c, .slice (some ⟨gx, 0, none⟩) l (l + 6)] 24
  have hW := HW.out.alloc HW.out.size (.cells #[.int .i64 r, .int .i64 c, .slice (some ⟨gx, 0, none⟩) l (l + 6)] 24)
  clear qN0 qN1 qzN
  clear HA HW
  have HA : Hid _ := hA
  have HW : Hid (Below w.heap.size w _) := hW
  clear hA hW
  refine Calls.mono (at_F r c l (l + 6) i j _ xs _ hr hc HL.out HXR.out (by omega) (row8_front (holds_at HA.out 1 rfl)) hi hj) ?_
  rintro e w3 ⟨rfl, hb⟩
  have hA := holds_later HA.out hb
  have hW := HW.out.trans (hb.mono HW.out.size)
  clear HA HW hb
  have HA : Hid _ := hA
  have HW : Hid (Below w.heap.size w w3) := hW
  clear hA hW
  have qx0 := cellAt (holds_at HA.out 0 rfl) 0 _ rfl
  have qx1 := cellAt (holds_at HA.out 0 rfl) 1 _ rfl
  have qx2 := cellAt (holds_at HA.out 0 rfl) 2 _ rfl
  have qN0 := cellAt (holds_at HA.out 2 rfl) 0 _ rfl
  have qN1 := cellAt (holds_at HA.out 2 rfl) 1 _ rfl
  go_wp2_with fail
  refine Calls.mono (row_F r c l (l + 6) i _ xs _ hr hc HL.out HXR.out (by omega) (row8_front (holds_at HA.out 1 rfl)) (fun h => by cases h) hi) ?_
  rintro e w4 ⟨a2, cl, rfl, _, _, hrow, hb⟩
  have hA := holds_later HA.out hb
  have hW := HW.out.trans (hb.mono HW.out.size)
  clear qx0 qx1 qx2 qN0 qN1
  obtain ⟨gl, rfl, hgl, cur, hcur, hcu⟩ := hrow (fun h => by cases h)
  have HGL : Hid (w.heap.size ≤ gl) := Nat.le_trans HW.out.size hgl
  have HXLN : Hid (gx ≠ gl) := by have := ltHeap (holds_at HA.out 1 rfl); show _ ≠ _; omega
  have HCU : Hid _ := hcu
  have hA := holds_cons hA hcur
  clear HA HW hb hrow hgl hcu hcur
  have HA : Hid _ := hA
  have HW : Hid (Below w.heap.size w w4) := hW
  clear hA hW
  go_wp2_with fail
  refine Calls.mono (ints_F an ln cn ns _ HVL.out (by omega) (rowI_below HV.out HW.out) HNB.out) ?_
  rintro e w5 ⟨gi, rfl, hgi, hb, hh⟩
  have hA := holds_later HA.out hb
  have hW := HW.out.trans (hb.mono HW.out.size)
  have hA := holds_cons hA hh
  clear HA HW hb hh hgi
  have HA : Hid _ := hA
  have HW : Hid (Below w.heap.size w w5) := hW
  clear hA hW
  have qx0 := cellAt (holds_at HA.out 2 rfl) 0 _ rfl
  have qx1 := cellAt (holds_at HA.out 2 rfl) 1 _ rfl
  have qx2 := cellAt (holds_at HA.out 2 rfl) 2 _ rfl
  go_wp2_with fail
  refine Calls.mono (take_long r c _ _ l (l + 6) ln (ln + 4) _ s0 (cell_later HW.out HS.out) hr hc HL.out hL) ?_
  rintro e w6 ⟨rfl, hb⟩
  have hA := holds_later HA.out hb
  have hW := HW.out.trans (hb.mono HW.out.size)
  clear qx0 qx1 qx2
  clear HA HW hb
  have HA : Hid _ := hA
  have HW : Hid (Below w.heap.size w w6) := hW
  clear hA hW
  have qx0 := cellAt (holds_at HA.out 2 rfl) 0 _ rfl
  have qx1 := cellAt (holds_at HA.out 2 rfl) 1 _ rfl
  have qx2 := cellAt (holds_at HA.out 2 rfl) 2 _ rfl
  have qzx := ltHeap (holds_at HA.out 2 rfl)
  have qM0 := cellAt (holds_at HA.out 5 rfl) 0 _ rfl
  have qM1 := cellAt (holds_at HA.out 5 rfl) 1 _ rfl
  have qM2 := cellAt (holds_at HA.out 5 rfl) 2 _ rfl
  have qzM := ltHeap (holds_at HA.out 5 rfl)
  go_wp2_with fail
  have hA := holds_new HA.out #[.int .i64 0, .int .i64 0, .slice none 0 0] 24
  have hW := HW.out.alloc HW.out.size (.cells #[.int .i64 0, .int .i64 0, .slice none 0 0] 24)
  clear qx0 qx1 qx2 qzx qM0 qM1 qM2 qzM
  clear HA HW
  have HA : Hid _ := hA
  have HW : Hid (Below w.heap.size w _) := hW
  clear hA hW
  refine Calls.mono (kept_F gx l cap a xs _ HXL.out (by omega) hcap (holds_at HA.out 4 rfl) (row8_below HX.out HW.out)) ?_
  rintro e w7 ⟨rfl, hb⟩
  have hA := holds_later HA.out hb
  have hW := HW.out.trans (hb.mono HW.out.size)
  clear HA HW hb
  have HA : Hid _ := hA
  have HW : Hid (Below w.heap.size w w7) := hW
  clear hA hW
  go_wp2_with fail
  refine Calls.mono (keptInts_F gi ln cn an ns _ HVL.out (by omega) hcv (holds_at HA.out 1 rfl) (rowI_below HV.out HW.out)) ?_
  rintro e w8 ⟨rfl, hb⟩
  have hA := holds_later HA.out hb
  have hW := HW.out.trans (hb.mono HW.out.size)
  clear HA HW hb
  have HA : Hid _ := hA
  have HW : Hid (Below w.heap.size w w8) := hW
  clear hA hW
  have qM0 := cellAt (holds_at HA.out 6 rfl) 0 _ rfl
  have qM1 := cellAt (holds_at HA.out 6 rfl) 1 _ rfl
  have qM2 := cellAt (holds_at HA.out 6 rfl) 2 _ rfl
  go_wp2_with fail
  refine Calls.mono (inForm_yes r c a l cap _ hr hc HL.out) ?_
  rintro e w9 ⟨rfl, hb⟩
  have hA := holds_later HA.out hb
  have hW := HW.out.trans (hb.mono HW.out.size)
  clear qM0 qM1 qM2
  clear HA HW hb
  have HA : Hid _ := hA
  have HW : Hid (Below w.heap.size w w9) := hW
  clear hA hW
  have qN0 := cellAt (holds_at HA.out 5 rfl) 0 _ rfl
  have qN1 := cellAt (holds_at HA.out 5 rfl) 1 _ rfl
  have qM0 := cellAt (holds_at HA.out 6 rfl) 0 _ rfl
  have qM1 := cellAt (holds_at HA.out 6 rfl) 1 _ rfl
  have qM2 := cellAt (holds_at HA.out 6 rfl) 2 _ rfl
  have pM0 := boxB (holds_at HA.out 6 rfl) (ltHeap (holds_at HA.out 6 rfl)) 0 _ rfl
  have pM1 := boxB (holds_at HA.out 6 rfl) (ltHeap (holds_at HA.out 6 rfl)) 1 _ rfl
  have pM2 := boxB (holds_at HA.out 6 rfl) (ltHeap (holds_at HA.out 6 rfl)) 2 _ rfl
  have pN0 := boxB (holds_at HA.out 5 rfl) (ltHeap (holds_at HA.out 5 rfl)) 0 _ rfl
  have pN1 := boxB (holds_at HA.out 5 rfl) (ltHeap (holds_at HA.out 5 rfl)) 1 _ rfl
  have hl8 : Has8 w9 gl (rowAt c xs i) cl := ⟨cur, holds_at HA.out 2 rfl, HCU.out⟩
  have kl := conv_keep8 (la := c) (ca := cl) (by rw [rowAt_len HXR.out hi]) (row_keep (row8_has hl8))
  have hS : Below w9.heap.size w9 w9 := Below.refl _ _
  have hSd : Below w9.heap.size w9 w9.drew := (Below.refl _ _).drew
  clear hl8
  go_wp2
  refine wp_region_noPanic ?_
  refine wp_region_held_drew (S := fun u => Below w9.heap.size w9 u) (by kernel_rfl) ?_ (fun hHeld => ?_)
  · exact hSd
  refine wpAnyH_take (i := 0) (oi := { dst := some 116, op := Op.move (Operand.tmp 11), type := 30, pos := "law.go:89", after := #[], guard := none }) (v := ?_) rfl (by kernel_rfl) (by kernel_rfl) (by kernel_rfl) (fun _ _ _ h => h) (Or.inl ⟨by rfl, ?_⟩) hHeld ?_
  rotate_left
  · intro u hSw
    go_simp
    try with_reducible rfl
  try simp only [Act.put, List.setIfInBounds_toArray, List.set_cons_zero, List.set_cons_succ]
  refine wpAnyH_take (i := 1) (oi := { dst := some 117, op := Op.binOp BinOp.neq 30 (Operand.tmp 116) (Operand.const Value.nilIface) 30, type := 4, pos := "law.go:89", after := #[{ on := 0, ground := Ground.data }], guard := none }) (v := ?_) rfl (by kernel_rfl) (by kernel_rfl) (by kernel_rfl) (fun _ _ _ h => h) (Or.inl ⟨by rfl, ?_⟩) hHeld ?_
  rotate_left
  · intro u hSw
    go_simp
    try with_reducible rfl
  try simp only [Act.put, List.setIfInBounds_toArray, List.set_cons_zero, List.set_cons_succ]
  refine wpAnyH_take (i := 2) (oi := { dst := some 118, op := Op.move (Operand.tmp 117), type := 4, pos := "law.go:89", after := #[{ on := 1, ground := Ground.data }], guard := none }) (v := ?_) rfl (by kernel_rfl) (by kernel_rfl) (by kernel_rfl) (fun _ _ _ h => h) (Or.inl ⟨by rfl, ?_⟩) hHeld ?_
  rotate_left
  · intro u hSw
    go_simp
    try with_reducible rfl
  try simp only [Act.put, List.setIfInBounds_toArray, List.set_cons_zero, List.set_cons_succ]
  refine wpAnyH_take (i := 3) (oi := { dst := some 119, op := Op.move (Operand.tmp 10), type := 22, pos := "law.go:89", after := #[{ on := 2, ground := Ground.guard }], guard := some (2, false) }) (v := ?_) rfl (by kernel_rfl) (by kernel_rfl) (by kernel_rfl) (fun _ _ _ h => h) (Or.inl ⟨by rfl, ?_⟩) hHeld ?_
  rotate_left
  · intro u hSw
    go_simp
    try with_reducible rfl
  try simp only [Act.put, List.setIfInBounds_toArray, List.set_cons_zero, List.set_cons_succ]
  refine wpAnyH_take (i := 4) (oi := { dst := some 120, op := Op.convert 22 9 (Operand.tmp 119), type := 9, pos := "law.go:89", after := #[{ on := 3, ground := Ground.data }, { on := 2, ground := Ground.guard }], guard := some (2, false) }) (v := ?_) rfl (by kernel_rfl) (by kernel_rfl) (by kernel_rfl) (fun _ _ _ h => h) (Or.inl ⟨by rfl, ?_⟩) hHeld ?_
  rotate_left
  · intro u hSw
    go_simp
    try with_reducible rfl
  try simp only [Act.put, List.setIfInBounds_toArray, List.set_cons_zero, List.set_cons_succ]
  refine wpAnyH_take (i := 5) (oi := { dst := some 121, op := Op.load 24 (Operand.tmp 3), type := 24, pos := "law.go:89", after := #[{ on := 2, ground := Ground.guard }], guard := some (2, false) }) (v := ?_) rfl (by kernel_rfl) (by kernel_rfl) (by kernel_rfl) (fun _ _ _ h => h) (Or.inl ⟨by rfl, ?_⟩) hHeld ?_
  rotate_left
  · intro u hSw
    go_simp
    try with_reducible rfl
  try simp only [Act.put, List.setIfInBounds_toArray, List.set_cons_zero, List.set_cons_succ]
  refine wpAnyH_take (i := 6) (oi := { dst := some 122, op := Op.indexAddr 26 (Operand.tmp 5) (Operand.const (Value.int IntKind.i64 0)), type := 0, pos := "law.go:89", after := #[{ on := 2, ground := Ground.guard }], guard := some (2, false) }) (v := ?_) rfl (by kernel_rfl) (by kernel_rfl) (by kernel_rfl) (fun _ _ _ h => h) (Or.inl ⟨by rfl, ?_⟩) hHeld ?_
  rotate_left
  · intro u hSw
    go_simp
    try with_reducible rfl
  try simp only [Act.put, List.setIfInBounds_toArray, List.set_cons_zero, List.set_cons_succ]
  refine wpAnyH_take (i := 7) (oi := { dst := some 123, op := Op.load 3 (Operand.tmp 122), type := 3, pos := "law.go:89", after := #[{ on := 6, ground := Ground.data }, { on := 2, ground := Ground.guard }], guard := some (2, false) }) (v := ?_) rfl (by kernel_rfl) (by kernel_rfl) (by kernel_rfl) (fun _ _ _ h => h) (Or.inl ⟨by rfl, ?_⟩) hHeld ?_
  rotate_left
  · intro u hSw
    go_simp
    try with_reducible rfl
  try simp only [Act.put, List.setIfInBounds_toArray, List.set_cons_zero, List.set_cons_succ]
  refine wpAnyH_ready (rs := [8]) (by kernel_rfl) (by simp) ?_
  refine AllReadyH.cons (o := { dst := some 124, op := Op.call { callee := Callee.value (Operand.func 28), args := #[Operand.tmp 121, Operand.tmp 123], argTypes := #[24, 3] }, type := 22, pos := "law.go:89", after := #[{ on := 5, ground := Ground.data }, { on := 7, ground := Ground.data }, { on := 2, ground := Ground.chain }, { on := 2, ground := Ground.guard }], guard := some (2, false) }) rfl (fun K hK => ?_) AllReadyH.nil
  go_simp
  refine Calls.mono (rrow_F r c i l cap a xs _ hr hc hi HL.out HXR.out hcap (row8_below HX.out (HW.out.trans (Below.mono hSd HW.out.size))) HNA.out) ?_
  rintro e wi ⟨g2, c2, rfl, hg2, hh2, hb2⟩
  have hTa : Below w9.heap.size w9 wi := Below.trans hSd (Below.mono hb2 (below_size hSd))
  have k2 := conv8 (ca := c2) (la := c) (by rw [rowAt_len HXR.out hi]) (row8_has hh2)
  clear hh2 hg2 hb2
  go_wp2_with fail
  refine hK.out _ _ ?_ (fun hHeld => ?_)
  · exact hTa
  clear hK K
  try simp only [Act.put, List.setIfInBounds_toArray, List.set_cons_zero, List.set_cons_succ]
  refine wpAnyH_ready (rs := [9]) (by kernel_rfl) (by simp) ?_
  refine AllReadyH.cons (o := { dst := some 125, op := Op.convert 22 9 (Operand.tmp 124), type := 9, pos := "law.go:89", after := #[{ on := 8, ground := Ground.data }, { on := 2, ground := Ground.guard }], guard := some (2, false) }) rfl (fun K hK => ?_) AllReadyH.nil
  go_simp
  refine hK.out _ _ ?_ (fun hHeld => ?_)
  · exact hTa
  clear hK K
  try simp only [Act.put, List.setIfInBounds_toArray, List.set_cons_zero, List.set_cons_succ]
  refine wpAnyH_take (i := 10) (oi := { dst := some 126, op := Op.binOp BinOp.neq 9 (Operand.tmp 120) (Operand.tmp 125) 9, type := 4, pos := "law.go:89", after := #[{ on := 4, ground := Ground.data }, { on := 9, ground := Ground.data }, { on := 2, ground := Ground.guard }], guard := some (2, false) }) (v := ?_) rfl (by kernel_rfl) (by kernel_rfl) (by kernel_rfl) (fun _ _ _ h => h) (Or.inl ⟨by rfl, ?_⟩) hHeld ?_
  rotate_left
  · intro u hSw
    go_simp
    try with_reducible rfl
  try simp only [Act.put, List.setIfInBounds_toArray, List.set_cons_zero, List.set_cons_succ]
  refine wpAnyH_take (i := 11) (oi := { dst := some 127, op := Op.pick (Operand.tmp 118) (Operand.const (Value.bool true)) (Operand.tmp 126), type := 4, pos := "law.go:89", after := #[{ on := 2, ground := Ground.data }, { on := 10, ground := Ground.data }], guard := none }) (v := ?_) rfl (by kernel_rfl) (by kernel_rfl) (by kernel_rfl) (fun _ _ _ h => h) (Or.inl ⟨by rfl, ?_⟩) hHeld ?_
  rotate_left
  · intro u hSw
    go_simp
    try with_reducible rfl
  try simp only [Act.put, List.setIfInBounds_toArray, List.set_cons_zero, List.set_cons_succ]
  refine wpAnyH_done (by kernel_rfl) ?_ _
  refine NoPanic.normal ?_
  clear k2
  have hB9 := hTa
  have hA := holds_later HA.out hB9
  have hW := HW.out.trans (hB9.mono HW.out.size)
  clear HA HW
  have HA : Hid _ := hA
  have HW : Hid (Below w.heap.size w _) := hW
  clear hA hW qN0 qN1 qM0 qM1 qM2 pM0 pM1 pM2 pN0 pN1 kl hS hSd
  have qN0 := cellAt (holds_at HA.out 5 rfl) 0 _ rfl
  have qN1 := cellAt (holds_at HA.out 5 rfl) 1 _ rfl
  have qM0 := cellAt (holds_at HA.out 6 rfl) 0 _ rfl
  have qM1 := cellAt (holds_at HA.out 6 rfl) 1 _ rfl
  have qM2 := cellAt (holds_at HA.out 6 rfl) 2 _ rfl
  obtain ⟨p, hp⟩ : ∃ p, p = i * c := ⟨_, rfl⟩
  have h1 := place_lt (c := c) hi hj
  have m1 : (i : Int) * (c : Int) = (p : Int) := by rw [hp]; simp
  have e1 : p + j < l := by rw [hp, HL.out]; exact h1
  have n1 : l ≤ 4096 := by have := mul_small hr hc; have := HL.out; have e : (r : Int) * (c : Int) = ((r * c : Nat) : Int) := by simp
                           omega
  have e2 : p + j < xs.length := by rw [HXR.out, hp]; exact h1
  obtain ⟨b1, o1, ha, hb1, f1⟩ := row8_get HX.out e2
  rw [ha] at qM2
  have c7 := cell_later HW.out (f1 (p + j) e2)
  have e3 : at8 xs (p + j) = at8 xs (i * c + j) := by rw [hp]
  rw [e3] at c7
  clear f1 hp h1 e3 ha
  have qt0 := cellAt (holds_at HA.out 0 rfl) 0 _ rfl
  have qt1 := cellAt (holds_at HA.out 0 rfl) 1 _ rfl
  have qt2 := cellAt (holds_at HA.out 0 rfl) 2 _ rfl
  have dL : decide ((64 : Int) < (ln : Int)) = true := by rw [decide_eq_true_iff]; omega
  go_wp2_with fail
  refine Calls.mono (as_shape _ 0 0 none 0 0 _ es s0 (errsAt_below HES.out HW.out) HE0.out rfl) ?_
  rintro e wZ ⟨rfl, hb⟩
  have hW := HW.out.trans (hb.mono HW.out.size)
  go_wp2
  go_ret
  exact ⟨rfl, hW⟩
end Go.Proofs.YtagahiahhgafpaaDoor
