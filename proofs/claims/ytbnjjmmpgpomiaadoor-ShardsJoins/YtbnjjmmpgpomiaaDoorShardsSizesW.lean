/- The walk of ShardsSizes: at all numbers. -/
import Derived.Test.YtbnjjmmpgpomiaaDoorShardsA
import Derived.Test.YtbnjjmmpgpomiaaDoorNum
namespace Go.Proofs.YtbnjjmmpgpomiaaDoor
open Go.RowKit Gf
set_option linter.unusedVariables false
set_option maxRecDepth 20000
/-- the errors' addresses, by number -/
def ofL (es : List Addr) : Nat → Addr := fun j => es.getD j ⟨0, 0, none⟩
theorem errsE_num {w : World} {es : List Addr} (h : ErrsAt w gsNum es) : ErrsE w (ofL es) := by
  have hl : es.length = 25 := h.1.symm
  have hget : ∀ j, (hj : j < 25) → es[j]? = some (ofL es j) := fun j hj => by
    unfold ofL
    rw [List.getElem?_eq_getElem (by omega), List.getD_eq_getElem?_getD, List.getElem?_eq_getElem (by omega)]; rfl
  exact ⟨(h.2.2 0 _ _ rfl (hget 0 (by decide))).1, (h.2.2 11 _ _ rfl (hget 11 (by decide))).1, (h.2.2 19 _ _ rfl (hget 19 (by decide))).1⟩
theorem num_V {w : World} {es : List Addr} (n : Nat) (h : ErrsAt w gsNum es) (hn : n ≤ 25) :
    Calls Tryd.prog 13 #[evV (ofL es) n] w fun e w' => e = .returned (.int .i64 n) ∧ Below w.heap.size w w' := by
  cases n with
  | zero => exact (num_nil w).mono fun e w' ⟨he, hw⟩ => ⟨he, hw ▸ Below.refl _ _⟩
  | succ n =>
    have hl : es.length = 25 := h.1.symm
    rw [evV_succ]
    have := num_err (k := n) (s := ofL es n) h (by
      unfold ofL
      rw [List.getElem?_eq_getElem (by omega), List.getD_eq_getElem?_getD, List.getElem?_eq_getElem (by omega)]; rfl)
    simpa using this
theorem halfE_le (k n : Int) : halfE k n ≤ 25 := by unfold halfE; split <;> (try split) <;> (try split) <;> omega
theorem stripesE_le (k n : Int) : stripesE k n ≤ 25 := by unfold stripesE; split <;> (try split) <;> (try split) <;> omega
theorem stripesL_len (k n : Int) : (stripesL k n).length ≤ 32 := by
  by_cases h : stripesE k n = 0
  · obtain ⟨a, m, rfl, rfl, h1, h2, h3⟩ := stripes_ok h
    rw [stripesL_ok h1 h2 h3, strL_len]
    exact cnt_stripes h1 h3
  · rw [stripesL_no h]; simp
set_option maxHeartbeats 4000000 in
theorem sizes_walk (k size : Int) (w : World) (hk0 : -9223372036854775808 ≤ k) (hk1 : k ≤ 9223372036854775807) (hs0 : -9223372036854775808 ≤ size) (hs1 : size ≤ 9223372036854775807) (es : List Addr) (hes : ErrsAt w gsNum es) :
    Calls Tryd.prog 3 #[.int .i64 k, .int .i64 size] w fun e w' => e = .returned (.bool true) ∧ Below w.heap.size w w' := by
  have HE : Hid _ := hes
  have HH : Hid _ := half_F k size
  have HR : Hid _ := rhalf_F k size
  have HS : Hid _ := stripes_F k size
  have HT : Hid _ := rstripes_F k size
  have hb1 := halfE_le k size
  have hb2 := stripesE_le k size
  have hb3 := stripesL_len k size
  generalize halfE k size = he at *
  generalize halfV k size = hv at *
  generalize stripesE k size = se at *
  generalize hsl : stripesL k size = sl at *
  clear hsl hes
  go_enter Tryd.func3, Tryd.ntmps3
  go_wp2_with fail
  refine Calls.mono (alive6_ok _ (ofL es) (errsE_num HE.out)) ?_
  rintro e w1 ⟨rfl, hb⟩
  have HB1 : Hid _ := hb
  clear hb
  go_wp2_with fail
  refine Calls.mono (HH.out _ (ofL es) (errsE_num (errsAt_below HE.out HB1.out)) hs0 hs1) ?_
  rintro e w2 ⟨rfl, hb⟩
  have HB2 : Hid (Below w.heap.size w w2) := HB1.out.trans (hb.mono HB1.out.size)
  clear hb
  go_wp2_with fail
  refine Calls.mono (HR.out _) ?_
  rintro e w3 ⟨rfl, rfl⟩
  go_wp2_with fail
  refine Calls.mono (HS.out _ (ofL es) (errsE_num (errsAt_below HE.out HB2.out)) hs0 hs1) ?_
  rintro e w3 ⟨b3, l3, cap3, rfl, hl3, hr3, hb⟩
  have HL3 : Hid _ := hl3
  have HR3 : Hid _ := hr3
  have HB3 : Hid (Below w.heap.size w w3) := HB2.out.trans (hb.mono HB2.out.size)
  clear hb hl3 hr3
  go_wp2_with fail
  refine Calls.mono (HT.out _) ?_
  rintro e w4 ⟨b4, l4, cap4, rfl, hl4, hr4, hb⟩
  have HL4 : Hid _ := hl4
  have HR4 : Hid _ := hr4
  have HRX : Hid _ := rowI_below HR3.out hb
  have HB4 : Hid (Below w.heap.size w w4) := HB3.out.trans (hb.mono HB3.out.size)
  clear hb hl4 hr4
  go_wp2_with fail
  refine Calls.mono (num_V he (errsAt_below HE.out HB4.out) hb1) ?_
  rintro e w5 ⟨rfl, hb⟩
  have HB5 : Hid (Below w.heap.size w w5) := HB4.out.trans (hb.mono HB4.out.size)
  have HR5 : Hid _ := rowI_below HRX.out hb
  have HR6 : Hid _ := rowI_below HR4.out hb
  clear hb
  go_wp2_with fail
  refine Calls.mono (sameInts_F b3 b4 l3 cap3 l4 cap4 sl sl _ HL3.out HL4.out (by have := HL3.out; omega) (by have := HL4.out; omega) HR5.out HR6.out) ?_
  rintro e w6 ⟨rfl, hb⟩
  rw [eqI_true]
  have HB6 : Hid (Below w.heap.size w w6) := HB5.out.trans (hb.mono HB5.out.size)
  clear hb
  go_wp2_with fail
  refine Calls.mono (num_V se (errsAt_below HE.out HB6.out) hb2) ?_
  rintro e w7 ⟨rfl, hb⟩
  have HB7 : Hid (Below w.heap.size w w7) := HB6.out.trans (hb.mono HB6.out.size)
  clear hb
  go_wp2
  go_ret
  exact ⟨rfl, HB7.out⟩
end Go.Proofs.YtbnjjmmpgpomiaaDoor
