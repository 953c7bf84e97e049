/- The walk of the statement MatPlaces, in form, a number of the list out of place: the row not there, or all there. -/
import Derived.Test.YtagahiahhgafpaaDoorMatIn
import Derived.Test.YtagahiahhgafpaaDoorMatAs
import Derived.Test.YtagahiahhgafpaaDoorMatAt
import Derived.Test.YtagahiahhgafpaaDoorPlacesK
import Derived.Test.YtagahiahhgafpaaDoorInts
import Derived.Test.YtagahiahhgafpaaDoorErrsNeq
import Derived.Test.YtagahiahhgafpaaDoorRefOf
import Derived.Deep.RegionHeld3
import Derived.BigQuiet
import Derived.Deep.QuietTactic
namespace Go.Proofs.YtagahiahhgafpaaDoor
open Go.RowKit Gf
set_option linter.unusedVariables false
set_option maxRecDepth 100000 in
set_option maxHeartbeats 8000000 in
theorem places_1aB (r c : Nat) (l cap ln cn : Nat) (N0 N1 : Int) (a an : Option Addr) (xs : List F) (ns : List Int) (w : World) (hr : r ≤ 64) (hc : c ≤ 64) (hl : l = r * c) (h0 : N0 < 0) (hL : ln ≤ 64) (hB : ¬ ∀ n ∈ ns, 0 ≤ n ∧ n < r) (hx : l = xs.length) (hcap : l ≤ cap) (hm : cap ≤ 140737488351232) (hX : Row8 w a xs) (hna : a = none → cap = 0)
    (hv : ln = ns.length) (hcv : ln ≤ cn) (hmv : cn ≤ 17592186043904) (hV : RowI w an ns) (hnb : an = none → cn = 0) (es : List Addr) (hes : ErrsAt w gsNum es) (s0 s1 : Addr) (he0 : es[1]? = some s0) (he1 : es[11]? = some s1)
    (hs : w.cell? ⟨0, 0, none⟩ = some (errAt s0)) (hs1 : w.cell? ⟨1, 0, none⟩ = some (errAt s1)) :
    Calls Tryd.prog 4 #[.agg #[.int .i64 r, .int .i64 c, .slice a l cap], .slice an ln cn, .agg #[.int .i64 N0, .int .i64 N1]] w fun e w' => e = .returned (.bool true) ∧ Below w.heap.size w w' := by
  have HXL : Hid _ := hx
  have HVL : Hid _ := hv
  have HX : Hid (Row8 w a xs) := hX
  have HV : Hid (RowI w an ns) := hV
  have HNA : Hid _ := hna
  have HNB : Hid _ := hnb
  have HS : Hid _ := hs
  have HS1 : Hid _ := hs1
  have HES : Hid (ErrsAt w gsNum es) := hes
  have HE0 : Hid (es[1]? = some s0) := he0
  have HE1 : Hid (es[11]? = some s1) := he1
  have HL : Hid _ := hl
  have HXR : Hid (xs.length = r * c) := by show _ = _; rw [← hx]; exact hl
  clear hl
  have HB : Hid _ := hB
  clear hB
  clear hx hX hna hv hV hnb hs hs1 hes he0 he1
  go_enter Tryd.func4, Tryd.ntmps4
  go_wp2_with fail
  refine Calls.mono (alive_ok _) ?_
  rintro e w1 ⟨rfl, hb1⟩
  have hA := holds_later (holds_new (holds_new (holds_nil w) #[.int .i64 r, .int .i64 c, .slice a l cap] 24) #[.int .i64 N0, .int .i64 N1] 26) hb1
  rw [World.size_alloc] at hA
  have HW : Hid (Below w.heap.size w w1) := (((Below.refl w.heap.size w).alloc (Nat.le_refl _) _).alloc (by simp) _).trans (hb1.mono (by simp; omega))
  have HA : Hid _ := hA
  clear hb1 hA
  have qM0 := cellAt (holds_at HA.out 1 rfl) 0 _ rfl
  have qM1 := cellAt (holds_at HA.out 1 rfl) 1 _ rfl
  have qM2 := cellAt (holds_at HA.out 1 rfl) 2 _ rfl
  go_wp2_with fail
  refine Calls.mono (in_F r c l cap a xs _ HXL.out (by omega) (row8_below HX.out HW.out) HNA.out) ?_
  rintro e w2 ⟨gx, rfl, hgx, hh, hb⟩
  have hA := holds_later HA.out hb
  have hW := HW.out.trans (hb.mono HW.out.size)
  clear qM0 qM1 qM2
  have hA := holds_cons hA hh
  have HGX : Hid (w.heap.size ≤ gx) := Nat.le_trans HW.out.size hgx
  clear hgx
  clear HA HW hb hh
  have HA : Hid _ := hA
  have HW : Hid (Below w.heap.size w w2) := hW
  clear hA hW
  have qN0 := cellAt (holds_at HA.out 1 rfl) 0 _ rfl
  have qN1 := cellAt (holds_at HA.out 1 rfl) 1 _ rfl
  have qzN := ltHeap (holds_at HA.out 1 rfl)
  go_wp2_with fail
  have hA := holds_new HA.out #[.int .i64 r, .int .i64 c, .slice (some ⟨gx, 0, none⟩) l (l + 6)] 24
  have hW := HW.out.alloc HW.out.size (.cells #[.int .i64 r, .int .i64 c, .slice (some ⟨gx, 0, none⟩) l (l + 6)] 24)
  clear qN0 qN1 qzN
  clear HA HW
  have HA : Hid _ := hA
  have HW : Hid (Below w.heap.size w _) := hW
  clear hA hW
  refine Calls.mono (at_no r c l (l + 6) N0 N1 _ _ hr hc HL.out s1 (cell_later HW.out HS1.out) (by omega)) ?_
  rintro e w3 ⟨rfl, hb⟩
  have hA := holds_later HA.out hb
  have hW := HW.out.trans (hb.mono HW.out.size)
  clear HA HW hb
  have HA : Hid _ := hA
  have HW : Hid (Below w.heap.size w w3) := hW
  clear hA hW
  have qx0 := cellAt (holds_at HA.out 0 rfl) 0 _ rfl
  have qx1 := cellAt (holds_at HA.out 0 rfl) 1 _ rfl
  have qx2 := cellAt (holds_at HA.out 0 rfl) 2 _ rfl
  have qN0 := cellAt (holds_at HA.out 2 rfl) 0 _ rfl
  have qN1 := cellAt (holds_at HA.out 2 rfl) 1 _ rfl
  go_wp2_with fail
  refine Calls.mono (row_no r c l (l + 6) N0 _ _ hr hc HL.out s1 (cell_later HW.out HS1.out) (by omega)) ?_
  rintro e w4 ⟨rfl, hb⟩
  have hA := holds_later HA.out hb
  have hW := HW.out.trans (hb.mono HW.out.size)
  clear qx0 qx1 qx2 qN0 qN1
  clear HA HW hb
  have HA : Hid _ := hA
  have HW : Hid (Below w.heap.size w w4) := hW
  clear hA hW
  go_wp2_with fail
  refine Calls.mono (ints_F an ln cn ns _ HVL.out (by omega) (rowI_below HV.out HW.out) HNB.out) ?_
  rintro e w5 ⟨gi, rfl, hgi, hb, hh⟩
  have hA := holds_later HA.out hb
  have hW := HW.out.trans (hb.mono HW.out.size)
  have hA := holds_cons hA hh
  clear HA HW hb hh hgi
  have HA : Hid _ := hA
  have HW : Hid (Below w.heap.size w w5) := hW
  clear hA hW
  have qx0 := cellAt (holds_at HA.out 1 rfl) 0 _ rfl
  have qx1 := cellAt (holds_at HA.out 1 rfl) 1 _ rfl
  have qx2 := cellAt (holds_at HA.out 1 rfl) 2 _ rfl
  go_wp2_with fail
  refine Calls.mono ((take_F r c l (l + 6) ln (ln + 4) _ _ xs ns _ hr hc HL.out HXR.out (by omega) (row8_front (holds_at HA.out 2 rfl)) (fun h => by cases h) HVL.out hL (rowI_front (holds_at HA.out 0 rfl)) s1 (cell_later HW.out HS1.out)).mono (fun e w' h => h.resolve_left (fun q => HB.out q.1))) ?_
  rintro e w6 ⟨_, rfl, hb⟩
  have hA := holds_later HA.out hb
  have hW := HW.out.trans (hb.mono HW.out.size)
  clear qx0 qx1 qx2
  clear HA HW hb
  have HA : Hid _ := hA
  have HW : Hid (Below w.heap.size w w6) := hW
  clear hA hW
  have qx0 := cellAt (holds_at HA.out 1 rfl) 0 _ rfl
  have qx1 := cellAt (holds_at HA.out 1 rfl) 1 _ rfl
  have qx2 := cellAt (holds_at HA.out 1 rfl) 2 _ rfl
  have qzx := ltHeap (holds_at HA.out 1 rfl)
  have qM0 := cellAt (holds_at HA.out 4 rfl) 0 _ rfl
  have qM1 := cellAt (holds_at HA.out 4 rfl) 1 _ rfl
  have qM2 := cellAt (holds_at HA.out 4 rfl) 2 _ rfl
  have qzM := ltHeap (holds_at HA.out 4 rfl)
  go_wp2_with fail
  have hA := holds_new HA.out #[.int .i64 0, .int .i64 0, .slice none 0 0] 24
  have hW := HW.out.alloc HW.out.size (.cells #[.int .i64 0, .int .i64 0, .slice none 0 0] 24)
  clear qx0 qx1 qx2 qzx qM0 qM1 qM2 qzM
  clear HA HW
  have HA : Hid _ := hA
  have HW : Hid (Below w.heap.size w _) := hW
  clear hA hW
  refine Calls.mono (kept_F gx l cap a xs _ HXL.out (by omega) hcap (holds_at HA.out 3 rfl) (row8_below HX.out HW.out)) ?_
  rintro e w7 ⟨rfl, hb⟩
  have hA := holds_later HA.out hb
  have hW := HW.out.trans (hb.mono HW.out.size)
  clear HA HW hb
  have HA : Hid _ := hA
  have HW : Hid (Below w.heap.size w w7) := hW
  clear hA hW
  go_wp2_with fail
  refine Calls.mono (keptInts_F gi ln cn an ns _ HVL.out (by omega) hcv (holds_at HA.out 1 rfl) (rowI_below HV.out HW.out)) ?_
  rintro e w8 ⟨rfl, hb⟩
  have hA := holds_later HA.out hb
  have hW := HW.out.trans (hb.mono HW.out.size)
  clear HA HW hb
  have HA : Hid _ := hA
  have HW : Hid (Below w.heap.size w w8) := hW
  clear hA hW
  have qM0 := cellAt (holds_at HA.out 5 rfl) 0 _ rfl
  have qM1 := cellAt (holds_at HA.out 5 rfl) 1 _ rfl
  have qM2 := cellAt (holds_at HA.out 5 rfl) 2 _ rfl
  go_wp2_with fail
  refine Calls.mono (inForm_yes r c a l cap _ hr hc HL.out) ?_
  rintro e w9 ⟨rfl, hb⟩
  have hA := holds_later HA.out hb
  have hW := HW.out.trans (hb.mono HW.out.size)
  clear qM0 qM1 qM2
  clear HA HW hb
  have HA : Hid _ := hA
  have HW : Hid (Below w.heap.size w w9) := hW
  clear hA hW
  have qN0 := cellAt (holds_at HA.out 4 rfl) 0 _ rfl
  have qN1 := cellAt (holds_at HA.out 4 rfl) 1 _ rfl
  have qM0 := cellAt (holds_at HA.out 5 rfl) 0 _ rfl
  have qM1 := cellAt (holds_at HA.out 5 rfl) 1 _ rfl
  have qM2 := cellAt (holds_at HA.out 5 rfl) 2 _ rfl
  have c9 := (cell_later HW.out HS1.out)
  have q9 := neq_same w9 s1
  unfold errAt at *
  have qt0 := cellAt (holds_at HA.out 0 rfl) 0 _ rfl
  have qt1 := cellAt (holds_at HA.out 0 rfl) 1 _ rfl
  have qt2 := cellAt (holds_at HA.out 0 rfl) 2 _ rfl
  have qzN := ltHeap (holds_at HA.out 4 rfl)
  have qzM := ltHeap (holds_at HA.out 5 rfl)
  have qzt := ltHeap (holds_at HA.out 0 rfl)
  have dL : decide ((64 : Int) < (ln : Int)) = false := by rw [decide_eq_false_iff_not]; omega
  go_wp2
  have zM : w.heap.size < w9.heap.size := qzM
  have zN : w.heap.size + 1 < w9.heap.size := qzN
  have zT := qzt
  have zgx := ltHeap (holds_at HA.out 3 rfl)
  have zx := ltHeap (holds_at HA.out 2 rfl)
  have z0 : w9.heap.size + 1 ≤ (w9.alloc (.cells #[.int .i64 ln, .int .i64 c, .slice none 0 0] 24)).heap.size := by simp
  have hA := holds_new HA.out #[.int .i64 ln, .int .i64 c, .slice none 0 0] 24
  have hW := HW.out.alloc HW.out.size (.cells #[.int .i64 ln, .int .i64 c, .slice none 0 0] 24)
  clear qN0 qN1 qM0 qM1 qM2 qt0 qt1 qt2 qzN qzM qzt
  clear HA HW
  have HA : Hid _ := hA
  have HW : Hid (Below w.heap.size w _) := hW
  clear hA hW
  clear dL
  generalize hN : w9.heap.size = B at *
  generalize (w9.alloc (.cells #[.int .i64 ln, .int .i64 c, .slice none 0 0] 24)) = W at *
  clear hN
  go_loopw [177] (fun i wr => ∃ k : Nat, ∃ v : Value, k ≤ ln ∧ i = .int .i64 k ∧ Below B W wr ∧ wr.heap[B]? = some (.cells #[.int .i64 ln, .int .i64 c, v] 24 (0, 0)) ∧ wr.ownsRow (B + 1) 5 1 v (k * c) ((takeM c xs (ns.take k)).flatten.map vf) ∧ ∀ n ∈ ns.take k, 0 ≤ n ∧ n < r) (fun i _ => ln - (intOf i).toNat)
  case atStart => exact ⟨0, .slice none 0 0, by omega, rfl, Below.refl _ _, holds_at HA.out 0 rfl, by simpa [takeM] using World.ownsRow_nil _ _ _ _, by simp⟩
  case round =>
    obtain ⟨k, v, hk, rfl, hbw, hm5, hown, hall⟩ := hrel
    have zr := hbw.size
    obtain ⟨av, capv, rfl, hrv, hnv, hnn⟩ := ownB_slice hown
    have HBW : Hid _ := hbw
    have HM5 : Hid _ := hm5
    have HALL : Hid _ := hall
    have HB0 : Hid (Below w.heap.size w wr) := HW.out.trans (hbw.mono (by omega))
    have hM := (hbw.block _ zM).trans (holds_at HA.out 6 rfl)
    have qM0 := cellAt hM 0 _ rfl
    have qM1 := cellAt hM 1 _ rfl
    have qM2 := cellAt hM 2 _ rfl
    by_cases hlt : k < ln
    · have hkn : k < ns.length := by rw [← HVL.out]; exact hlt
      obtain ⟨b3, o3, rfl, hb3, hcell⟩ := rowI_cell HV.out hkn
      have c0 := cell_later HB0.out (hcell k hkn)
      have hget : ns[k]? = some (ns.getD k 0) := by rw [List.getD_eq_getElem?_getD, List.getElem?_eq_getElem hkn]; rfl
      generalize ns.getD k 0 = x at c0 hget
      have HGet : Hid _ := hget
      clear hcell hget
      by_cases hin : 0 ≤ x ∧ x < r
      · obtain ⟨i5, rfl⟩ := Int.eq_ofNat_of_zero_le hin.1
        have hi5 : i5 < r := by omega
        have d5 : decide ((i5 : Int) < 0) = false := by rw [decide_eq_false_iff_not]; omega
        have hlk : k * c + c ≤ 4096 := by
          have h1 := Nat.mul_le_mul (show k + 1 ≤ 64 by omega) hc
          rw [Nat.succ_mul] at h1; omega
        have HOWN : Hid _ := hown
        have hSd : Below B wr wr.drew := (Below.refl _ _).drew
        have pM0 := boxB hM zM 0 _ rfl
        have pM1 := boxB hM zM 1 _ rfl
        have pM2 := boxB hM zM 2 _ rfl
        clear hown hm5 hbw hall hrv hnv hnn hin qM1 qM2 hM
        go_wp2
        refine wp_region_noPanic ?_
        refine wp_region_held_drew (S := fun u => Below B wr u) (by kernel_rfl) ?_ (fun hHeld => ?_)
        · exact hSd
        refine wpAnyH_take (i := 0) (oi := { dst := some 193, op := Op.fieldAddr 24 (Operand.tmp 15) 2, type := 0, pos := "law.go:106", after := #[], guard := none }) (v := ?_) rfl (by kernel_rfl) (by kernel_rfl) (by kernel_rfl) (fun _ _ _ h => h) (Or.inl ⟨by rfl, ?_⟩) hHeld ?_
        rotate_left
        · intro u hSw
          go_simp
          try with_reducible rfl
        try simp only [Act.put, List.setIfInBounds_toArray, List.set_cons_zero, List.set_cons_succ]
        refine wpAnyH_take (i := 2) (oi := { dst := some 195, op := Op.load 24 (Operand.tmp 3), type := 24, pos := "law.go:106", after := #[], guard := none }) (v := ?_) rfl (by kernel_rfl) (by kernel_rfl) (by kernel_rfl) (fun _ _ _ h => h) (Or.inl ⟨by rfl, ?_⟩) hHeld ?_
        rotate_left
        · intro u hSw
          go_simp
          try with_reducible rfl
        try simp only [Act.put, List.setIfInBounds_toArray, List.set_cons_zero, List.set_cons_succ]
        refine wpAnyH_take (i := 3) (oi := { dst := some 196, op := Op.move (Operand.tmp 17), type := 3, pos := "law.go:106", after := #[], guard := none }) (v := ?_) rfl (by kernel_rfl) (by kernel_rfl) (by kernel_rfl) (fun _ _ _ h => h) (Or.inl ⟨by rfl, ?_⟩) hHeld ?_
        rotate_left
        · intro u hSw
          go_simp
          try with_reducible rfl
        try simp only [Act.put, List.setIfInBounds_toArray, List.set_cons_zero, List.set_cons_succ]
        refine wpAnyH_ready (rs := [1, 4]) (by kernel_rfl) (by simp) ?_
        refine AllReadyH.cons (o := { dst := some 194, op := Op.load 22 (Operand.tmp 193), type := 22, pos := "law.go:106", after := #[{ on := 0, ground := Ground.data }], guard := none }) rfl (fun K hK => ?_) (AllReadyH.cons (o := { dst := some 197, op := Op.call { callee := Callee.value (Operand.func 28), args := #[Operand.tmp 195, Operand.tmp 196], argTypes := #[24, 3] }, type := 22, pos := "law.go:106", after := #[{ on := 2, ground := Ground.data }, { on := 3, ground := Ground.data }], guard := none }) rfl (fun K hK => ?_) AllReadyH.nil)
        · have c1 := cellAt HM5.out 2 _ rfl
          go_simp
          refine hK.out _ _ ?_ (fun hHeld => ?_)
          · exact hSd
          clear hK K
          try simp only [Act.put, List.setIfInBounds_toArray, List.set_cons_zero, List.set_cons_succ]
          refine wpAnyH_ready (rs := [4]) (by kernel_rfl) (by simp) ?_
          refine AllReadyH.cons (o := { dst := some 197, op := Op.call { callee := Callee.value (Operand.func 28), args := #[Operand.tmp 195, Operand.tmp 196], argTypes := #[24, 3] }, type := 22, pos := "law.go:106", after := #[{ on := 2, ground := Ground.data }, { on := 3, ground := Ground.data }], guard := none }) rfl (fun K hK => ?_) AllReadyH.nil
          go_simp
          refine Calls.mono (rrow_F r c i5 l cap a xs _ hr hc hi5 HL.out HXR.out hcap (row8_below HX.out HB0.out.drew) HNA.out) ?_
          rintro e w6 ⟨g2, c2, rfl, hg2, hh2, hb2⟩
          have ho2 := own_below (World.ownsRow.drew HOWN.out) hb2
          have hm2 : w6.heap[B]? = some (.cells #[.int .i64 ln, .int .i64 c, .slice av (k * c) capv] 24 (0, 0)) := heap_later (w := wr.drew) HM5.out hb2
          have hS2 : Below B wr w6 := Below.trans hSd (hb2.mono (by show B ≤ wr.heap.size; omega))
          have z6 : B + 1 ≤ w6.heap.size := Nat.le_trans (show B + 1 ≤ wr.drew.heap.size by show B + 1 ≤ wr.heap.size; omega) hb2.size
          obtain ⟨v', w7, hrun, ho6, hgr⟩ := appendB (m := c) (c := c2) 22 ho2 (rowAt_len HXR.out hi5).symm (by omega) (row8_has hh2) (fun h => by cases h) z6
          have hm6 : w7.heap[B]? = some (.cells #[.int .i64 ln, .int .i64 c, .slice av (k * c) capv] 24 (0, 0)) := own_other ho2 hgr hm2 (by decide)
          have hS6 : Below B wr w7 := below_own hS2 (own_mono (B := B + 1) ho2 (by omega)) hgr (by omega)
          obtain ⟨a6, cap6, rfl, h7, h8, h9⟩ := ownB_slice ho6
          have HRun : Hid _ := hrun
          have HO6 : Hid _ := ho6
          have HM6 : Hid _ := hm6
          have HM2 : Hid _ := hm2
          have HS6 : Hid _ := hS6
          clear h7 h8 h9 hrun ho6 hm6 hS6 hgr hm2 ho2 hh2 hg2 hb2 z6
          go_wp2_with fail
          refine hK.out _ _ ?_ (fun hHeld => ?_)
          · exact hS2
          clear hK K
          try simp only [Act.put, List.setIfInBounds_toArray, List.set_cons_zero, List.set_cons_succ]
          refine wpAnyH_ready (rs := [5]) (by kernel_rfl) (by simp) ?_
          refine AllReadyH.cons (o := { dst := some 198, op := Op.call { callee := Callee.builtin Builtin.append, args := #[Operand.tmp 194, Operand.tmp 197], argTypes := #[22, 22] }, type := 22, pos := "law.go:106", after := #[{ on := 1, ground := Ground.data }, { on := 4, ground := Ground.data }, { on := 4, ground := Ground.chain }], guard := none }) rfl (fun K hK => ?_) AllReadyH.nil
          refine wanted_append_run rfl _ _ 22 rfl _ _ _ _ rfl rfl HRun.out ?_
          refine hK.out _ _ ?_ (fun hHeld => ?_)
          · exact HS6.out
          clear hK K
          try simp only [Act.put, List.setIfInBounds_toArray, List.set_cons_zero, List.set_cons_succ]
          refine wpAnyH_take (i := 6) (oi := { dst := some 199, op := Op.fieldAddr 24 (Operand.tmp 15) 2, type := 0, pos := "law.go:106", after := #[{ on := 0, ground := Ground.phase }, { on := 1, ground := Ground.phase }, { on := 2, ground := Ground.phase }, { on := 3, ground := Ground.phase }, { on := 4, ground := Ground.phase }, { on := 5, ground := Ground.phase }], guard := none }) (v := ?_) rfl (by kernel_rfl) (by kernel_rfl) (by kernel_rfl) (fun _ _ _ h => h) (Or.inl ⟨by rfl, ?_⟩) hHeld ?_
          rotate_left
          · intro u hSw
            go_simp
            try with_reducible rfl
          try simp only [Act.put, List.setIfInBounds_toArray, List.set_cons_zero, List.set_cons_succ]
          have d1 := cellAt HM6.out 2 _ rfl
          have d2 : w7.frozen? ⟨B, 2, none⟩ = false := frozen_of_row _ _ _ _ _ HM6.out
          refine wpAnyH_ready (rs := [7]) (by kernel_rfl) (by simp) ?_
          refine AllReadyH.cons (o := { dst := none, op := Op.store 22 (Operand.tmp 199) (Operand.tmp 198), type := 0, pos := "law.go:106", after := #[{ on := 6, ground := Ground.data }, { on := 5, ground := Ground.data }, { on := 5, ground := Ground.chain }, { on := 0, ground := Ground.phase }, { on := 1, ground := Ground.phase }, { on := 2, ground := Ground.phase }, { on := 3, ground := Ground.phase }, { on := 4, ground := Ground.phase }, { on := 5, ground := Ground.phase }], guard := none }) rfl (fun K hK => ?_) AllReadyH.nil
          go_simp
          refine hK.out _ _ ?_ (fun hHeld => ?_)
          · exact HS6.out.setCell (by simp) _
          clear hK K
          try simp only [Act.put, List.setIfInBounds_toArray, List.set_cons_zero, List.set_cons_succ]
          refine wpAnyH_done (by kernel_rfl) ?_ _
          refine NoPanic.normal ?_
          have HTk : Hid ((takeM c xs (ns.take k)).flatten ++ rowAt c xs i5 = (takeM c xs (ns.take (k + 1))).flatten) := by
            show _ = _
            have hg := HGet.out
            rw [List.getElem?_eq_getElem hkn] at hg
            rw [List.take_succ_eq_append_getElem hkn, Option.some.inj hg]
            simp [takeM]
          have HAL : Hid (∀ n ∈ ns.take (k + 1), 0 ≤ n ∧ n < r) := by
            intro n hn
            have hg := HGet.out
            rw [List.getElem?_eq_getElem hkn] at hg
            rw [List.take_succ_eq_append_getElem hkn, Option.some.inj hg, List.mem_append, List.mem_singleton] at hn
            rcases hn with hn | rfl
            · exact HALL.out n hn
            · omega
          clear d1 d2
          go_wp2
          refine ⟨⟨k + 1, .slice a6 (k * c + c) cap6, by omega, by go_num, HBW.out.trans (HS6.out.setCell (by simp) _), ?_, ?_, HAL.out⟩, by simp [intOf]; omega⟩
          · rw [heap_setCell_same _ _ _ _ _ _ HM6.out]; rfl
          · rw [← HTk.out, Nat.succ_mul]
            refine ⟨HO6.out.1, HO6.out.2.imp id fun ⟨g, cap, cur, h1, h2, h3, h4⟩ => ⟨g, cap, cur, h1, h2, ?_, h4⟩⟩
            rw [heap_setCell_other _ _ _ _ (by show g ≠ B; omega)]; exact h3
        · go_simp
          refine Calls.mono (rrow_F r c i5 l cap a xs _ hr hc hi5 HL.out HXR.out hcap (row8_below HX.out HB0.out.drew) HNA.out) ?_
          rintro e w6 ⟨g2, c2, rfl, hg2, hh2, hb2⟩
          have ho2 := own_below (World.ownsRow.drew HOWN.out) hb2
          have hm2 : w6.heap[B]? = some (.cells #[.int .i64 ln, .int .i64 c, .slice av (k * c) capv] 24 (0, 0)) := heap_later (w := wr.drew) HM5.out hb2
          have hS2 : Below B wr w6 := Below.trans hSd (hb2.mono (by show B ≤ wr.heap.size; omega))
          have z6 : B + 1 ≤ w6.heap.size := Nat.le_trans (show B + 1 ≤ wr.drew.heap.size by show B + 1 ≤ wr.heap.size; omega) hb2.size
          obtain ⟨v', w7, hrun, ho6, hgr⟩ := appendB (m := c) (c := c2) 22 ho2 (rowAt_len HXR.out hi5).symm (by omega) (row8_has hh2) (fun h => by cases h) z6
          have hm6 : w7.heap[B]? = some (.cells #[.int .i64 ln, .int .i64 c, .slice av (k * c) capv] 24 (0, 0)) := own_other ho2 hgr hm2 (by decide)
          have hS6 : Below B wr w7 := below_own hS2 (own_mono (B := B + 1) ho2 (by omega)) hgr (by omega)
          obtain ⟨a6, cap6, rfl, h7, h8, h9⟩ := ownB_slice ho6
          have HRun : Hid _ := hrun
          have HO6 : Hid _ := ho6
          have HM6 : Hid _ := hm6
          have HM2 : Hid _ := hm2
          have HS6 : Hid _ := hS6
          clear h7 h8 h9 hrun ho6 hm6 hS6 hgr hm2 ho2 hh2 hg2 hb2 z6
          go_wp2_with fail
          refine hK.out _ _ ?_ (fun hHeld => ?_)
          · exact hS2
          clear hK K
          try simp only [Act.put, List.setIfInBounds_toArray, List.set_cons_zero, List.set_cons_succ]
          refine wpAnyH_ready (rs := [1]) (by kernel_rfl) (by simp) ?_
          refine AllReadyH.cons (o := { dst := some 194, op := Op.load 22 (Operand.tmp 193), type := 22, pos := "law.go:106", after := #[{ on := 0, ground := Ground.data }], guard := none }) rfl (fun K hK => ?_) AllReadyH.nil
          have c1 := cellAt HM2.out 2 _ rfl
          go_simp
          refine hK.out _ _ ?_ (fun hHeld => ?_)
          · exact hS2
          clear hK K c1
          try simp only [Act.put, List.setIfInBounds_toArray, List.set_cons_zero, List.set_cons_succ]
          refine wpAnyH_ready (rs := [5]) (by kernel_rfl) (by simp) ?_
          refine AllReadyH.cons (o := { dst := some 198, op := Op.call { callee := Callee.builtin Builtin.append, args := #[Operand.tmp 194, Operand.tmp 197], argTypes := #[22, 22] }, type := 22, pos := "law.go:106", after := #[{ on := 1, ground := Ground.data }, { on := 4, ground := Ground.data }, { on := 4, ground := Ground.chain }], guard := none }) rfl (fun K hK => ?_) AllReadyH.nil
          refine wanted_append_run rfl _ _ 22 rfl _ _ _ _ rfl rfl HRun.out ?_
          refine hK.out _ _ ?_ (fun hHeld => ?_)
          · exact HS6.out
          clear hK K
          try simp only [Act.put, List.setIfInBounds_toArray, List.set_cons_zero, List.set_cons_succ]
          refine wpAnyH_take (i := 6) (oi := { dst := some 199, op := Op.fieldAddr 24 (Operand.tmp 15) 2, type := 0, pos := "law.go:106", after := #[{ on := 0, ground := Ground.phase }, { on := 1, ground := Ground.phase }, { on := 2, ground := Ground.phase }, { on := 3, ground := Ground.phase }, { on := 4, ground := Ground.phase }, { on := 5, ground := Ground.phase }], guard := none }) (v := ?_) rfl (by kernel_rfl) (by kernel_rfl) (by kernel_rfl) (fun _ _ _ h => h) (Or.inl ⟨by rfl, ?_⟩) hHeld ?_
          rotate_left
          · intro u hSw
            go_simp
            try with_reducible rfl
          try simp only [Act.put, List.setIfInBounds_toArray, List.set_cons_zero, List.set_cons_succ]
          have d1 := cellAt HM6.out 2 _ rfl
          have d2 : w7.frozen? ⟨B, 2, none⟩ = false := frozen_of_row _ _ _ _ _ HM6.out
          refine wpAnyH_ready (rs := [7]) (by kernel_rfl) (by simp) ?_
          refine AllReadyH.cons (o := { dst := none, op := Op.store 22 (Operand.tmp 199) (Operand.tmp 198), type := 0, pos := "law.go:106", after := #[{ on := 6, ground := Ground.data }, { on := 5, ground := Ground.data }, { on := 5, ground := Ground.chain }, { on := 0, ground := Ground.phase }, { on := 1, ground := Ground.phase }, { on := 2, ground := Ground.phase }, { on := 3, ground := Ground.phase }, { on := 4, ground := Ground.phase }, { on := 5, ground := Ground.phase }], guard := none }) rfl (fun K hK => ?_) AllReadyH.nil
          go_simp
          refine hK.out _ _ ?_ (fun hHeld => ?_)
          · exact HS6.out.setCell (by simp) _
          clear hK K
          try simp only [Act.put, List.setIfInBounds_toArray, List.set_cons_zero, List.set_cons_succ]
          refine wpAnyH_done (by kernel_rfl) ?_ _
          refine NoPanic.normal ?_
          have HTk : Hid ((takeM c xs (ns.take k)).flatten ++ rowAt c xs i5 = (takeM c xs (ns.take (k + 1))).flatten) := by
            show _ = _
            have hg := HGet.out
            rw [List.getElem?_eq_getElem hkn] at hg
            rw [List.take_succ_eq_append_getElem hkn, Option.some.inj hg]
            simp [takeM]
          have HAL : Hid (∀ n ∈ ns.take (k + 1), 0 ≤ n ∧ n < r) := by
            intro n hn
            have hg := HGet.out
            rw [List.getElem?_eq_getElem hkn] at hg
            rw [List.take_succ_eq_append_getElem hkn, Option.some.inj hg, List.mem_append, List.mem_singleton] at hn
            rcases hn with hn | rfl
            · exact HALL.out n hn
            · omega
          clear d1 d2
          go_wp2
          refine ⟨⟨k + 1, .slice a6 (k * c + c) cap6, by omega, by go_num, HBW.out.trans (HS6.out.setCell (by simp) _), ?_, ?_, HAL.out⟩, by simp [intOf]; omega⟩
          · rw [heap_setCell_same _ _ _ _ _ _ HM6.out]; rfl
          · rw [← HTk.out, Nat.succ_mul]
            refine ⟨HO6.out.1, HO6.out.2.imp id fun ⟨g, cap, cur, h1, h2, h3, h4⟩ => ⟨g, cap, cur, h1, h2, ?_, h4⟩⟩
            rw [heap_setCell_other _ _ _ _ (by show g ≠ B; omega)]; exact h3
      · have ht := (hbw.block _ zT).trans (holds_at HA.out 1 rfl)
        have qt0 := cellAt ht 0 _ rfl
        have qt1 := cellAt ht 1 _ rfl
        have qt2 := cellAt ht 2 _ rfl
        clear hown hm5 hbw hall hrv hnv hnn hM ht
        by_cases hneg : x < 0
        · go_wp2_with fail
          refine Calls.mono (as_number _ 0 0 none 0 0 _ es s1 (errsAt_below HES.out HB0.out) HE1.out rfl) ?_
          rintro e wZ ⟨rfl, hb⟩
          have hW := HB0.out.trans (hb.mono HB0.out.size)
          go_wp2
          go_ret
          exact ⟨rfl, hW⟩
        · have d5 : decide (x < 0) = false := by rw [decide_eq_false_iff_not]; exact hneg
          have hge : (r : Int) ≤ x := by omega
          go_wp2_with fail
          refine Calls.mono (as_number _ 0 0 none 0 0 _ es s1 (errsAt_below HES.out HB0.out) HE1.out rfl) ?_
          rintro e wZ ⟨rfl, hb⟩
          have hW := HB0.out.trans (hb.mono HB0.out.size)
          go_wp2
          go_ret
          exact ⟨rfl, hW⟩
    · obtain rfl : k = ln := by omega
      have hd : ns.take k = ns := List.take_of_length_le (by rw [HVL.out]; exact Nat.le_refl _)
      rw [hd] at hall
      exact absurd hall HB.out
set_option maxRecDepth 100000 in
set_option maxHeartbeats 8000000 in
theorem places_1bB (r c : Nat) (l cap ln cn : Nat) (N0 N1 : Int) (a an : Option Addr) (xs : List F) (ns : List Int) (w : World) (hr : r ≤ 64) (hc : c ≤ 64) (hl : l = r * c) (h0 : ¬ N0 < 0) (h1 : (r : Int) ≤ N0) (hL : ln ≤ 64) (hB : ¬ ∀ n ∈ ns, 0 ≤ n ∧ n < r) (hx : l = xs.length) (hcap : l ≤ cap) (hm : cap ≤ 140737488351232) (hX : Row8 w a xs) (hna : a = none → cap = 0)
    (hv : ln = ns.length) (hcv : ln ≤ cn) (hmv : cn ≤ 17592186043904) (hV : RowI w an ns) (hnb : an = none → cn = 0) (es : List Addr) (hes : ErrsAt w gsNum es) (s0 s1 : Addr) (he0 : es[1]? = some s0) (he1 : es[11]? = some s1)
    (hs : w.cell? ⟨0, 0, none⟩ = some (errAt s0)) (hs1 : w.cell? ⟨1, 0, none⟩ = some (errAt s1)) :
    Calls Tryd.prog 4 #[.agg #[.int .i64 r, .int .i64 c, .slice a l cap], .slice an ln cn, .agg #[.int .i64 N0, .int .i64 N1]] w fun e w' => e = .returned (.bool true) ∧ Below w.heap.size w w' := by
  have HXL : Hid _ := hx
  have HVL : Hid _ := hv
  have HX : Hid (Row8 w a xs) := hX
  have HV : Hid (RowI w an ns) := hV
  have HNA : Hid _ := hna
  have HNB : Hid _ := hnb
  have HS : Hid _ := hs
  have HS1 : Hid _ := hs1
  have HES : Hid (ErrsAt w gsNum es) := hes
  have HE0 : Hid (es[1]? = some s0) := he0
  have HE1 : Hid (es[11]? = some s1) := he1
  have HL : Hid _ := hl
  have HXR : Hid (xs.length = r * c) := by show _ = _; rw [← hx]; exact hl
  clear hl
  have HB : Hid _ := hB
  clear hB
  clear hx hX hna hv hV hnb hs hs1 hes he0 he1
  go_enter Tryd.func4, Tryd.ntmps4
  go_wp2_with fail
  refine Calls.mono (alive_ok _) ?_
  rintro e w1 ⟨rfl, hb1⟩
  have hA := holds_later (holds_new (holds_new (holds_nil w) #[.int .i64 r, .int .i64 c, .slice a l cap] 24) #[.int .i64 N0, .int .i64 N1] 26) hb1
  rw [World.size_alloc] at hA
  have HW : Hid (Below w.heap.size w w1) := (((Below.refl w.heap.size w).alloc (Nat.le_refl _) _).alloc (by simp) _).trans (hb1.mono (by simp; omega))
  have HA : Hid _ := hA
  clear hb1 hA
  have qM0 := cellAt (holds_at HA.out 1 rfl) 0 _ rfl
  have qM1 := cellAt (holds_at HA.out 1 rfl) 1 _ rfl
  have qM2 := cellAt (holds_at HA.out 1 rfl) 2 _ rfl
  go_wp2_with fail
  refine Calls.mono (in_F r c l cap a xs _ HXL.out (by omega) (row8_below HX.out HW.out) HNA.out) ?_
  rintro e w2 ⟨gx, rfl, hgx, hh, hb⟩
  have hA := holds_later HA.out hb
  have hW := HW.out.trans (hb.mono HW.out.size)
  clear qM0 qM1 qM2
  have hA := holds_cons hA hh
  have HGX : Hid (w.heap.size ≤ gx) := Nat.le_trans HW.out.size hgx
  clear hgx
  clear HA HW hb hh
  have HA : Hid _ := hA
  have HW : Hid (Below w.heap.size w w2) := hW
  clear hA hW
  have qN0 := cellAt (holds_at HA.out 1 rfl) 0 _ rfl
  have qN1 := cellAt (holds_at HA.out 1 rfl) 1 _ rfl
  have qzN := ltHeap (holds_at HA.out 1 rfl)
  go_wp2_with fail
  have hA := holds_new HA.out #[.int .i64 r, .int .i64 c, .slice (some ⟨gx, 0, none⟩) l (l + 6)] 24
  have hW := HW.out.alloc HW.out.size (.cells #[.int .i64 r, .int .i64 c, .slice (some ⟨gx, 0, none⟩) l (l + 6)] 24)
  clear qN0 qN1 qzN
  clear HA HW
  have HA : Hid _ := hA
  have HW : Hid (Below w.heap.size w _) := hW
  clear hA hW
  refine Calls.mono (at_no r c l (l + 6) N0 N1 _ _ hr hc HL.out s1 (cell_later HW.out HS1.out) (by omega)) ?_
  rintro e w3 ⟨rfl, hb⟩
  have hA := holds_later HA.out hb
  have hW := HW.out.trans (hb.mono HW.out.size)
  clear HA HW hb
  have HA : Hid _ := hA
  have HW : Hid (Below w.heap.size w w3) := hW
  clear hA hW
  have qx0 := cellAt (holds_at HA.out 0 rfl) 0 _ rfl
  have qx1 := cellAt (holds_at HA.out 0 rfl) 1 _ rfl
  have qx2 := cellAt (holds_at HA.out 0 rfl) 2 _ rfl
  have qN0 := cellAt (holds_at HA.out 2 rfl) 0 _ rfl
  have qN1 := cellAt (holds_at HA.out 2 rfl) 1 _ rfl
  go_wp2_with fail
  refine Calls.mono (row_no r c l (l + 6) N0 _ _ hr hc HL.out s1 (cell_later HW.out HS1.out) (by omega)) ?_
  rintro e w4 ⟨rfl, hb⟩
  have hA := holds_later HA.out hb
  have hW := HW.out.trans (hb.mono HW.out.size)
  clear qx0 qx1 qx2 qN0 qN1
  clear HA HW hb
  have HA : Hid _ := hA
  have HW : Hid (Below w.heap.size w w4) := hW
  clear hA hW
  go_wp2_with fail
  refine Calls.mono (ints_F an ln cn ns _ HVL.out (by omega) (rowI_below HV.out HW.out) HNB.out) ?_
  rintro e w5 ⟨gi, rfl, hgi, hb, hh⟩
  have hA := holds_later HA.out hb
  have hW := HW.out.trans (hb.mono HW.out.size)
  have hA := holds_cons hA hh
  clear HA HW hb hh hgi
  have HA : Hid _ := hA
  have HW : Hid (Below w.heap.size w w5) := hW
  clear hA hW
  have qx0 := cellAt (holds_at HA.out 1 rfl) 0 _ rfl
  have qx1 := cellAt (holds_at HA.out 1 rfl) 1 _ rfl
  have qx2 := cellAt (holds_at HA.out 1 rfl) 2 _ rfl
  go_wp2_with fail
  refine Calls.mono ((take_F r c l (l + 6) ln (ln + 4) _ _ xs ns _ hr hc HL.out HXR.out (by omega) (row8_front (holds_at HA.out 2 rfl)) (fun h => by cases h) HVL.out hL (rowI_front (holds_at HA.out 0 rfl)) s1 (cell_later HW.out HS1.out)).mono (fun e w' h => h.resolve_left (fun q => HB.out q.1))) ?_
  rintro e w6 ⟨_, rfl, hb⟩
  have hA := holds_later HA.out hb
  have hW := HW.out.trans (hb.mono HW.out.size)
  clear qx0 qx1 qx2
  clear HA HW hb
  have HA : Hid _ := hA
  have HW : Hid (Below w.heap.size w w6) := hW
  clear hA hW
  have qx0 := cellAt (holds_at HA.out 1 rfl) 0 _ rfl
  have qx1 := cellAt (holds_at HA.out 1 rfl) 1 _ rfl
  have qx2 := cellAt (holds_at HA.out 1 rfl) 2 _ rfl
  have qzx := ltHeap (holds_at HA.out 1 rfl)
  have qM0 := cellAt (holds_at HA.out 4 rfl) 0 _ rfl
  have qM1 := cellAt (holds_at HA.out 4 rfl) 1 _ rfl
  have qM2 := cellAt (holds_at HA.out 4 rfl) 2 _ rfl
  have qzM := ltHeap (holds_at HA.out 4 rfl)
  go_wp2_with fail
  have hA := holds_new HA.out #[.int .i64 0, .int .i64 0, .slice none 0 0] 24
  have hW := HW.out.alloc HW.out.size (.cells #[.int .i64 0, .int .i64 0, .slice none 0 0] 24)
  clear qx0 qx1 qx2 qzx qM0 qM1 qM2 qzM
  clear HA HW
  have HA : Hid _ := hA
  have HW : Hid (Below w.heap.size w _) := hW
  clear hA hW
  refine Calls.mono (kept_F gx l cap a xs _ HXL.out (by omega) hcap (holds_at HA.out 3 rfl) (row8_below HX.out HW.out)) ?_
  rintro e w7 ⟨rfl, hb⟩
  have hA := holds_later HA.out hb
  have hW := HW.out.trans (hb.mono HW.out.size)
  clear HA HW hb
  have HA : Hid _ := hA
  have HW : Hid (Below w.heap.size w w7) := hW
  clear hA hW
  go_wp2_with fail
  refine Calls.mono (keptInts_F gi ln cn an ns _ HVL.out (by omega) hcv (holds_at HA.out 1 rfl) (rowI_below HV.out HW.out)) ?_
  rintro e w8 ⟨rfl, hb⟩
  have hA := holds_later HA.out hb
  have hW := HW.out.trans (hb.mono HW.out.size)
  clear HA HW hb
  have HA : Hid _ := hA
  have HW : Hid (Below w.heap.size w w8) := hW
  clear hA hW
  have qM0 := cellAt (holds_at HA.out 5 rfl) 0 _ rfl
  have qM1 := cellAt (holds_at HA.out 5 rfl) 1 _ rfl
  have qM2 := cellAt (holds_at HA.out 5 rfl) 2 _ rfl
  go_wp2_with fail
  refine Calls.mono (inForm_yes r c a l cap _ hr hc HL.out) ?_
  rintro e w9 ⟨rfl, hb⟩
  have hA := holds_later HA.out hb
  have hW := HW.out.trans (hb.mono HW.out.size)
  clear qM0 qM1 qM2
  clear HA HW hb
  have HA : Hid _ := hA
  have HW : Hid (Below w.heap.size w w9) := hW
  clear hA hW
  have qN0 := cellAt (holds_at HA.out 4 rfl) 0 _ rfl
  have qN1 := cellAt (holds_at HA.out 4 rfl) 1 _ rfl
  have qM0 := cellAt (holds_at HA.out 5 rfl) 0 _ rfl
  have qM1 := cellAt (holds_at HA.out 5 rfl) 1 _ rfl
  have qM2 := cellAt (holds_at HA.out 5 rfl) 2 _ rfl
  have c9 := (cell_later HW.out HS1.out)
  have q9 := neq_same w9 s1
  have d0 : decide (N0 < 0) = false := by simpa using h0
  unfold errAt at *
  have qt0 := cellAt (holds_at HA.out 0 rfl) 0 _ rfl
  have qt1 := cellAt (holds_at HA.out 0 rfl) 1 _ rfl
  have qt2 := cellAt (holds_at HA.out 0 rfl) 2 _ rfl
  have qzN := ltHeap (holds_at HA.out 4 rfl)
  have qzM := ltHeap (holds_at HA.out 5 rfl)
  have qzt := ltHeap (holds_at HA.out 0 rfl)
  have dL : decide ((64 : Int) < (ln : Int)) = false := by rw [decide_eq_false_iff_not]; omega
  go_wp2
  have zM : w.heap.size < w9.heap.size := qzM
  have zN : w.heap.size + 1 < w9.heap.size := qzN
  have zT := qzt
  have zgx := ltHeap (holds_at HA.out 3 rfl)
  have zx := ltHeap (holds_at HA.out 2 rfl)
  have z0 : w9.heap.size + 1 ≤ (w9.alloc (.cells #[.int .i64 ln, .int .i64 c, .slice none 0 0] 24)).heap.size := by simp
  have hA := holds_new HA.out #[.int .i64 ln, .int .i64 c, .slice none 0 0] 24
  have hW := HW.out.alloc HW.out.size (.cells #[.int .i64 ln, .int .i64 c, .slice none 0 0] 24)
  clear qN0 qN1 qM0 qM1 qM2 qt0 qt1 qt2 qzN qzM qzt
  clear HA HW
  have HA : Hid _ := hA
  have HW : Hid (Below w.heap.size w _) := hW
  clear hA hW
  clear dL
  generalize hN : w9.heap.size = B at *
  generalize (w9.alloc (.cells #[.int .i64 ln, .int .i64 c, .slice none 0 0] 24)) = W at *
  clear hN
  go_loopw [177] (fun i wr => ∃ k : Nat, ∃ v : Value, k ≤ ln ∧ i = .int .i64 k ∧ Below B W wr ∧ wr.heap[B]? = some (.cells #[.int .i64 ln, .int .i64 c, v] 24 (0, 0)) ∧ wr.ownsRow (B + 1) 5 1 v (k * c) ((takeM c xs (ns.take k)).flatten.map vf) ∧ ∀ n ∈ ns.take k, 0 ≤ n ∧ n < r) (fun i _ => ln - (intOf i).toNat)
  case atStart => exact ⟨0, .slice none 0 0, by omega, rfl, Below.refl _ _, holds_at HA.out 0 rfl, by simpa [takeM] using World.ownsRow_nil _ _ _ _, by simp⟩
  case round =>
    obtain ⟨k, v, hk, rfl, hbw, hm5, hown, hall⟩ := hrel
    have zr := hbw.size
    obtain ⟨av, capv, rfl, hrv, hnv, hnn⟩ := ownB_slice hown
    have HBW : Hid _ := hbw
    have HM5 : Hid _ := hm5
    have HALL : Hid _ := hall
    have HB0 : Hid (Below w.heap.size w wr) := HW.out.trans (hbw.mono (by omega))
    have hM := (hbw.block _ zM).trans (holds_at HA.out 6 rfl)
    have qM0 := cellAt hM 0 _ rfl
    have qM1 := cellAt hM 1 _ rfl
    have qM2 := cellAt hM 2 _ rfl
    by_cases hlt : k < ln
    · have hkn : k < ns.length := by rw [← HVL.out]; exact hlt
      obtain ⟨b3, o3, rfl, hb3, hcell⟩ := rowI_cell HV.out hkn
      have c0 := cell_later HB0.out (hcell k hkn)
      have hget : ns[k]? = some (ns.getD k 0) := by rw [List.getD_eq_getElem?_getD, List.getElem?_eq_getElem hkn]; rfl
      generalize ns.getD k 0 = x at c0 hget
      have HGet : Hid _ := hget
      clear hcell hget
      by_cases hin : 0 ≤ x ∧ x < r
      · obtain ⟨i5, rfl⟩ := Int.eq_ofNat_of_zero_le hin.1
        have hi5 : i5 < r := by omega
        have d5 : decide ((i5 : Int) < 0) = false := by rw [decide_eq_false_iff_not]; omega
        have hlk : k * c + c ≤ 4096 := by
          have h1 := Nat.mul_le_mul (show k + 1 ≤ 64 by omega) hc
          rw [Nat.succ_mul] at h1; omega
        have HOWN : Hid _ := hown
        have hSd : Below B wr wr.drew := (Below.refl _ _).drew
        have pM0 := boxB hM zM 0 _ rfl
        have pM1 := boxB hM zM 1 _ rfl
        have pM2 := boxB hM zM 2 _ rfl
        clear hown hm5 hbw hall hrv hnv hnn hin qM1 qM2 hM
        go_wp2
        refine wp_region_noPanic ?_
        refine wp_region_held_drew (S := fun u => Below B wr u) (by kernel_rfl) ?_ (fun hHeld => ?_)
        · exact hSd
        refine wpAnyH_take (i := 0) (oi := { dst := some 193, op := Op.fieldAddr 24 (Operand.tmp 15) 2, type := 0, pos := "law.go:106", after := #[], guard := none }) (v := ?_) rfl (by kernel_rfl) (by kernel_rfl) (by kernel_rfl) (fun _ _ _ h => h) (Or.inl ⟨by rfl, ?_⟩) hHeld ?_
        rotate_left
        · intro u hSw
          go_simp
          try with_reducible rfl
        try simp only [Act.put, List.setIfInBounds_toArray, List.set_cons_zero, List.set_cons_succ]
        refine wpAnyH_take (i := 2) (oi := { dst := some 195, op := Op.load 24 (Operand.tmp 3), type := 24, pos := "law.go:106", after := #[], guard := none }) (v := ?_) rfl (by kernel_rfl) (by kernel_rfl) (by kernel_rfl) (fun _ _ _ h => h) (Or.inl ⟨by rfl, ?_⟩) hHeld ?_
        rotate_left
        · intro u hSw
          go_simp
          try with_reducible rfl
        try simp only [Act.put, List.setIfInBounds_toArray, List.set_cons_zero, List.set_cons_succ]
        refine wpAnyH_take (i := 3) (oi := { dst := some 196, op := Op.move (Operand.tmp 17), type := 3, pos := "law.go:106", after := #[], guard := none }) (v := ?_) rfl (by kernel_rfl) (by kernel_rfl) (by kernel_rfl) (fun _ _ _ h => h) (Or.inl ⟨by rfl, ?_⟩) hHeld ?_
        rotate_left
        · intro u hSw
          go_simp
          try with_reducible rfl
        try simp only [Act.put, List.setIfInBounds_toArray, List.set_cons_zero, List.set_cons_succ]
        refine wpAnyH_ready (rs := [1, 4]) (by kernel_rfl) (by simp) ?_
        refine AllReadyH.cons (o := { dst := some 194, op := Op.load 22 (Operand.tmp 193), type := 22, pos := "law.go:106", after := #[{ on := 0, ground := Ground.data }], guard := none }) rfl (fun K hK => ?_) (AllReadyH.cons (o := { dst := some 197, op := Op.call { callee := Callee.value (Operand.func 28), args := #[Operand.tmp 195, Operand.tmp 196], argTypes := #[24, 3] }, type := 22, pos := "law.go:106", after := #[{ on := 2, ground := Ground.data }, { on := 3, ground := Ground.data }], guard := none }) rfl (fun K hK => ?_) AllReadyH.nil)
        · have c1 := cellAt HM5.out 2 _ rfl
          go_simp
          refine hK.out _ _ ?_ (fun hHeld => ?_)
          · exact hSd
          clear hK K
          try simp only [Act.put, List.setIfInBounds_toArray, List.set_cons_zero, List.set_cons_succ]
          refine wpAnyH_ready (rs := [4]) (by kernel_rfl) (by simp) ?_
          refine AllReadyH.cons (o := { dst := some 197, op := Op.call { callee := Callee.value (Operand.func 28), args := #[Operand.tmp 195, Operand.tmp 196], argTypes := #[24, 3] }, type := 22, pos := "law.go:106", after := #[{ on := 2, ground := Ground.data }, { on := 3, ground := Ground.data }], guard := none }) rfl (fun K hK => ?_) AllReadyH.nil
          go_simp
          refine Calls.mono (rrow_F r c i5 l cap a xs _ hr hc hi5 HL.out HXR.out hcap (row8_below HX.out HB0.out.drew) HNA.out) ?_
          rintro e w6 ⟨g2, c2, rfl, hg2, hh2, hb2⟩
          have ho2 := own_below (World.ownsRow.drew HOWN.out) hb2
          have hm2 : w6.heap[B]? = some (.cells #[.int .i64 ln, .int .i64 c, .slice av (k * c) capv] 24 (0, 0)) := heap_later (w := wr.drew) HM5.out hb2
          have hS2 : Below B wr w6 := Below.trans hSd (hb2.mono (by show B ≤ wr.heap.size; omega))
          have z6 : B + 1 ≤ w6.heap.size := Nat.le_trans (show B + 1 ≤ wr.drew.heap.size by show B + 1 ≤ wr.heap.size; omega) hb2.size
          obtain ⟨v', w7, hrun, ho6, hgr⟩ := appendB (m := c) (c := c2) 22 ho2 (rowAt_len HXR.out hi5).symm (by omega) (row8_has hh2) (fun h => by cases h) z6
          have hm6 : w7.heap[B]? = some (.cells #[.int .i64 ln, .int .i64 c, .slice av (k * c) capv] 24 (0, 0)) := own_other ho2 hgr hm2 (by decide)
          have hS6 : Below B wr w7 := below_own hS2 (own_mono (B := B + 1) ho2 (by omega)) hgr (by omega)
          obtain ⟨a6, cap6, rfl, h7, h8, h9⟩ := ownB_slice ho6
          have HRun : Hid _ := hrun
          have HO6 : Hid _ := ho6
          have HM6 : Hid _ := hm6
          have HM2 : Hid _ := hm2
          have HS6 : Hid _ := hS6
          clear h7 h8 h9 hrun ho6 hm6 hS6 hgr hm2 ho2 hh2 hg2 hb2 z6
          go_wp2_with fail
          refine hK.out _ _ ?_ (fun hHeld => ?_)
          · exact hS2
          clear hK K
          try simp only [Act.put, List.setIfInBounds_toArray, List.set_cons_zero, List.set_cons_succ]
          refine wpAnyH_ready (rs := [5]) (by kernel_rfl) (by simp) ?_
          refine AllReadyH.cons (o := { dst := some 198, op := Op.call { callee := Callee.builtin Builtin.append, args := #[Operand.tmp 194, Operand.tmp 197], argTypes := #[22, 22] }, type := 22, pos := "law.go:106", after := #[{ on := 1, ground := Ground.data }, { on := 4, ground := Ground.data }, { on := 4, ground := Ground.chain }], guard := none }) rfl (fun K hK => ?_) AllReadyH.nil
          refine wanted_append_run rfl _ _ 22 rfl _ _ _ _ rfl rfl HRun.out ?_
          refine hK.out _ _ ?_ (fun hHeld => ?_)
          · exact HS6.out
          clear hK K
          try simp only [Act.put, List.setIfInBounds_toArray, List.set_cons_zero, List.set_cons_succ]
          refine wpAnyH_take (i := 6) (oi := { dst := some 199, op := Op.fieldAddr 24 (Operand.tmp 15) 2, type := 0, pos := "law.go:106", after := #[{ on := 0, ground := Ground.phase }, { on := 1, ground := Ground.phase }, { on := 2, ground := Ground.phase }, { on := 3, ground := Ground.phase }, { on := 4, ground := Ground.phase }, { on := 5, ground := Ground.phase }], guard := none }) (v := ?_) rfl (by kernel_rfl) (by kernel_rfl) (by kernel_rfl) (fun _ _ _ h => h) (Or.inl ⟨by rfl, ?_⟩) hHeld ?_
          rotate_left
          · intro u hSw
            go_simp
            try with_reducible rfl
          try simp only [Act.put, List.setIfInBounds_toArray, List.set_cons_zero, List.set_cons_succ]
          have d1 := cellAt HM6.out 2 _ rfl
          have d2 : w7.frozen? ⟨B, 2, none⟩ = false := frozen_of_row _ _ _ _ _ HM6.out
          refine wpAnyH_ready (rs := [7]) (by kernel_rfl) (by simp) ?_
          refine AllReadyH.cons (o := { dst := none, op := Op.store 22 (Operand.tmp 199) (Operand.tmp 198), type := 0, pos := "law.go:106", after := #[{ on := 6, ground := Ground.data }, { on := 5, ground := Ground.data }, { on := 5, ground := Ground.chain }, { on := 0, ground := Ground.phase }, { on := 1, ground := Ground.phase }, { on := 2, ground := Ground.phase }, { on := 3, ground := Ground.phase }, { on := 4, ground := Ground.phase }, { on := 5, ground := Ground.phase }], guard := none }) rfl (fun K hK => ?_) AllReadyH.nil
          go_simp
          refine hK.out _ _ ?_ (fun hHeld => ?_)
          · exact HS6.out.setCell (by simp) _
          clear hK K
          try simp only [Act.put, List.setIfInBounds_toArray, List.set_cons_zero, List.set_cons_succ]
          refine wpAnyH_done (by kernel_rfl) ?_ _
          refine NoPanic.normal ?_
          have HTk : Hid ((takeM c xs (ns.take k)).flatten ++ rowAt c xs i5 = (takeM c xs (ns.take (k + 1))).flatten) := by
            show _ = _
            have hg := HGet.out
            rw [List.getElem?_eq_getElem hkn] at hg
            rw [List.take_succ_eq_append_getElem hkn, Option.some.inj hg]
            simp [takeM]
          have HAL : Hid (∀ n ∈ ns.take (k + 1), 0 ≤ n ∧ n < r) := by
            intro n hn
            have hg := HGet.out
            rw [List.getElem?_eq_getElem hkn] at hg
            rw [List.take_succ_eq_append_getElem hkn, Option.some.inj hg, List.mem_append, List.mem_singleton] at hn
            rcases hn with hn | rfl
            · exact HALL.out n hn
            · omega
          clear d1 d2
          go_wp2
          refine ⟨⟨k + 1, .slice a6 (k * c + c) cap6, by omega, by go_num, HBW.out.trans (HS6.out.setCell (by simp) _), ?_, ?_, HAL.out⟩, by simp [intOf]; omega⟩
          · rw [heap_setCell_same _ _ _ _ _ _ HM6.out]; rfl
          · rw [← HTk.out, Nat.succ_mul]
            refine ⟨HO6.out.1, HO6.out.2.imp id fun ⟨g, cap, cur, h1, h2, h3, h4⟩ => ⟨g, cap, cur, h1, h2, ?_, h4⟩⟩
            rw [heap_setCell_other _ _ _ _ (by show g ≠ B; omega)]; exact h3
        · go_simp
          refine Calls.mono (rrow_F r c i5 l cap a xs _ hr hc hi5 HL.out HXR.out hcap (row8_below HX.out HB0.out.drew) HNA.out) ?_
          rintro e w6 ⟨g2, c2, rfl, hg2, hh2, hb2⟩
          have ho2 := own_below (World.ownsRow.drew HOWN.out) hb2
          have hm2 : w6.heap[B]? = some (.cells #[.int .i64 ln, .int .i64 c, .slice av (k * c) capv] 24 (0, 0)) := heap_later (w := wr.drew) HM5.out hb2
          have hS2 : Below B wr w6 := Below.trans hSd (hb2.mono (by show B ≤ wr.heap.size; omega))
          have z6 : B + 1 ≤ w6.heap.size := Nat.le_trans (show B + 1 ≤ wr.drew.heap.size by show B + 1 ≤ wr.heap.size; omega) hb2.size
          obtain ⟨v', w7, hrun, ho6, hgr⟩ := appendB (m := c) (c := c2) 22 ho2 (rowAt_len HXR.out hi5).symm (by omega) (row8_has hh2) (fun h => by cases h) z6
          have hm6 : w7.heap[B]? = some (.cells #[.int .i64 ln, .int .i64 c, .slice av (k * c) capv] 24 (0, 0)) := own_other ho2 hgr hm2 (by decide)
          have hS6 : Below B wr w7 := below_own hS2 (own_mono (B := B + 1) ho2 (by omega)) hgr (by omega)
          obtain ⟨a6, cap6, rfl, h7, h8, h9⟩ := ownB_slice ho6
          have HRun : Hid _ := hrun
          have HO6 : Hid _ := ho6
          have HM6 : Hid _ := hm6
          have HM2 : Hid _ := hm2
          have HS6 : Hid _ := hS6
          clear h7 h8 h9 hrun ho6 hm6 hS6 hgr hm2 ho2 hh2 hg2 hb2 z6
          go_wp2_with fail
          refine hK.out _ _ ?_ (fun hHeld => ?_)
          · exact hS2
          clear hK K
          try simp only [Act.put, List.setIfInBounds_toArray, List.set_cons_zero, List.set_cons_succ]
          refine wpAnyH_ready (rs := [1]) (by kernel_rfl) (by simp) ?_
          refine AllReadyH.cons (o := { dst := some 194, op := Op.load 22 (Operand.tmp 193), type := 22, pos := "law.go:106", after := #[{ on := 0, ground := Ground.data }], guard := none }) rfl (fun K hK => ?_) AllReadyH.nil
          have c1 := cellAt HM2.out 2 _ rfl
          go_simp
          refine hK.out _ _ ?_ (fun hHeld => ?_)
          · exact hS2
          clear hK K c1
          try simp only [Act.put, List.setIfInBounds_toArray, List.set_cons_zero, List.set_cons_succ]
          refine wpAnyH_ready (rs := [5]) (by kernel_rfl) (by simp) ?_
          refine AllReadyH.cons (o := { dst := some 198, op := Op.call { callee := Callee.builtin Builtin.append, args := #[Operand.tmp 194, Operand.tmp 197], argTypes := #[22, 22] }, type := 22, pos := "law.go:106", after := #[{ on := 1, ground := Ground.data }, { on := 4, ground := Ground.data }, { on := 4, ground := Ground.chain }], guard := none }) rfl (fun K hK => ?_) AllReadyH.nil
          refine wanted_append_run rfl _ _ 22 rfl _ _ _ _ rfl rfl HRun.out ?_
          refine hK.out _ _ ?_ (fun hHeld => ?_)
          · exact HS6.out
          clear hK K
          try simp only [Act.put, List.setIfInBounds_toArray, List.set_cons_zero, List.set_cons_succ]
          refine wpAnyH_take (i := 6) (oi := { dst := some 199, op := Op.fieldAddr 24 (Operand.tmp 15) 2, type := 0, pos := "law.go:106", after := #[{ on := 0, ground := Ground.phase }, { on := 1, ground := Ground.phase }, { on := 2, ground := Ground.phase }, { on := 3, ground := Ground.phase }, { on := 4, ground := Ground.phase }, { on := 5, ground := Ground.phase }], guard := none }) (v := ?_) rfl (by kernel_rfl) (by kernel_rfl) (by kernel_rfl) (fun _ _ _ h => h) (Or.inl ⟨by rfl, ?_⟩) hHeld ?_
          rotate_left
          · intro u hSw
            go_simp
            try with_reducible rfl
          try simp only [Act.put, List.setIfInBounds_toArray, List.set_cons_zero, List.set_cons_succ]
          have d1 := cellAt HM6.out 2 _ rfl
          have d2 : w7.frozen? ⟨B, 2, none⟩ = false := frozen_of_row _ _ _ _ _ HM6.out
          refine wpAnyH_ready (rs := [7]) (by kernel_rfl) (by simp) ?_
          refine AllReadyH.cons (o := { dst := none, op := Op.store 22 (Operand.tmp 199) (Operand.tmp 198), type := 0, pos := "law.go:106", after := #[{ on := 6, ground := Ground.data }, { on := 5, ground := Ground.data }, { on := 5, ground := Ground.chain }, { on := 0, ground := Ground.phase }, { on := 1, ground := Ground.phase }, { on := 2, ground := Ground.phase }, { on := 3, ground := Ground.phase }, { on := 4, ground := Ground.phase }, { on := 5, ground := Ground.phase }], guard := none }) rfl (fun K hK => ?_) AllReadyH.nil
          go_simp
          refine hK.out _ _ ?_ (fun hHeld => ?_)
          · exact HS6.out.setCell (by simp) _
          clear hK K
          try simp only [Act.put, List.setIfInBounds_toArray, List.set_cons_zero, List.set_cons_succ]
          refine wpAnyH_done (by kernel_rfl) ?_ _
          refine NoPanic.normal ?_
          have HTk : Hid ((takeM c xs (ns.take k)).flatten ++ rowAt c xs i5 = (takeM c xs (ns.take (k + 1))).flatten) := by
            show _ = _
            have hg := HGet.out
            rw [List.getElem?_eq_getElem hkn] at hg
            rw [List.take_succ_eq_append_getElem hkn, Option.some.inj hg]
            simp [takeM]
          have HAL : Hid (∀ n ∈ ns.take (k + 1), 0 ≤ n ∧ n < r) := by
            intro n hn
            have hg := HGet.out
            rw [List.getElem?_eq_getElem hkn] at hg
            rw [List.take_succ_eq_append_getElem hkn, Option.some.inj hg, List.mem_append, List.mem_singleton] at hn
            rcases hn with hn | rfl
            · exact HALL.out n hn
            · omega
          clear d1 d2
          go_wp2
          refine ⟨⟨k + 1, .slice a6 (k * c + c) cap6, by omega, by go_num, HBW.out.trans (HS6.out.setCell (by simp) _), ?_, ?_, HAL.out⟩, by simp [intOf]; omega⟩
          · rw [heap_setCell_same _ _ _ _ _ _ HM6.out]; rfl
          · rw [← HTk.out, Nat.succ_mul]
            refine ⟨HO6.out.1, HO6.out.2.imp id fun ⟨g, cap, cur, h1, h2, h3, h4⟩ => ⟨g, cap, cur, h1, h2, ?_, h4⟩⟩
            rw [heap_setCell_other _ _ _ _ (by show g ≠ B; omega)]; exact h3
      · have ht := (hbw.block _ zT).trans (holds_at HA.out 1 rfl)
        have qt0 := cellAt ht 0 _ rfl
        have qt1 := cellAt ht 1 _ rfl
        have qt2 := cellAt ht 2 _ rfl
        clear hown hm5 hbw hall hrv hnv hnn hM ht
        by_cases hneg : x < 0
        · go_wp2_with fail
          refine Calls.mono (as_number _ 0 0 none 0 0 _ es s1 (errsAt_below HES.out HB0.out) HE1.out rfl) ?_
          rintro e wZ ⟨rfl, hb⟩
          have hW := HB0.out.trans (hb.mono HB0.out.size)
          go_wp2
          go_ret
          exact ⟨rfl, hW⟩
        · have d5 : decide (x < 0) = false := by rw [decide_eq_false_iff_not]; exact hneg
          have hge : (r : Int) ≤ x := by omega
          go_wp2_with fail
          refine Calls.mono (as_number _ 0 0 none 0 0 _ es s1 (errsAt_below HES.out HB0.out) HE1.out rfl) ?_
          rintro e wZ ⟨rfl, hb⟩
          have hW := HB0.out.trans (hb.mono HB0.out.size)
          go_wp2
          go_ret
          exact ⟨rfl, hW⟩
    · obtain rfl : k = ln := by omega
      have hd : ns.take k = ns := List.take_of_length_le (by rw [HVL.out]; exact Nat.le_refl _)
      rw [hd] at hall
      exact absurd hall HB.out
set_option maxRecDepth 100000 in
set_option maxHeartbeats 8000000 in
theorem places_3B (r c : Nat) (l cap ln cn : Nat) (i j : Nat) (a an : Option Addr) (xs : List F) (ns : List Int) (w : World) (hr : r ≤ 64) (hc : c ≤ 64) (hl : l = r * c) (hi : i < r) (hj : j < c) (hL : ln ≤ 64) (hB : ¬ ∀ n ∈ ns, 0 ≤ n ∧ n < r) (hx : l = xs.length) (hcap : l ≤ cap) (hm : cap ≤ 140737488351232) (hX : Row8 w a xs) (hna : a = none → cap = 0)
    (hv : ln = ns.length) (hcv : ln ≤ cn) (hmv : cn ≤ 17592186043904) (hV : RowI w an ns) (hnb : an = none → cn = 0) (es : List Addr) (hes : ErrsAt w gsNum es) (s0 s1 : Addr) (he0 : es[1]? = some s0) (he1 : es[11]? = some s1)
    (hs : w.cell? ⟨0, 0, none⟩ = some (errAt s0)) (hs1 : w.cell? ⟨1, 0, none⟩ = some (errAt s1)) :
    Calls Tryd.prog 4 #[.agg #[.int .i64 r, .int .i64 c, .slice a l cap], .slice an ln cn, .agg #[.int .i64 (i : Int), .int .i64 (j : Int)]] w fun e w' => e = .returned (.bool true) ∧ Below w.heap.size w w' := by
  have HXL : Hid _ := hx
  have HVL : Hid _ := hv
  have HX : Hid (Row8 w a xs) := hX
  have HV : Hid (RowI w an ns) := hV
  have HNA : Hid _ := hna
  have HNB : Hid _ := hnb
  have HS : Hid _ := hs
  have HS1 : Hid _ := hs1
  have HES : Hid (ErrsAt w gsNum es) := hes
  have HE0 : Hid (es[1]? = some s0) := he0
  have HE1 : Hid (es[11]? = some s1) := he1
  have HL : Hid _ := hl
  have HXR : Hid (xs.length = r * c) := by show _ = _; rw [← hx]; exact hl
  clear hl
  have HB : Hid _ := hB
  clear hB
  clear hx hX hna hv hV hnb hs hs1 hes he0 he1
  go_enter Tryd.func4, Tryd.ntmps4
  go_wp2_with fail
  refine Calls.mono (alive_ok _) ?_
  rintro e w1 ⟨rfl, hb1⟩
  have hA := holds_later (holds_new (holds_new (holds_nil w) #[.int .i64 r, .int .i64 c, .slice a l cap] 24) #[.int .i64 (i : Int), .int .i64 (j : Int)] 26) hb1
  rw [World.size_alloc] at hA
  have HW : Hid (Below w.heap.size w w1) := (((Below.refl w.heap.size w).alloc (Nat.le_refl _) _).alloc (by simp) _).trans (hb1.mono (by simp; omega))
  have HA : Hid _ := hA
  clear hb1 hA
  have qM0 := cellAt (holds_at HA.out 1 rfl) 0 _ rfl
  have qM1 := cellAt (holds_at HA.out 1 rfl) 1 _ rfl
  have qM2 := cellAt (holds_at HA.out 1 rfl) 2 _ rfl
  go_wp2_with fail
  refine Calls.mono (in_F r c l cap a xs _ HXL.out (by omega) (row8_below HX.out HW.out) HNA.out) ?_
  rintro e w2 ⟨gx, rfl, hgx, hh, hb⟩
  have hA := holds_later HA.out hb
  have hW := HW.out.trans (hb.mono HW.out.size)
  clear qM0 qM1 qM2
  have hA := holds_cons hA hh
  have HGX : Hid (w.heap.size ≤ gx) := Nat.le_trans HW.out.size hgx
  clear hgx
  clear HA HW hb hh
  have HA : Hid _ := hA
  have HW : Hid (Below w.heap.size w w2) := hW
  clear hA hW
  have qN0 := cellAt (holds_at HA.out 1 rfl) 0 _ rfl
  have qN1 := cellAt (holds_at HA.out 1 rfl) 1 _ rfl
  have qzN := ltHeap (holds_at HA.out 1 rfl)
  go_wp2_with fail
  have hA := holds_new HA.out #[.int .i64 r, .int .i64 c, .slice (some ⟨gx, 0, none⟩) l (l + 6)] 24
  have hW := HW.out.alloc HW.out.size (.cells #[.int .i64 r, .int .i64 c, .slice (some ⟨gx, 0, none⟩) l (l + 6)] 24)
  clear qN0 qN1 qzN
  clear HA HW
  have HA : Hid _ := hA
  have HW : Hid (Below w.heap.size w _) := hW
  clear hA hW
  refine Calls.mono (at_F r c l (l + 6) i j _ xs _ hr hc HL.out HXR.out (by omega) (row8_front (holds_at HA.out 1 rfl)) hi hj) ?_
  rintro e w3 ⟨rfl, hb⟩
  have hA := holds_later HA.out hb
  have hW := HW.out.trans (hb.mono HW.out.size)
  clear HA HW hb
  have HA : Hid _ := hA
  have HW : Hid (Below w.heap.size w w3) := hW
  clear hA hW
  have qx0 := cellAt (holds_at HA.out 0 rfl) 0 _ rfl
  have qx1 := cellAt (holds_at HA.out 0 rfl) 1 _ rfl
  have qx2 := cellAt (holds_at HA.out 0 rfl) 2 _ rfl
  have qN0 := cellAt (holds_at HA.out 2 rfl) 0 _ rfl
  have qN1 := cellAt (holds_at HA.out 2 rfl) 1 _ rfl
  go_wp2_with fail
  refine Calls.mono (row_F r c l (l + 6) i _ xs _ hr hc HL.out HXR.out (by omega) (row8_front (holds_at HA.out 1 rfl)) (fun h => by cases h) hi) ?_
  rintro e w4 ⟨a2, cl, rfl, _, _, hrow, hb⟩
  have hA := holds_later HA.out hb
  have hW := HW.out.trans (hb.mono HW.out.size)
  clear qx0 qx1 qx2 qN0 qN1
  obtain ⟨gl, rfl, hgl, cur, hcur, hcu⟩ := hrow (fun h => by cases h)
  have HGL : Hid (w.heap.size ≤ gl) := Nat.le_trans HW.out.size hgl
  have HXLN : Hid (gx ≠ gl) := by have := ltHeap (holds_at HA.out 1 rfl); show _ ≠ _; omega
  have HCU : Hid _ := hcu
  have hA := holds_cons hA hcur
  clear HA HW hb hrow hgl hcu hcur
  have HA : Hid _ := hA
  have HW : Hid (Below w.heap.size w w4) := hW
  clear hA hW
  go_wp2_with fail
  refine Calls.mono (ints_F an ln cn ns _ HVL.out (by omega) (rowI_below HV.out HW.out) HNB.out) ?_
  rintro e w5 ⟨gi, rfl, hgi, hb, hh⟩
  have hA := holds_later HA.out hb
  have hW := HW.out.trans (hb.mono HW.out.size)
  have hA := holds_cons hA hh
  clear HA HW hb hh hgi
  have HA : Hid _ := hA
  have HW : Hid (Below w.heap.size w w5) := hW
  clear hA hW
  have qx0 := cellAt (holds_at HA.out 2 rfl) 0 _ rfl
  have qx1 := cellAt (holds_at HA.out 2 rfl) 1 _ rfl
  have qx2 := cellAt (holds_at HA.out 2 rfl) 2 _ rfl
  go_wp2_with fail
  refine Calls.mono ((take_F r c l (l + 6) ln (ln + 4) _ _ xs ns _ hr hc HL.out HXR.out (by omega) (row8_front (holds_at HA.out 3 rfl)) (fun h => by cases h) HVL.out hL (rowI_front (holds_at HA.out 0 rfl)) s1 (cell_later HW.out HS1.out)).mono (fun e w' h => h.resolve_left (fun q => HB.out q.1))) ?_
  rintro e w6 ⟨_, rfl, hb⟩
  have hA := holds_later HA.out hb
  have hW := HW.out.trans (hb.mono HW.out.size)
  clear qx0 qx1 qx2
  clear HA HW hb
  have HA : Hid _ := hA
  have HW : Hid (Below w.heap.size w w6) := hW
  clear hA hW
  have qx0 := cellAt (holds_at HA.out 2 rfl) 0 _ rfl
  have qx1 := cellAt (holds_at HA.out 2 rfl) 1 _ rfl
  have qx2 := cellAt (holds_at HA.out 2 rfl) 2 _ rfl
  have qzx := ltHeap (holds_at HA.out 2 rfl)
  have qM0 := cellAt (holds_at HA.out 5 rfl) 0 _ rfl
  have qM1 := cellAt (holds_at HA.out 5 rfl) 1 _ rfl
  have qM2 := cellAt (holds_at HA.out 5 rfl) 2 _ rfl
  have qzM := ltHeap (holds_at HA.out 5 rfl)
  go_wp2_with fail
  have hA := holds_new HA.out #[.int .i64 0, .int .i64 0, .slice none 0 0] 24
  have hW := HW.out.alloc HW.out.size (.cells #[.int .i64 0, .int .i64 0, .slice none 0 0] 24)
  clear qx0 qx1 qx2 qzx qM0 qM1 qM2 qzM
  clear HA HW
  have HA : Hid _ := hA
  have HW : Hid (Below w.heap.size w _) := hW
  clear hA hW
  refine Calls.mono (kept_F gx l cap a xs _ HXL.out (by omega) hcap (holds_at HA.out 4 rfl) (row8_below HX.out HW.out)) ?_
  rintro e w7 ⟨rfl, hb⟩
  have hA := holds_later HA.out hb
  have hW := HW.out.trans (hb.mono HW.out.size)
  clear HA HW hb
  have HA : Hid _ := hA
  have HW : Hid (Below w.heap.size w w7) := hW
  clear hA hW
  go_wp2_with fail
  refine Calls.mono (keptInts_F gi ln cn an ns _ HVL.out (by omega) hcv (holds_at HA.out 1 rfl) (rowI_below HV.out HW.out)) ?_
  rintro e w8 ⟨rfl, hb⟩
  have hA := holds_later HA.out hb
  have hW := HW.out.trans (hb.mono HW.out.size)
  clear HA HW hb
  have HA : Hid _ := hA
  have HW : Hid (Below w.heap.size w w8) := hW
  clear hA hW
  have qM0 := cellAt (holds_at HA.out 6 rfl) 0 _ rfl
  have qM1 := cellAt (holds_at HA.out 6 rfl) 1 _ rfl
  have qM2 := cellAt (holds_at HA.out 6 rfl) 2 _ rfl
  go_wp2_with fail
  refine Calls.mono (inForm_yes r c a l cap _ hr hc HL.out) ?_
  rintro e w9 ⟨rfl, hb⟩
  have hA := holds_later HA.out hb
  have hW := HW.out.trans (hb.mono HW.out.size)
  clear qM0 qM1 qM2
  clear HA HW hb
  have HA : Hid _ := hA
  have HW : Hid (Below w.heap.size w w9) := hW
  clear hA hW
  have qN0 := cellAt (holds_at HA.out 5 rfl) 0 _ rfl
  have qN1 := cellAt (holds_at HA.out 5 rfl) 1 _ rfl
  have qM0 := cellAt (holds_at HA.out 6 rfl) 0 _ rfl
  have qM1 := cellAt (holds_at HA.out 6 rfl) 1 _ rfl
  have qM2 := cellAt (holds_at HA.out 6 rfl) 2 _ rfl
  have pM0 := boxB (holds_at HA.out 6 rfl) (ltHeap (holds_at HA.out 6 rfl)) 0 _ rfl
  have pM1 := boxB (holds_at HA.out 6 rfl) (ltHeap (holds_at HA.out 6 rfl)) 1 _ rfl
  have pM2 := boxB (holds_at HA.out 6 rfl) (ltHeap (holds_at HA.out 6 rfl)) 2 _ rfl
  have pN0 := boxB (holds_at HA.out 5 rfl) (ltHeap (holds_at HA.out 5 rfl)) 0 _ rfl
  have pN1 := boxB (holds_at HA.out 5 rfl) (ltHeap (holds_at HA.out 5 rfl)) 1 _ rfl
  have hl8 : Has8 w9 gl (rowAt c xs i) cl := ⟨cur, holds_at HA.out 2 rfl, HCU.out⟩
  have kl := conv_keep8 (la := c) (ca := cl) (by rw [rowAt_len HXR.out hi]) (row_keep (row8_has hl8))
  have hS : Below w9.heap.size w9 w9 := Below.refl _ _
  have hSd : Below w9.heap.size w9 w9.drew := (Below.refl _ _).drew
  clear hl8
  go_wp2
  refine wp_region_noPanic ?_
  refine wp_region_held_drew (S := fun u => Below w9.heap.size w9 u) (by kernel_rfl) ?_ (fun hHeld => ?_)
  · exact hSd
  refine wpAnyH_take (i := 0) (oi := { dst := some 116, op := Op.move (Operand.tmp 11), type := 30, pos := "law.go:89", after := #[], guard := none }) (v := ?_) rfl (by kernel_rfl) (by kernel_rfl) (by kernel_rfl) (fun _ _ _ h => h) (Or.inl ⟨by rfl, ?_⟩) hHeld ?_
  rotate_left
  · intro u hSw
    go_simp
    try with_reducible rfl
  try simp only [Act.put, List.setIfInBounds_toArray, List.set_cons_zero, List.set_cons_succ]
  refine wpAnyH_take (i := 1) (oi := { dst := some 117, op := Op.binOp BinOp.neq 30 (Operand.tmp 116) (Operand.const Value.nilIface) 30, type := 4, pos := "law.go:89", after := #[{ on := 0, ground := Ground.data }], guard := none }) (v := ?_) rfl (by kernel_rfl) (by kernel_rfl) (by kernel_rfl) (fun _ _ _ h => h) (Or.inl ⟨by rfl, ?_⟩) hHeld ?_
  rotate_left
  · intro u hSw
    go_simp
    try with_reducible rfl
  try simp only [Act.put, List.setIfInBounds_toArray, List.set_cons_zero, List.set_cons_succ]
  refine wpAnyH_take (i := 2) (oi := { dst := some 118, op := Op.move (Operand.tmp 117), type := 4, pos := "law.go:89", after := #[{ on := 1, ground := Ground.data }], guard := none }) (v := ?_) rfl (by kernel_rfl) (by kernel_rfl) (by kernel_rfl) (fun _ _ _ h => h) (Or.inl ⟨by rfl, ?_⟩) hHeld ?_
  rotate_left
  · intro u hSw
    go_simp
    try with_reducible rfl
  try simp only [Act.put, List.setIfInBounds_toArray, List.set_cons_zero, List.set_cons_succ]
  refine wpAnyH_take (i := 3) (oi := { dst := some 119, op := Op.move (Operand.tmp 10), type := 22, pos := "law.go:89", after := #[{ on := 2, ground := Ground.guard }], guard := some (2, false) }) (v := ?_) rfl (by kernel_rfl) (by kernel_rfl) (by kernel_rfl) (fun _ _ _ h => h) (Or.inl ⟨by rfl, ?_⟩) hHeld ?_
  rotate_left
  · intro u hSw
    go_simp
    try with_reducible rfl
  try simp only [Act.put, List.setIfInBounds_toArray, List.set_cons_zero, List.set_cons_succ]
  refine wpAnyH_take (i := 4) (oi := { dst := some 120, op := Op.convert 22 9 (Operand.tmp 119), type := 9, pos := "law.go:89", after := #[{ on := 3, ground := Ground.data }, { on := 2, ground := Ground.guard }], guard := some (2, false) }) (v := ?_) rfl (by kernel_rfl) (by kernel_rfl) (by kernel_rfl) (fun _ _ _ h => h) (Or.inl ⟨by rfl, ?_⟩) hHeld ?_
  rotate_left
  · intro u hSw
    go_simp
    try with_reducible rfl
  try simp only [Act.put, List.setIfInBounds_toArray, List.set_cons_zero, List.set_cons_succ]
  refine wpAnyH_take (i := 5) (oi := { dst := some 121, op := Op.load 24 (Operand.tmp 3), type := 24, pos := "law.go:89", after := #[{ on := 2, ground := Ground.guard }], guard := some (2, false) }) (v := ?_) rfl (by kernel_rfl) (by kernel_rfl) (by kernel_rfl) (fun _ _ _ h => h) (Or.inl ⟨by rfl, ?_⟩) hHeld ?_
  rotate_left
  · intro u hSw
    go_simp
    try with_reducible rfl
  try simp only [Act.put, List.setIfInBounds_toArray, List.set_cons_zero, List.set_cons_succ]
  refine wpAnyH_take (i := 6) (oi := { dst := some 122, op := Op.indexAddr 26 (Operand.tmp 5) (Operand.const (Value.int IntKind.i64 0)), type := 0, pos := "law.go:89", after := #[{ on := 2, ground := Ground.guard }], guard := some (2, false) }) (v := ?_) rfl (by kernel_rfl) (by kernel_rfl) (by kernel_rfl) (fun _ _ _ h => h) (Or.inl ⟨by rfl, ?_⟩) hHeld ?_
  rotate_left
  · intro u hSw
    go_simp
    try with_reducible rfl
  try simp only [Act.put, List.setIfInBounds_toArray, List.set_cons_zero, List.set_cons_succ]
  refine wpAnyH_take (i := 7) (oi := { dst := some 123, op := Op.load 3 (Operand.tmp 122), type := 3, pos := "law.go:89", after := #[{ on := 6, ground := Ground.data }, { on := 2, ground := Ground.guard }], guard := some (2, false) }) (v := ?_) rfl (by kernel_rfl) (by kernel_rfl) (by kernel_rfl) (fun _ _ _ h => h) (Or.inl ⟨by rfl, ?_⟩) hHeld ?_
  rotate_left
  · intro u hSw
    go_simp
    try with_reducible rfl
  try simp only [Act.put, List.setIfInBounds_toArray, List.set_cons_zero, List.set_cons_succ]
  refine wpAnyH_ready (rs := [8]) (by kernel_rfl) (by simp) ?_
  refine AllReadyH.cons (o := { dst := some 124, op := Op.call { callee := Callee.value (Operand.func 28), args := #[Operand.tmp 121, Operand.tmp 123], argTypes := #[24, 3] }, type := 22, pos := "law.go:89", after := #[{ on := 5, ground := Ground.data }, { on := 7, ground := Ground.data }, { on := 2, ground := Ground.chain }, { on := 2, ground := Ground.guard }], guard := some (2, false) }) rfl (fun K hK => ?_) AllReadyH.nil
  go_simp
  refine Calls.mono (rrow_F r c i l cap a xs _ hr hc hi HL.out HXR.out hcap (row8_below HX.out (HW.out.trans (Below.mono hSd HW.out.size))) HNA.out) ?_
  rintro e wi ⟨g2, c2, rfl, hg2, hh2, hb2⟩
  have hTa : Below w9.heap.size w9 wi := Below.trans hSd (Below.mono hb2 (below_size hSd))
  have k2 := conv8 (ca := c2) (la := c) (by rw [rowAt_len HXR.out hi]) (row8_has hh2)
  clear hh2 hg2 hb2
  go_wp2_with fail
  refine hK.out _ _ ?_ (fun hHeld => ?_)
  · exact hTa
  clear hK K
  try simp only [Act.put, List.setIfInBounds_toArray, List.set_cons_zero, List.set_cons_succ]
  refine wpAnyH_ready (rs := [9]) (by kernel_rfl) (by simp) ?_
  refine AllReadyH.cons (o := { dst := some 125, op := Op.convert 22 9 (Operand.tmp 124), type := 9, pos := "law.go:89", after := #[{ on := 8, ground := Ground.data }, { on := 2, ground := Ground.guard }], guard := some (2, false) }) rfl (fun K hK => ?_) AllReadyH.nil
  go_simp
  refine hK.out _ _ ?_ (fun hHeld => ?_)
  · exact hTa
  clear hK K
  try simp only [Act.put, List.setIfInBounds_toArray, List.set_cons_zero, List.set_cons_succ]
  refine wpAnyH_take (i := 10) (oi := { dst := some 126, op := Op.binOp BinOp.neq 9 (Operand.tmp 120) (Operand.tmp 125) 9, type := 4, pos := "law.go:89", after := #[{ on := 4, ground := Ground.data }, { on := 9, ground := Ground.data }, { on := 2, ground := Ground.guard }], guard := some (2, false) }) (v := ?_) rfl (by kernel_rfl) (by kernel_rfl) (by kernel_rfl) (fun _ _ _ h => h) (Or.inl ⟨by rfl, ?_⟩) hHeld ?_
  rotate_left
  · intro u hSw
    go_simp
    try with_reducible rfl
  try simp only [Act.put, List.setIfInBounds_toArray, List.set_cons_zero, List.set_cons_succ]
  refine wpAnyH_take (i := 11) (oi := { dst := some 127, op := Op.pick (Operand.tmp 118) (Operand.const (Value.bool true)) (Operand.tmp 126), type := 4, pos := "law.go:89", after := #[{ on := 2, ground := Ground.data }, { on := 10, ground := Ground.data }], guard := none }) (v := ?_) rfl (by kernel_rfl) (by kernel_rfl) (by kernel_rfl) (fun _ _ _ h => h) (Or.inl ⟨by rfl, ?_⟩) hHeld ?_
  rotate_left
  · intro u hSw
    go_simp
    try with_reducible rfl
  try simp only [Act.put, List.setIfInBounds_toArray, List.set_cons_zero, List.set_cons_succ]
  refine wpAnyH_done (by kernel_rfl) ?_ _
  refine NoPanic.normal ?_
  clear k2
  have hB9 := hTa
  have hA := holds_later HA.out hB9
  have hW := HW.out.trans (hB9.mono HW.out.size)
  clear HA HW
  have HA : Hid _ := hA
  have HW : Hid (Below w.heap.size w _) := hW
  clear hA hW qN0 qN1 qM0 qM1 qM2 pM0 pM1 pM2 pN0 pN1 kl hS hSd
  have qN0 := cellAt (holds_at HA.out 5 rfl) 0 _ rfl
  have qN1 := cellAt (holds_at HA.out 5 rfl) 1 _ rfl
  have qM0 := cellAt (holds_at HA.out 6 rfl) 0 _ rfl
  have qM1 := cellAt (holds_at HA.out 6 rfl) 1 _ rfl
  have qM2 := cellAt (holds_at HA.out 6 rfl) 2 _ rfl
  obtain ⟨p, hp⟩ : ∃ p, p = i * c := ⟨_, rfl⟩
  have h1 := place_lt (c := c) hi hj
  have m1 : (i : Int) * (c : Int) = (p : Int) := by rw [hp]; simp
  have e1 : p + j < l := by rw [hp, HL.out]; exact h1
  have n1 : l ≤ 4096 := by have := mul_small hr hc; have := HL.out; have e : (r : Int) * (c : Int) = ((r * c : Nat) : Int) := by simp
                           omega
  have e2 : p + j < xs.length := by rw [HXR.out, hp]; exact h1
  obtain ⟨b1, o1, ha, hb1, f1⟩ := row8_get HX.out e2
  rw [ha] at qM2
  have c7 := cell_later HW.out (f1 (p + j) e2)
  have e3 : at8 xs (p + j) = at8 xs (i * c + j) := by rw [hp]
  rw [e3] at c7
  clear f1 hp h1 e3 ha
  have qt0 := cellAt (holds_at HA.out 0 rfl) 0 _ rfl
  have qt1 := cellAt (holds_at HA.out 0 rfl) 1 _ rfl
  have qt2 := cellAt (holds_at HA.out 0 rfl) 2 _ rfl
  have qzN := ltHeap (holds_at HA.out 5 rfl)
  have qzM := ltHeap (holds_at HA.out 6 rfl)
  have qzt := ltHeap (holds_at HA.out 0 rfl)
  have dL : decide ((64 : Int) < (ln : Int)) = false := by rw [decide_eq_false_iff_not]; omega
  go_wp2
  have zM : w.heap.size < wi.heap.size := qzM
  have zN : w.heap.size + 1 < wi.heap.size := qzN
  have zT := qzt
  have zgx := ltHeap (holds_at HA.out 4 rfl)
  have zx := ltHeap (holds_at HA.out 3 rfl)
  have zgl := ltHeap (holds_at HA.out 2 rfl)
  have z0 : wi.heap.size + 1 ≤ (wi.alloc (.cells #[.int .i64 ln, .int .i64 c, .slice none 0 0] 24)).heap.size := by simp
  have hA := holds_new HA.out #[.int .i64 ln, .int .i64 c, .slice none 0 0] 24
  have hW := HW.out.alloc HW.out.size (.cells #[.int .i64 ln, .int .i64 c, .slice none 0 0] 24)
  clear qN0 qN1 qM0 qM1 qM2 qt0 qt1 qt2 qzN qzM qzt
  clear HA HW
  have HA : Hid _ := hA
  have HW : Hid (Below w.heap.size w _) := hW
  clear hA hW
  clear c7 m1 e1 n1 e2 hb1
  generalize ((at8 xs (i * c + j)).toNat : Int) = yv
  try generalize (p : Int) + (j : Int) = q2
  try generalize o1 + (p + j) = q1
  try generalize ((p + j : Nat) : Int) = q3
  try generalize (p : Int) = q4
  try generalize (decide ((j : Int) < 0) || decide (c ≤ j)) = bb
  try generalize decide ((j : Int) < 0) = bj
  try generalize decide (c ≤ j) = bc
  clear dL
  generalize hN : wi.heap.size = B at *
  generalize (wi.alloc (.cells #[.int .i64 ln, .int .i64 c, .slice none 0 0] 24)) = W at *
  clear hN
  go_loopw [177] (fun i wr => ∃ k : Nat, ∃ v : Value, k ≤ ln ∧ i = .int .i64 k ∧ Below B W wr ∧ wr.heap[B]? = some (.cells #[.int .i64 ln, .int .i64 c, v] 24 (0, 0)) ∧ wr.ownsRow (B + 1) 5 1 v (k * c) ((takeM c xs (ns.take k)).flatten.map vf) ∧ ∀ n ∈ ns.take k, 0 ≤ n ∧ n < r) (fun i _ => ln - (intOf i).toNat)
  case atStart => exact ⟨0, .slice none 0 0, by omega, rfl, Below.refl _ _, holds_at HA.out 0 rfl, by simpa [takeM] using World.ownsRow_nil _ _ _ _, by simp⟩
  case round =>
    obtain ⟨k, v, hk, rfl, hbw, hm5, hown, hall⟩ := hrel
    have zr := hbw.size
    obtain ⟨av, capv, rfl, hrv, hnv, hnn⟩ := ownB_slice hown
    have HBW : Hid _ := hbw
    have HM5 : Hid _ := hm5
    have HALL : Hid _ := hall
    have HB0 : Hid (Below w.heap.size w wr) := HW.out.trans (hbw.mono (by omega))
    have hM := (hbw.block _ zM).trans (holds_at HA.out 7 rfl)
    have qM0 := cellAt hM 0 _ rfl
    have qM1 := cellAt hM 1 _ rfl
    have qM2 := cellAt hM 2 _ rfl
    by_cases hlt : k < ln
    · have hkn : k < ns.length := by rw [← HVL.out]; exact hlt
      obtain ⟨b3, o3, rfl, hb3, hcell⟩ := rowI_cell HV.out hkn
      have c0 := cell_later HB0.out (hcell k hkn)
      have hget : ns[k]? = some (ns.getD k 0) := by rw [List.getD_eq_getElem?_getD, List.getElem?_eq_getElem hkn]; rfl
      generalize ns.getD k 0 = x at c0 hget
      have HGet : Hid _ := hget
      clear hcell hget
      by_cases hin : 0 ≤ x ∧ x < r
      · obtain ⟨i5, rfl⟩ := Int.eq_ofNat_of_zero_le hin.1
        have hi5 : i5 < r := by omega
        have d5 : decide ((i5 : Int) < 0) = false := by rw [decide_eq_false_iff_not]; omega
        have hlk : k * c + c ≤ 4096 := by
          have h1 := Nat.mul_le_mul (show k + 1 ≤ 64 by omega) hc
          rw [Nat.succ_mul] at h1; omega
        have HOWN : Hid _ := hown
        have hSd : Below B wr wr.drew := (Below.refl _ _).drew
        have pM0 := boxB hM zM 0 _ rfl
        have pM1 := boxB hM zM 1 _ rfl
        have pM2 := boxB hM zM 2 _ rfl
        clear hown hm5 hbw hall hrv hnv hnn hin qM1 qM2 hM
        go_wp2
        refine wp_region_noPanic ?_
        refine wp_region_held_drew (S := fun u => Below B wr u) (by kernel_rfl) ?_ (fun hHeld => ?_)
        · exact hSd
        refine wpAnyH_take (i := 0) (oi := { dst := some 193, op := Op.fieldAddr 24 (Operand.tmp 15) 2, type := 0, pos := "law.go:106", after := #[], guard := none }) (v := ?_) rfl (by kernel_rfl) (by kernel_rfl) (by kernel_rfl) (fun _ _ _ h => h) (Or.inl ⟨by rfl, ?_⟩) hHeld ?_
        rotate_left
        · intro u hSw
          go_simp
          try with_reducible rfl
        try simp only [Act.put, List.setIfInBounds_toArray, List.set_cons_zero, List.set_cons_succ]
        refine wpAnyH_take (i := 2) (oi := { dst := some 195, op := Op.load 24 (Operand.tmp 3), type := 24, pos := "law.go:106", after := #[], guard := none }) (v := ?_) rfl (by kernel_rfl) (by kernel_rfl) (by kernel_rfl) (fun _ _ _ h => h) (Or.inl ⟨by rfl, ?_⟩) hHeld ?_
        rotate_left
        · intro u hSw
          go_simp
          try with_reducible rfl
        try simp only [Act.put, List.setIfInBounds_toArray, List.set_cons_zero, List.set_cons_succ]
        refine wpAnyH_take (i := 3) (oi := { dst := some 196, op := Op.move (Operand.tmp 17), type := 3, pos := "law.go:106", after := #[], guard := none }) (v := ?_) rfl (by kernel_rfl) (by kernel_rfl) (by kernel_rfl) (fun _ _ _ h => h) (Or.inl ⟨by rfl, ?_⟩) hHeld ?_
        rotate_left
        · intro u hSw
          go_simp
          try with_reducible rfl
        try simp only [Act.put, List.setIfInBounds_toArray, List.set_cons_zero, List.set_cons_succ]
        refine wpAnyH_ready (rs := [1, 4]) (by kernel_rfl) (by simp) ?_
        refine AllReadyH.cons (o := { dst := some 194, op := Op.load 22 (Operand.tmp 193), type := 22, pos := "law.go:106", after := #[{ on := 0, ground := Ground.data }], guard := none }) rfl (fun K hK => ?_) (AllReadyH.cons (o := { dst := some 197, op := Op.call { callee := Callee.value (Operand.func 28), args := #[Operand.tmp 195, Operand.tmp 196], argTypes := #[24, 3] }, type := 22, pos := "law.go:106", after := #[{ on := 2, ground := Ground.data }, { on := 3, ground := Ground.data }], guard := none }) rfl (fun K hK => ?_) AllReadyH.nil)
        · have c1 := cellAt HM5.out 2 _ rfl
          go_simp
          refine hK.out _ _ ?_ (fun hHeld => ?_)
          · exact hSd
          clear hK K
          try simp only [Act.put, List.setIfInBounds_toArray, List.set_cons_zero, List.set_cons_succ]
          refine wpAnyH_ready (rs := [4]) (by kernel_rfl) (by simp) ?_
          refine AllReadyH.cons (o := { dst := some 197, op := Op.call { callee := Callee.value (Operand.func 28), args := #[Operand.tmp 195, Operand.tmp 196], argTypes := #[24, 3] }, type := 22, pos := "law.go:106", after := #[{ on := 2, ground := Ground.data }, { on := 3, ground := Ground.data }], guard := none }) rfl (fun K hK => ?_) AllReadyH.nil
          go_simp
          refine Calls.mono (rrow_F r c i5 l cap a xs _ hr hc hi5 HL.out HXR.out hcap (row8_below HX.out HB0.out.drew) HNA.out) ?_
          rintro e w6 ⟨g2, c2, rfl, hg2, hh2, hb2⟩
          have ho2 := own_below (World.ownsRow.drew HOWN.out) hb2
          have hm2 : w6.heap[B]? = some (.cells #[.int .i64 ln, .int .i64 c, .slice av (k * c) capv] 24 (0, 0)) := heap_later (w := wr.drew) HM5.out hb2
          have hS2 : Below B wr w6 := Below.trans hSd (hb2.mono (by show B ≤ wr.heap.size; omega))
          have z6 : B + 1 ≤ w6.heap.size := Nat.le_trans (show B + 1 ≤ wr.drew.heap.size by show B + 1 ≤ wr.heap.size; omega) hb2.size
          obtain ⟨v', w7, hrun, ho6, hgr⟩ := appendB (m := c) (c := c2) 22 ho2 (rowAt_len HXR.out hi5).symm (by omega) (row8_has hh2) (fun h => by cases h) z6
          have hm6 : w7.heap[B]? = some (.cells #[.int .i64 ln, .int .i64 c, .slice av (k * c) capv] 24 (0, 0)) := own_other ho2 hgr hm2 (by decide)
          have hS6 : Below B wr w7 := below_own hS2 (own_mono (B := B + 1) ho2 (by omega)) hgr (by omega)
          obtain ⟨a6, cap6, rfl, h7, h8, h9⟩ := ownB_slice ho6
          have HRun : Hid _ := hrun
          have HO6 : Hid _ := ho6
          have HM6 : Hid _ := hm6
          have HM2 : Hid _ := hm2
          have HS6 : Hid _ := hS6
          clear h7 h8 h9 hrun ho6 hm6 hS6 hgr hm2 ho2 hh2 hg2 hb2 z6
          go_wp2_with fail
          refine hK.out _ _ ?_ (fun hHeld => ?_)
          · exact hS2
          clear hK K
          try simp only [Act.put, List.setIfInBounds_toArray, List.set_cons_zero, List.set_cons_succ]
          refine wpAnyH_ready (rs := [5]) (by kernel_rfl) (by simp) ?_
          refine AllReadyH.cons (o := { dst := some 198, op := Op.call { callee := Callee.builtin Builtin.append, args := #[Operand.tmp 194, Operand.tmp 197], argTypes := #[22, 22] }, type := 22, pos := "law.go:106", after := #[{ on := 1, ground := Ground.data }, { on := 4, ground := Ground.data }, { on := 4, ground := Ground.chain }], guard := none }) rfl (fun K hK => ?_) AllReadyH.nil
          refine wanted_append_run rfl _ _ 22 rfl _ _ _ _ rfl rfl HRun.out ?_
          refine hK.out _ _ ?_ (fun hHeld => ?_)
          · exact HS6.out
          clear hK K
          try simp only [Act.put, List.setIfInBounds_toArray, List.set_cons_zero, List.set_cons_succ]
          refine wpAnyH_take (i := 6) (oi := { dst := some 199, op := Op.fieldAddr 24 (Operand.tmp 15) 2, type := 0, pos := "law.go:106", after := #[{ on := 0, ground := Ground.phase }, { on := 1, ground := Ground.phase }, { on := 2, ground := Ground.phase }, { on := 3, ground := Ground.phase }, { on := 4, ground := Ground.phase }, { on := 5, ground := Ground.phase }], guard := none }) (v := ?_) rfl (by kernel_rfl) (by kernel_rfl) (by kernel_rfl) (fun _ _ _ h => h) (Or.inl ⟨by rfl, ?_⟩) hHeld ?_
          rotate_left
          · intro u hSw
            go_simp
            try with_reducible rfl
          try simp only [Act.put, List.setIfInBounds_toArray, List.set_cons_zero, List.set_cons_succ]
          have d1 := cellAt HM6.out 2 _ rfl
          have d2 : w7.frozen? ⟨B, 2, none⟩ = false := frozen_of_row _ _ _ _ _ HM6.out
          refine wpAnyH_ready (rs := [7]) (by kernel_rfl) (by simp) ?_
          refine AllReadyH.cons (o := { dst := none, op := Op.store 22 (Operand.tmp 199) (Operand.tmp 198), type := 0, pos := "law.go:106", after := #[{ on := 6, ground := Ground.data }, { on := 5, ground := Ground.data }, { on := 5, ground := Ground.chain }, { on := 0, ground := Ground.phase }, { on := 1, ground := Ground.phase }, { on := 2, ground := Ground.phase }, { on := 3, ground := Ground.phase }, { on := 4, ground := Ground.phase }, { on := 5, ground := Ground.phase }], guard := none }) rfl (fun K hK => ?_) AllReadyH.nil
          go_simp
          refine hK.out _ _ ?_ (fun hHeld => ?_)
          · exact HS6.out.setCell (by simp) _
          clear hK K
          try simp only [Act.put, List.setIfInBounds_toArray, List.set_cons_zero, List.set_cons_succ]
          refine wpAnyH_done (by kernel_rfl) ?_ _
          refine NoPanic.normal ?_
          have HTk : Hid ((takeM c xs (ns.take k)).flatten ++ rowAt c xs i5 = (takeM c xs (ns.take (k + 1))).flatten) := by
            show _ = _
            have hg := HGet.out
            rw [List.getElem?_eq_getElem hkn] at hg
            rw [List.take_succ_eq_append_getElem hkn, Option.some.inj hg]
            simp [takeM]
          have HAL : Hid (∀ n ∈ ns.take (k + 1), 0 ≤ n ∧ n < r) := by
            intro n hn
            have hg := HGet.out
            rw [List.getElem?_eq_getElem hkn] at hg
            rw [List.take_succ_eq_append_getElem hkn, Option.some.inj hg, List.mem_append, List.mem_singleton] at hn
            rcases hn with hn | rfl
            · exact HALL.out n hn
            · omega
          clear d1 d2
          go_wp2
          refine ⟨⟨k + 1, .slice a6 (k * c + c) cap6, by omega, by go_num, HBW.out.trans (HS6.out.setCell (by simp) _), ?_, ?_, HAL.out⟩, by simp [intOf]; omega⟩
          · rw [heap_setCell_same _ _ _ _ _ _ HM6.out]; rfl
          · rw [← HTk.out, Nat.succ_mul]
            refine ⟨HO6.out.1, HO6.out.2.imp id fun ⟨g, cap, cur, h1, h2, h3, h4⟩ => ⟨g, cap, cur, h1, h2, ?_, h4⟩⟩
            rw [heap_setCell_other _ _ _ _ (by show g ≠ B; omega)]; exact h3
        · go_simp
          refine Calls.mono (rrow_F r c i5 l cap a xs _ hr hc hi5 HL.out HXR.out hcap (row8_below HX.out HB0.out.drew) HNA.out) ?_
          rintro e w6 ⟨g2, c2, rfl, hg2, hh2, hb2⟩
          have ho2 := own_below (World.ownsRow.drew HOWN.out) hb2
          have hm2 : w6.heap[B]? = some (.cells #[.int .i64 ln, .int .i64 c, .slice av (k * c) capv] 24 (0, 0)) := heap_later (w := wr.drew) HM5.out hb2
          have hS2 : Below B wr w6 := Below.trans hSd (hb2.mono (by show B ≤ wr.heap.size; omega))
          have z6 : B + 1 ≤ w6.heap.size := Nat.le_trans (show B + 1 ≤ wr.drew.heap.size by show B + 1 ≤ wr.heap.size; omega) hb2.size
          obtain ⟨v', w7, hrun, ho6, hgr⟩ := appendB (m := c) (c := c2) 22 ho2 (rowAt_len HXR.out hi5).symm (by omega) (row8_has hh2) (fun h => by cases h) z6
          have hm6 : w7.heap[B]? = some (.cells #[.int .i64 ln, .int .i64 c, .slice av (k * c) capv] 24 (0, 0)) := own_other ho2 hgr hm2 (by decide)
          have hS6 : Below B wr w7 := below_own hS2 (own_mono (B := B + 1) ho2 (by omega)) hgr (by omega)
          obtain ⟨a6, cap6, rfl, h7, h8, h9⟩ := ownB_slice ho6
          have HRun : Hid _ := hrun
          have HO6 : Hid _ := ho6
          have HM6 : Hid _ := hm6
          have HM2 : Hid _ := hm2
          have HS6 : Hid _ := hS6
          clear h7 h8 h9 hrun ho6 hm6 hS6 hgr hm2 ho2 hh2 hg2 hb2 z6
          go_wp2_with fail
          refine hK.out _ _ ?_ (fun hHeld => ?_)
          · exact hS2
          clear hK K
          try simp only [Act.put, List.setIfInBounds_toArray, List.set_cons_zero, List.set_cons_succ]
          refine wpAnyH_ready (rs := [1]) (by kernel_rfl) (by simp) ?_
          refine AllReadyH.cons (o := { dst := some 194, op := Op.load 22 (Operand.tmp 193), type := 22, pos := "law.go:106", after := #[{ on := 0, ground := Ground.data }], guard := none }) rfl (fun K hK => ?_) AllReadyH.nil
          have c1 := cellAt HM2.out 2 _ rfl
          go_simp
          refine hK.out _ _ ?_ (fun hHeld => ?_)
          · exact hS2
          clear hK K c1
          try simp only [Act.put, List.setIfInBounds_toArray, List.set_cons_zero, List.set_cons_succ]
          refine wpAnyH_ready (rs := [5]) (by kernel_rfl) (by simp) ?_
          refine AllReadyH.cons (o := { dst := some 198, op := Op.call { callee := Callee.builtin Builtin.append, args := #[Operand.tmp 194, Operand.tmp 197], argTypes := #[22, 22] }, type := 22, pos := "law.go:106", after := #[{ on := 1, ground := Ground.data }, { on := 4, ground := Ground.data }, { on := 4, ground := Ground.chain }], guard := none }) rfl (fun K hK => ?_) AllReadyH.nil
          refine wanted_append_run rfl _ _ 22 rfl _ _ _ _ rfl rfl HRun.out ?_
          refine hK.out _ _ ?_ (fun hHeld => ?_)
          · exact HS6.out
          clear hK K
          try simp only [Act.put, List.setIfInBounds_toArray, List.set_cons_zero, List.set_cons_succ]
          refine wpAnyH_take (i := 6) (oi := { dst := some 199, op := Op.fieldAddr 24 (Operand.tmp 15) 2, type := 0, pos := "law.go:106", after := #[{ on := 0, ground := Ground.phase }, { on := 1, ground := Ground.phase }, { on := 2, ground := Ground.phase }, { on := 3, ground := Ground.phase }, { on := 4, ground := Ground.phase }, { on := 5, ground := Ground.phase }], guard := none }) (v := ?_) rfl (by kernel_rfl) (by kernel_rfl) (by kernel_rfl) (fun _ _ _ h => h) (Or.inl ⟨by rfl, ?_⟩) hHeld ?_
          rotate_left
          · intro u hSw
            go_simp
            try with_reducible rfl
          try simp only [Act.put, List.setIfInBounds_toArray, List.set_cons_zero, List.set_cons_succ]
          have d1 := cellAt HM6.out 2 _ rfl
          have d2 : w7.frozen? ⟨B, 2, none⟩ = false := frozen_of_row _ _ _ _ _ HM6.out
          refine wpAnyH_ready (rs := [7]) (by kernel_rfl) (by simp) ?_
          refine AllReadyH.cons (o := { dst := none, op := Op.store 22 (Operand.tmp 199) (Operand.tmp 198), type := 0, pos := "law.go:106", after := #[{ on := 6, ground := Ground.data }, { on := 5, ground := Ground.data }, { on := 5, ground := Ground.chain }, { on := 0, ground := Ground.phase }, { on := 1, ground := Ground.phase }, { on := 2, ground := Ground.phase }, { on := 3, ground := Ground.phase }, { on := 4, ground := Ground.phase }, { on := 5, ground := Ground.phase }], guard := none }) rfl (fun K hK => ?_) AllReadyH.nil
          go_simp
          refine hK.out _ _ ?_ (fun hHeld => ?_)
          · exact HS6.out.setCell (by simp) _
          clear hK K
          try simp only [Act.put, List.setIfInBounds_toArray, List.set_cons_zero, List.set_cons_succ]
          refine wpAnyH_done (by kernel_rfl) ?_ _
          refine NoPanic.normal ?_
          have HTk : Hid ((takeM c xs (ns.take k)).flatten ++ rowAt c xs i5 = (takeM c xs (ns.take (k + 1))).flatten) := by
            show _ = _
            have hg := HGet.out
            rw [List.getElem?_eq_getElem hkn] at hg
            rw [List.take_succ_eq_append_getElem hkn, Option.some.inj hg]
            simp [takeM]
          have HAL : Hid (∀ n ∈ ns.take (k + 1), 0 ≤ n ∧ n < r) := by
            intro n hn
            have hg := HGet.out
            rw [List.getElem?_eq_getElem hkn] at hg
            rw [List.take_succ_eq_append_getElem hkn, Option.some.inj hg, List.mem_append, List.mem_singleton] at hn
            rcases hn with hn | rfl
            · exact HALL.out n hn
            · omega
          clear d1 d2
          go_wp2
          refine ⟨⟨k + 1, .slice a6 (k * c + c) cap6, by omega, by go_num, HBW.out.trans (HS6.out.setCell (by simp) _), ?_, ?_, HAL.out⟩, by simp [intOf]; omega⟩
          · rw [heap_setCell_same _ _ _ _ _ _ HM6.out]; rfl
          · rw [← HTk.out, Nat.succ_mul]
            refine ⟨HO6.out.1, HO6.out.2.imp id fun ⟨g, cap, cur, h1, h2, h3, h4⟩ => ⟨g, cap, cur, h1, h2, ?_, h4⟩⟩
            rw [heap_setCell_other _ _ _ _ (by show g ≠ B; omega)]; exact h3
      · have ht := (hbw.block _ zT).trans (holds_at HA.out 1 rfl)
        have qt0 := cellAt ht 0 _ rfl
        have qt1 := cellAt ht 1 _ rfl
        have qt2 := cellAt ht 2 _ rfl
        clear hown hm5 hbw hall hrv hnv hnn hM ht
        by_cases hneg : x < 0
        · go_wp2_with fail
          refine Calls.mono (as_number _ 0 0 none 0 0 _ es s1 (errsAt_below HES.out HB0.out) HE1.out rfl) ?_
          rintro e wZ ⟨rfl, hb⟩
          have hW := HB0.out.trans (hb.mono HB0.out.size)
          go_wp2
          go_ret
          exact ⟨rfl, hW⟩
        · have d5 : decide (x < 0) = false := by rw [decide_eq_false_iff_not]; exact hneg
          have hge : (r : Int) ≤ x := by omega
          go_wp2_with fail
          refine Calls.mono (as_number _ 0 0 none 0 0 _ es s1 (errsAt_below HES.out HB0.out) HE1.out rfl) ?_
          rintro e wZ ⟨rfl, hb⟩
          have hW := HB0.out.trans (hb.mono HB0.out.size)
          go_wp2
          go_ret
          exact ⟨rfl, hW⟩
    · obtain rfl : k = ln := by omega
      have hd : ns.take k = ns := List.take_of_length_le (by rw [HVL.out]; exact Nat.le_refl _)
      rw [hd] at hall
      exact absurd hall HB.out
end Go.Proofs.YtagahiahhgafpaaDoor
