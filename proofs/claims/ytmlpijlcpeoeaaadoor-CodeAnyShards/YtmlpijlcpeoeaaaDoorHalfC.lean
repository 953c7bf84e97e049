/- What Carried of package half answers, at all numbers; nothing that was there turns. -/
import Derived.Test.YtmlpijlcpeoeaaaDoorHalfF
import Derived.Test.YtmlpijlcpeoeaaaDoorChosen
namespace Go.Proofs.YtmlpijlcpeoeaaaDoor
open Go.RowKit Gf
set_option linter.unusedVariables false
set_option maxRecDepth 20000
/-- what a parity carries -/
def carL (k g i : Nat) : List Nat := pickB (fun x => decide (carN g x = i)) k
def castL (L : List Nat) : List Int := L.map fun x => ((x : Nat) : Int)
theorem castL_len (L : List Nat) : (castL L).length = L.length := by simp [castL]
theorem nvs_cast (L : List Nat) : nvs L = (castL L).map (Value.int .i64) := by simp [nvs, castL]
theorem ownI_slice {w : World} {B n : Nat} {v : Value} {L : List Nat} (ho : w.ownsRow B 3 1 v n (nvs L)) : ∃ a cap, v = .slice a n cap ∧ RowI w a (castL L) ∧ n = L.length ∧ (a = none → cap = 0) := by
  have hl := ho.1
  rw [nvs, List.length_map] at hl
  rcases ho.2 with ⟨rfl, e⟩ | ⟨g, cap, cur, rfl, h2⟩
  · exact ⟨none, 0, by rw [e], .inl (by rw [List.eq_nil_of_length_eq_zero (l := L) (by omega)]; rfl), by omega, fun _ => rfl⟩
  · rw [nvs_cast] at ho
    exact ⟨_, _, rfl, rowI_own ho, by omega, fun h => by cases h⟩
set_option maxHeartbeats 4000000 in
theorem hcarried_F (k r i : Nat) (w : World) (h1 : 1 ≤ k) (h2 : 2 ≤ r) (h3 : k + r ≤ 16) (hi : i < r) :
    Calls Tryd.prog 26 #[.int .i64 k, .int .i64 r, .int .i64 i] w fun e w' => ∃ a n cap, e = .returned (.tuple #[.slice a n cap, .nilIface]) ∧ n = (carL k (groupN k r) i).length ∧ RowI w' a (castL (carL k (groupN k r) i)) ∧ (a = none → cap = 0) ∧ Below w.heap.size w w' := by
  obtain ⟨g1, _, _, g2⟩ := groupN_least h1 h2 h3
  have HG : Hid _ := fun w => bgroup_ok k r w h1 h2 h3
  generalize groupN k r = g at *
  have HCF : Hid _ := fun j w (hj : j ≤ 1000) => carrier_F g j w g1 (by omega) hj
  obtain ⟨f, hf⟩ : ∃ f : Nat → Bool, f = fun x => decide (carN g x = i) := ⟨_, rfl⟩
  have hcl : carL k g i = pickB f k := by rw [hf]; rfl
  have hft : Hid (∀ x, carN g x = i → f x = true) := fun x h => by rw [hf]; exact decide_eq_true h
  have hff : Hid (∀ x, ¬ carN g x = i → f x = false) := fun x h => by rw [hf]; exact decide_eq_false h
  rw [hcl]
  generalize carN g = car at *
  have i1 : (i : Int) < r := by omega
  have HI : Hid _ := i1
  clear hf hcl i1
  go_enter Tryd.func26, Tryd.ntmps26
  go_wp2_with fail
  refine (HG.out _).mono ?_
  rintro e w1 ⟨rfl, rfl⟩
  go_wp2_with fail
  refine (hthere_yes _ _ _ (by omega) HI.out).mono ?_
  rintro e w1 ⟨rfl, rfl⟩
  go_wp2
  go_loopw [10, 27] (fun v t wr => ∃ j : Nat, j ≤ k ∧ t = .int .i64 j ∧ Below w.heap.size w wr ∧ wr.ownsRow w.heap.size 3 1 v (pickB f j).length (nvs (pickB f j))) (fun _ t _ => k - (intOf t).toNat)
  case atStart => exact ⟨0, by omega, rfl, Below.refl _ _, World.ownsRow_nil _ _ _ _⟩
  case round =>
    obtain ⟨j, hj, rfl, hb, ho⟩ := hrel
    have HB : Hid _ := hb
    have HO : Hid _ := ho
    obtain ⟨av, cv, rfl, hv, hn, hnil⟩ := ownI_slice ho
    have HV : Hid _ := hv
    have HNN : Hid _ := hnil
    have hl : (pickB f j).length ≤ 16 := by have := cntB_le f j; show cntB f j ≤ 16; omega
    clear hb ho hv hn hnil
    by_cases hlt : j < k
    · go_wp2_with fail
      refine (HCF.out j _ (by omega)).mono ?_
      rintro e w2 ⟨rfl, rfl⟩
      by_cases hc : car j = i
      · have hci : (car j : Int) = i := by omega
        have ho := World.ownsRow.alloc HO.out (.cells #[.int .i64 j] 3)
        obtain ⟨g2, cap2, w6, hrun, ho2, hgr, hor, hlt2⟩ := appendI (b := wr.heap.size) (c := 1) (x := (j : Int)) 54 ho (cellAt (heap_alloc_last wr (.cells #[.int .i64 j] 3)) 0 _ rfl) (by omega) (by have := HB.out.size; simp; omega)
        rw [nvs_snoc, ← pickB_yes (hft.out j hc)] at ho2
        have hb6 := below_own (B := w.heap.size) (HB.out.alloc HB.out.size (.cells #[.int .i64 j] 3)) ho hgr (by have := HB.out.size; simp; omega)
        have hlen : (pickB f j).length + 1 = (pickB f (j + 1)).length := by rw [pickB_yes (hft.out j hc)]; simp
        have HRun : Hid _ := hrun
        have HO2 : Hid _ := ho2
        have HB6 : Hid _ := hb6
        have HL : Hid _ := hlen
        clear ho hrun ho2 hb6 hgr hor hlt2 hlen hc
        go_wp2_with (at_builtin; refine wpList_append_run rfl _ _ 54 rfl _ _ _ _ rfl rfl HRun.out ?_)
        have ho9 := HO2.out
        rw [HL.out] at ho9
        rw [HL.out]
        exact ⟨⟨j + 1, by omega, by go_num, HB6.out, ho9⟩, by simp [intOf]; omega⟩
      · have hci : ¬ (car j : Int) = i := by omega
        have hpk := pickB_no (hff.out j hc)
        have HPK : Hid _ := hpk
        clear hc hpk
        go_wp2
        have ho9 := HO.out
        exact ⟨⟨j + 1, by omega, by go_num, HB.out, by rw [HPK.out]; exact ho9⟩, by simp [intOf]; omega⟩
    · obtain rfl : j = k := by omega
      go_wp2
      go_ret2
      exact ⟨av, _, cv, rfl, rfl, HV.out, HNN.out, HB.out⟩
theorem hcarried_bad (k r x : Int) (w : World) (s : Addr) (hs : w.cell? ⟨0, 0, none⟩ = some (errAt s)) (hk0 : -9223372036854775808 ≤ k) (hk1 : k ≤ 9223372036854775807) (hr0 : -9223372036854775808 ≤ r) (hr1 : r ≤ 9223372036854775807) (hL : ¬ LegalP k r) :
    Calls Tryd.prog 26 #[.int .i64 k, .int .i64 r, .int .i64 x] w fun e w' => e = .returned (.tuple #[.slice none 0 0, errAt s]) ∧ w = w' := by
  have HS : Hid _ := hs
  have H : Hid _ := hL
  clear hs hL
  go_enter Tryd.func26, Tryd.ntmps26
  go_wp2_with fail
  refine (bgroup_bad k r _ s HS.out hk0 hk1 hr0 hr1 H.out).mono ?_
  unfold errAt
  rintro e w' ⟨rfl, rfl⟩
  go_wp2
  go_ret2
  exact ⟨rfl, rfl⟩
theorem hcarried_no (k r : Nat) (x : Int) (w : World) (s : Addr) (hs : w.cell? ⟨11, 0, none⟩ = some (errAt s)) (h1 : 1 ≤ k) (h2 : 2 ≤ r) (h3 : k + r ≤ 16) (hx : ¬ (0 ≤ x ∧ x < r)) :
    Calls Tryd.prog 26 #[.int .i64 k, .int .i64 r, .int .i64 x] w fun e w' => e = .returned (.tuple #[.slice none 0 0, errAt s]) ∧ Below w.heap.size w w' := by
  have hlt := World.block_lt_of_cell? w _ hs
  simp at hlt
  have HX : Hid _ := hx
  unfold errAt at *
  clear hx
  go_enter Tryd.func26, Tryd.ntmps26
  go_wp2_with fail
  refine (bgroup_ok _ _ _ h1 h2 h3).mono ?_
  rintro e w' ⟨rfl, rfl⟩
  go_wp2_with fail
  refine (hthere_no _ _ _ HX.out).mono ?_
  rintro e w' ⟨rfl, rfl⟩
  go_wp2
  go_region
  go_wp2
  go_ret2
  exact ⟨rfl, (Below.refl _ _).drew⟩
end Go.Proofs.YtmlpijlcpeoeaaaDoor
