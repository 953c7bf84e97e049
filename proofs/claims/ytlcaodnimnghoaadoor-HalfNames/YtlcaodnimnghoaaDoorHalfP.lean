/- What Name and Parse of package half answer, at all numbers and texts; unlike halves have unlike names; nothing that was there turns. -/
import Derived.Test.YtlcaodnimnghoaaDoorHalfN
namespace Go.Proofs.YtlcaodnimnghoaaDoor
open Go.RowKit Gf
set_option linter.unusedVariables false
set_option maxRecDepth 20000
theorem strB_eq {a b : List UInt8} (h : a = b) : ((strB a).toList == (strB b).toList) = true := by rw [h]; exact beq_self_eq_true _
theorem strB_ne {a b : List UInt8} (h : ¬ a = b) : ((strB a).toList == (strB b).toList) = false := by rw [strB_list, strB_list]; exact beq_eq_false_iff_ne.2 h
theorem nameB_inj : ∀ k < 15, ∀ h < 32, ∀ j < 32, nameB k h = nameB k j → h = j := by decide +kernel
theorem nameB_len : ∀ k < 15, ∀ h < 32, 3 ≤ (nameB k h).length ∧ (nameB k h).length ≤ 4 := by decide +kernel
set_option maxHeartbeats 1000000 in
theorem name_ok (k r h : Nat) (w : World) (h1 : 1 ≤ k) (h2 : 2 ≤ r) (h3 : k + r ≤ 16) (hh : h < 2 * (k + r)) :
    Calls Tryd.prog 23 #[.int .i64 k, .int .i64 r, .int .i64 h] w fun e w' => e = .returned (.tuple #[.string (strB (nameB k h)), .nilIface]) ∧ Below w.heap.size w w' := by
  obtain ⟨s, p, hp, hs, en⟩ : ∃ s p : Nat, p < 2 ∧ s < k + r ∧ h = 2 * s + p := ⟨h / 2, h % 2, by omega, by omega, by omega⟩
  have HE : Hid _ := en
  clear en hh
  go_enter Tryd.func23, Tryd.ntmps23
  go_wp2_with fail
  refine (find_ok k r h s p _ h1 h2 h3 HE.out hp hs).mono ?_
  rintro e w1 ⟨rfl, hb1⟩
  have HB1 : Hid _ := hb1.alloc hb1.size (.cells #[.int .i64 s, .int .i64 p] 66)
  clear hb1
  go_wp2_with fail
  refine (nameOf_F k h s p _ HE.out hp (by omega) (by omega)).mono ?_
  rintro e w2 ⟨rfl, hb2⟩
  have HB2 : Hid (Below w.heap.size w w2) := HB1.out.trans (hb2.mono HB1.out.size)
  clear hb2
  go_wp2
  go_ret2
  exact ⟨rfl, HB2.out⟩
theorem name_err (k r h : Int) (s : Addr) (w : World) (hF : ∀ w0 : World, w0 = w → Calls Tryd.prog 34 #[.int .i64 k, .int .i64 r, .int .i64 h] w0 fun e w' => e = .returned (.tuple #[.agg #[.int .i64 0, .int .i64 0], errAt s]) ∧ Below w0.heap.size w0 w') :
    Calls Tryd.prog 23 #[.int .i64 k, .int .i64 r, .int .i64 h] w fun e w' => e = .returned (.tuple #[.string (strB []), errAt s]) ∧ Below w.heap.size w w' := by
  have HF : Hid _ := hF
  clear hF
  unfold errAt at HF ⊢
  go_enter Tryd.func23, Tryd.ntmps23
  go_wp2_with fail
  refine (HF.out _ rfl).mono ?_
  rintro e w1 ⟨rfl, hb⟩
  have HB : Hid _ := hb
  clear hb
  go_wp2
  go_ret2
  exact ⟨rfl, HB.out.alloc HB.out.size _⟩
theorem name_bad (k r h : Int) (w : World) (s : Addr) (hs : w.cell? ⟨0, 0, none⟩ = some (errAt s)) (hk0 : -9223372036854775808 ≤ k) (hk1 : k ≤ 9223372036854775807) (hr0 : -9223372036854775808 ≤ r) (hr1 : r ≤ 9223372036854775807) (hL : ¬ LegalP k r) :
    Calls Tryd.prog 23 #[.int .i64 k, .int .i64 r, .int .i64 h] w fun e w' => e = .returned (.tuple #[.string (strB []), errAt s]) ∧ Below w.heap.size w w' :=
  name_err k r h s w fun w0 e => find_bad k r h w0 s (e ▸ hs) hk0 hk1 hr0 hr1 hL
theorem name_no (k r : Nat) (h : Int) (w : World) (s : Addr) (hs : w.cell? ⟨1, 0, none⟩ = some (errAt s)) (h1 : 1 ≤ k) (h2 : 2 ≤ r) (h3 : k + r ≤ 16) (hh : ¬ (0 ≤ h ∧ h < 2 * (k + r))) :
    Calls Tryd.prog 23 #[.int .i64 k, .int .i64 r, .int .i64 h] w fun e w' => e = .returned (.tuple #[.string (strB []), errAt s]) ∧ Below w.heap.size w w' :=
  name_err k r h s w fun w0 e => find_no k r h w0 s (e ▸ hs) h1 h2 h3 hh
theorem parse_bad (k r : Int) (b : ByteArray) (w : World) (s : Addr) (hs : w.cell? ⟨0, 0, none⟩ = some (errAt s)) (hk0 : -9223372036854775808 ≤ k) (hk1 : k ≤ 9223372036854775807) (hr0 : -9223372036854775808 ≤ r) (hr1 : r ≤ 9223372036854775807) (hL : ¬ LegalP k r) :
    Calls Tryd.prog 24 #[.int .i64 k, .int .i64 r, .string b] w fun e w' => e = .returned (.tuple #[.int .i64 0, errAt s]) ∧ w = w' := by
  have HS : Hid _ := hs
  have H : Hid _ := hL
  clear hs hL
  go_enter Tryd.func24, Tryd.ntmps24
  go_wp2_with fail
  refine (bcheck_bad k r _ s HS.out hk0 hk1 hr0 hr1 H.out).mono ?_
  unfold errAt
  rintro e w' ⟨rfl, rfl⟩
  go_wp2
  go_ret2
  exact ⟨rfl, rfl⟩
/-- which half a name is -/
def ParsedAs (k n : Nat) (l : List UInt8) (s : Addr) (v : Value) : Prop :=
  (∃ h : Nat, h < n ∧ nameB k h = l ∧ v = .tuple #[.int .i64 h, .nilIface]) ∨ (∀ h, h < n → nameB k h ≠ l) ∧ v = .tuple #[.int .i64 0, errAt s]
set_option maxHeartbeats 1000000 in
theorem parse_F (k r : Nat) (l : List UInt8) (w : World) (s : Addr) (hs : w.cell? ⟨1, 0, none⟩ = some (errAt s)) (h1 : 1 ≤ k) (h2 : 2 ≤ r) (h3 : k + r ≤ 16) :
    Calls Tryd.prog 24 #[.int .i64 k, .int .i64 r, .string (strB l)] w fun e w' => (∃ v, e = .returned v ∧ ParsedAs k (2 * (k + r)) l s v) ∧ Below w.heap.size w w' := by
  have HS : Hid _ := hs
  clear hs
  go_enter Tryd.func24, Tryd.ntmps24
  go_wp2_with fail
  refine (bcheck_ok _ _ _ h1 h2 h3).mono ?_
  rintro e w' ⟨rfl, rfl⟩
  go_wp2
  go_loopw [20] (fun i wr => ∃ j : Nat, j ≤ 2 * (k + r) ∧ i = .int .i64 j ∧ Below w.heap.size w wr ∧ ∀ h, h < j → nameB k h ≠ l) (fun i _ => 2 * (k + r) - (intOf i).toNat)
  case atStart => exact ⟨0, by omega, rfl, Below.refl _ _, fun h hh => absurd hh (Nat.not_lt_zero h)⟩
  case round =>
    obtain ⟨j, hj, rfl, hb, hno⟩ := hrel
    have HB : Hid _ := hb
    have HNO : Hid _ := hno
    clear hb hno
    by_cases hlt : j < 2 * (k + r)
    · have a1 : (j : Int) < 2 * ((k : Int) + r) := by omega
      obtain ⟨s1, p, hp, hs1, en⟩ : ∃ s p : Nat, p < 2 ∧ s < k + r ∧ j = 2 * s + p := ⟨j / 2, j % 2, by omega, by omega, by omega⟩
      have HE : Hid _ := en
      clear en
      go_wp2_with fail
      refine (placeOf_F j s1 p _ HE.out hp (by omega)).mono ?_
      rintro e w2 ⟨rfl, hb2⟩
      have HB2 : Hid (Below w.heap.size w w2) := HB.out.trans (hb2.mono HB.out.size)
      clear hb2
      go_wp2_with fail
      refine (nameOf_F k j s1 p _ HE.out hp (by omega) (by omega)).mono ?_
      rintro e w3 ⟨rfl, hb3⟩
      have HB3 : Hid (Below w.heap.size w w3) := HB2.out.trans (hb3.mono HB2.out.size)
      clear hb3
      by_cases he : nameB k j = l
      · have hq := strB_eq he
        go_wp2
        go_ret2
        exact ⟨⟨_, rfl, .inl ⟨j, hlt, he, rfl⟩⟩, HB3.out⟩
      · have hq := strB_ne he
        go_wp2
        refine ⟨⟨j + 1, by omega, by go_num, HB3.out, fun h hh => ?_⟩, by simp [intOf]; omega⟩
        by_cases e : h = j
        · rw [e]; exact he
        · exact HNO.out h (by omega)
    · have a1 : ¬ (j : Int) < 2 * ((k : Int) + r) := by omega
      obtain rfl : j = 2 * (k + r) := by omega
      have hsx := cell_later HB.out HS.out
      have hg := World.block_lt_of_cell? _ _ hsx
      unfold errAt at hsx
      go_wp2
      go_region
      go_wp2
      go_ret2
      exact ⟨⟨_, rfl, .inr ⟨HNO.out, rfl⟩⟩, HB.out.drew⟩
end Go.Proofs.YtlcaodnimnghoaaDoor
