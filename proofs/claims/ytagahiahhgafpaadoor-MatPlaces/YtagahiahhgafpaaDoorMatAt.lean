/- What At of package mat answers, of all matrices and places; nothing that was there turns. -/
import Derived.Test.YtagahiahhgafpaaDoorMatA
namespace Go.Proofs.YtagahiahhgafpaaDoor
open Go.RowKit Gf
set_option linter.unusedVariables false
set_option maxHeartbeats 400000 in
theorem at_F (r c l cap i j : Nat) (a : Option Addr) (xs : List F) (w : World) (hr : r ≤ 64) (hc : c ≤ 64) (hl : l = r * c) (hx : xs.length = r * c) (hcap : l ≤ cap) (hX : Row8 w a xs) (hi : i < r) (hj : j < c) :
    Calls Tryd.prog 22 #[.agg #[.int .i64 r, .int .i64 c, .slice a l cap], .int .i64 i, .int .i64 j] w fun e w' => e = .returned (.tuple #[.int .u8 (at8 xs (i * c + j)).toNat, .nilIface]) ∧ Below w.heap.size w w' := by
  have HL : Hid _ := hl
  have HX : Hid _ := hx
  have HR : Hid (Row8 w a xs) := hX
  clear hl hx hX
  go_enter Tryd.func22, Tryd.ntmps22
  go_wp2_with fail
  refine Calls.mono (check_ok r c a l cap _ hr hc HL.out) ?_
  rintro e w1 ⟨rfl, hb1⟩
  obtain ⟨q1, q2⟩ := bcell hb1
  have z1 := hb1.size
  simp only [World.size_alloc] at z1
  have z2 : w.heap.size < w1.heap.size := by omega
  have HB1 : Hid (Below w.heap.size w w1) := ((Below.refl w.heap.size w).alloc (Nat.le_refl _) _).trans (hb1.mono (by simp))
  clear hb1
  go_wp2_with (go_at_call 45; refine (there_yes _ _ _ (by omega) (by omega)).mono ?_; rintro e w' ⟨rfl, rfl⟩)
  refine Calls.mono (rowOf_F r c i l cap a xs w _ hr hc hi HL.out HX.out hcap HR.out) ?_
  rintro e w4 ⟨a', cap', rfl, hr4, hc4, hb4⟩
  obtain ⟨b', off', rfl, hbl, hcl⟩ := row8_cell hr4 (show j < _ by rw [rowAt_len HX.out hi]; exact hj)
  have HB4 : Hid (Below w.heap.size w w4) := HB1.out.trans (hb4.mono (by omega))
  have c0 := HB4.out.cell (p := ⟨b', off' + j, none⟩) hbl
  rw [hcl j (by rw [rowAt_len HX.out hi]; exact hj), at8_rowAt hj] at c0
  clear hcl hr4 hb4 q1 q2
  go_wp2
  go_ret2
  exact ⟨rfl, HB4.out⟩
set_option maxHeartbeats 400000 in
theorem at_bad (r c i j : Int) (a : Option Addr) (l cap : Nat) (w : World) (s : Addr) (hs : w.cell? ⟨0, 0, none⟩ = some (errAt s)) (h : ¬ (0 ≤ r ∧ r ≤ 64 ∧ 0 ≤ c ∧ c ≤ 64 ∧ (l : Int) = r * c)) :
    Calls Tryd.prog 22 #[.agg #[.int .i64 r, .int .i64 c, .slice a l cap], .int .i64 i, .int .i64 j] w fun e w' => e = .returned (.tuple #[.int .u8 0, errAt s]) ∧ Below w.heap.size w w' := by
  have hs1 := fun o => cell?_alloc_old o hs
  have H : Hid _ := h
  have HS : Hid _ := hs1
  clear hs h hs1
  unfold errAt at *
  go_enter Tryd.func22, Tryd.ntmps22
  go_wp2_with fail
  refine Calls.mono (check_bad r c a l cap _ _ (HS.out _) H.out) ?_
  rintro e w1 ⟨rfl, hb1⟩
  go_wp2
  go_ret2
  exact ⟨rfl, ((Below.refl w.heap.size w).alloc (Nat.le_refl _) _).trans (hb1.mono (by simp))⟩
set_option maxHeartbeats 400000 in
theorem at_no (r c l cap : Nat) (i j : Int) (a : Option Addr) (w : World) (hr : r ≤ 64) (hc : c ≤ 64) (hl : l = r * c) (s : Addr) (hs : w.cell? ⟨1, 0, none⟩ = some (errAt s)) (h : ¬ (0 ≤ i ∧ i < r ∧ 0 ≤ j ∧ j < c)) :
    Calls Tryd.prog 22 #[.agg #[.int .i64 r, .int .i64 c, .slice a l cap], .int .i64 i, .int .i64 j] w fun e w' => e = .returned (.tuple #[.int .u8 0, errAt s]) ∧ Below w.heap.size w w' := by
  have hlt := World.block_lt_of_cell? w _ hs
  simp at hlt
  have HL : Hid _ := hl
  have H : Hid _ := h
  clear hl h
  unfold errAt at *
  by_cases h1 : 0 ≤ i ∧ i < r
  · have h2 : Hid _ := fun h2 => H.out ⟨h1.1, h1.2, h2⟩
    obtain ⟨k0, k1⟩ := h1
    go_enter Tryd.func22, Tryd.ntmps22
    go_wp2_with fail
    refine Calls.mono (check_ok r c a l cap _ hr hc HL.out) ?_
    rintro e w1 ⟨rfl, hb1⟩
    obtain ⟨q1, q2⟩ := bcell hb1
    have HB1 : Hid (Below w.heap.size w w1) := ((Below.refl w.heap.size w).alloc (Nat.le_refl _) _).trans (hb1.mono (by simp))
    have c9 := (HB1.out.cell (p := ⟨1, 0, none⟩) (by simpa using hlt)).trans hs
    clear hb1
    go_wp2_with fail
    refine (there_yes _ _ _ k0 k1).mono ?_
    rintro e w' ⟨rfl, rfl⟩
    go_wp2_with fail
    refine (there_no _ _ _ h2.out).mono ?_
    rintro e w' ⟨rfl, rfl⟩
    go_wp2
    go_region
    go_wp2
    go_ret2
    exact ⟨rfl, HB1.out.drew⟩
  · have h2 : Hid _ := h1
    clear h1
    go_enter Tryd.func22, Tryd.ntmps22
    go_wp2_with fail
    refine Calls.mono (check_ok r c a l cap _ hr hc HL.out) ?_
    rintro e w1 ⟨rfl, hb1⟩
    obtain ⟨q1, q2⟩ := bcell hb1
    have HB1 : Hid (Below w.heap.size w w1) := ((Below.refl w.heap.size w).alloc (Nat.le_refl _) _).trans (hb1.mono (by simp))
    have c9 := (HB1.out.cell (p := ⟨1, 0, none⟩) (by simpa using hlt)).trans hs
    clear hb1
    go_wp2_with fail
    refine (there_no _ _ _ h2.out).mono ?_
    rintro e w' ⟨rfl, rfl⟩
    go_wp2
    go_region
    go_wp2
    go_ret2
    exact ⟨rfl, HB1.out.drew⟩
end Go.Proofs.YtagahiahhgafpaaDoor
