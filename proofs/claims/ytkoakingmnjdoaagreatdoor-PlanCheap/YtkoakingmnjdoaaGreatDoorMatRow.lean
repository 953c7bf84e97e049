/- What Row of package mat answers, of all matrices and numbers; nothing that was there turns. -/
import Derived.Test.YtkoakingmnjdoaaGreatDoorMatR
namespace Go.Proofs.YtkoakingmnjdoaaGreatDoor
open Go.RowKit Gf
set_option linter.unusedVariables false
set_option maxRecDepth 20000
theorem rowOf_G (r c i l cap : Nat) (a : Option Addr) (xs : List F) (w0 w : World) (hr : r ≤ 64) (hc : c ≤ 64) (hi : i < r) (hl : l = r * c) (hx : xs.length = r * c) (hcap : l ≤ cap) (hX : Row8 w0 a xs) (hnil : a = none → cap = 0) :
    Calls Tryz.prog 100 #[.agg #[.int .i64 r, .int .i64 c, .slice a l cap], .int .i64 i] w fun e w' => ∃ a' cap', e = .returned (.slice a' c cap') ∧ Row8 w0 a' (rowAt c xs i) ∧ c ≤ cap' ∧ (a' = none → cap' = 0) ∧ (a ≠ none → a' ≠ none) ∧ Below w.heap.size w w' := by
  cases a with
  | none =>
    have hx0 : xs = [] := by
      rcases hX with h | ⟨b, off, h, _⟩
      · exact h
      · cases h
    have h0 : r * c = 0 := by rw [← hx, hx0]; rfl
    have hc0 : c = 0 := by
      rcases Nat.mul_eq_zero.1 h0 with h | h
      · omega
      · exact h
    subst hc0
    obtain rfl : l = 0 := by omega
    exact (rowOf_none r i cap none w hr hi).mono fun e w' ⟨he, hb⟩ => ⟨none, cap, he, .inl (by simp [rowAt]), Nat.zero_le _, hnil, fun h => absurd rfl h, hb⟩
  | some ad =>
    rcases hX with e | ⟨b, off, e, h⟩
    · have h0 : r * c = 0 := by rw [← hx, e]; rfl
      have hc0 : c = 0 := by
        rcases Nat.mul_eq_zero.1 h0 with h | h
        · omega
        · exact h
      subst hc0
      obtain rfl : l = 0 := by omega
      exact (rowOf_none r i cap (some ad) w hr hi).mono fun e w' ⟨he, hb⟩ => ⟨some ad, cap, he, .inl (by simp [rowAt]), Nat.zero_le _, hnil, fun h => h, hb⟩
    · cases e
      refine (rowOf_some r c i b off l cap w hr hc hi hl hcap).mono fun e w' ⟨he, hb⟩ => ⟨_, _, he, row8_rowAt hx hi (by omega) h, ?_, (fun h => by cases h), (fun _ h => by cases h), hb⟩
      have := Nat.mul_le_mul_right c (show i + 1 ≤ r from hi)
      rw [Nat.succ_mul] at this; omega
set_option maxHeartbeats 400000 in
theorem row_F (r c l cap i : Nat) (a : Option Addr) (xs : List F) (w : World) (hr : r ≤ 64) (hc : c ≤ 64) (hl : l = r * c) (hx : xs.length = r * c) (hcap : l ≤ cap) (hX : Row8 w a xs) (hnil : a = none → cap = 0) (hi : i < r) :
    Calls Tryz.prog 71 #[.agg #[.int .i64 r, .int .i64 c, .slice a l cap], .int .i64 i] w fun e w' => ∃ a' cap', e = .returned (.tuple #[.slice a' c cap', .nilIface]) ∧ Row8 w' a' (rowAt c xs i) ∧ (a' = none → cap' = 0) ∧
      (a ≠ none → ∃ g, a' = some ⟨g, 0, none⟩ ∧ w.heap.size ≤ g ∧ Has8 w' g (rowAt c xs i) cap') ∧ Below w.heap.size w w' := by
  have HL : Hid _ := hl
  have HX : Hid _ := hx
  have HR : Hid (Row8 w a xs) := hX
  have HN : Hid _ := hnil
  clear hl hx hX hnil
  go_enter Tryz.func71, Tryz.ntmps71
  go_wp2_with fail
  refine Calls.mono (check_ok r c a l cap _ hr hc HL.out) ?_
  rintro e w1 ⟨rfl, hb1⟩
  obtain ⟨q1, q2⟩ := bcell hb1
  have z1 := hb1.size
  simp only [World.size_alloc] at z1
  have z2 : w.heap.size < w1.heap.size := by omega
  have HB1 : Hid (Below w.heap.size w w1) := ((Below.refl w.heap.size w).alloc (Nat.le_refl _) _).trans (hb1.mono (by simp))
  clear hb1
  go_wp2_with (go_at_call 98; refine (there_yes _ _ _ (by omega) (by omega)).mono ?_; rintro e w' ⟨rfl, rfl⟩)
  refine Calls.mono (rowOf_G r c i l cap a xs w _ hr hc hi HL.out HX.out hcap HR.out HN.out) ?_
  rintro e w4 ⟨a', cap', rfl, hr4, hc4, hn4, hs4, hb4⟩
  have HB4 : Hid (Below w.heap.size w w4) := HB1.out.trans (hb4.mono (by omega))
  have hr5 := row8_below hr4 HB4.out
  have H4 : Hid _ := hn4
  have H5 : Hid _ := hs4
  clear hr4 hb4 q1 q2 hn4 hs4
  go_wp2_with fail
  refine Calls.mono (clone_F a' c cap' (rowAt c xs i) _ (rowAt_len HX.out hi).symm (by omega) hr5 H4.out) ?_
  rintro e w6 ⟨a6, cap6, rfl, hr6, hor, hb6⟩
  have HB6 : Hid (Below w.heap.size w w6) := HB4.out.trans (hb6.mono HB4.out.size)
  have H6 : Hid _ := hr6
  have H7 : Hid _ := hor
  have z6 := HB4.out.size
  have hcn : Hid (a6 = none → cap6 = 0) := fun e => by
    rcases hor with ⟨_, _, _, h3⟩ | ⟨g, h1, _⟩
    · exact h3
    · rw [h1] at e; cases e
  clear hr6 hor hb6
  go_wp2
  go_ret2
  exact ⟨a6, cap6, rfl, H6.out, hcn.out, fun h => by
    rcases H7.out with ⟨h1, _⟩ | ⟨g, h1, h2, h3⟩
    · exact absurd h1 (H5.out h)
    · exact ⟨g, h1, Nat.le_trans z6 h2, h3⟩, HB6.out⟩
set_option maxHeartbeats 400000 in
theorem row_bad (r c i : Int) (a : Option Addr) (l cap : Nat) (w : World) (s : Addr) (hs : w.cell? ⟨4, 0, none⟩ = some (errAt s)) (h : ¬ (0 ≤ r ∧ r ≤ 64 ∧ 0 ≤ c ∧ c ≤ 64 ∧ (l : Int) = r * c)) :
    Calls Tryz.prog 71 #[.agg #[.int .i64 r, .int .i64 c, .slice a l cap], .int .i64 i] w fun e w' => e = .returned (.tuple #[.slice none 0 0, errAt s]) ∧ Below w.heap.size w w' := by
  have hs1 := fun o => cell?_alloc_old o hs
  have H : Hid _ := h
  have HS : Hid _ := hs1
  clear hs h hs1
  unfold errAt at *
  go_enter Tryz.func71, Tryz.ntmps71
  go_wp2_with fail
  refine Calls.mono (check_bad r c a l cap _ _ (HS.out _) H.out) ?_
  rintro e w1 ⟨rfl, hb1⟩
  go_wp2
  go_ret2
  exact ⟨rfl, ((Below.refl w.heap.size w).alloc (Nat.le_refl _) _).trans (hb1.mono (by simp))⟩
set_option maxHeartbeats 400000 in
theorem row_no (r c l cap : Nat) (i : Int) (a : Option Addr) (w : World) (hr : r ≤ 64) (hc : c ≤ 64) (hl : l = r * c) (s : Addr) (hs : w.cell? ⟨3, 0, none⟩ = some (errAt s)) (h : ¬ (0 ≤ i ∧ i < r)) :
    Calls Tryz.prog 71 #[.agg #[.int .i64 r, .int .i64 c, .slice a l cap], .int .i64 i] w fun e w' => e = .returned (.tuple #[.slice none 0 0, errAt s]) ∧ Below w.heap.size w w' := by
  have hlt := World.block_lt_of_cell? w _ hs
  simp at hlt
  have HL : Hid _ := hl
  have H : Hid _ := h
  clear hl h
  unfold errAt at *
  go_enter Tryz.func71, Tryz.ntmps71
  go_wp2_with fail
  refine Calls.mono (check_ok r c a l cap _ hr hc HL.out) ?_
  rintro e w1 ⟨rfl, hb1⟩
  obtain ⟨q1, q2⟩ := bcell hb1
  have HB1 : Hid (Below w.heap.size w w1) := ((Below.refl w.heap.size w).alloc (Nat.le_refl _) _).trans (hb1.mono (by simp))
  have c9 := (HB1.out.cell (p := ⟨3, 0, none⟩) (by simpa using hlt)).trans hs
  clear hb1
  go_wp2_with fail
  refine (there_no _ _ _ H.out).mono ?_
  rintro e w' ⟨rfl, rfl⟩
  go_wp2
  go_region
  go_wp2
  go_ret2
  exact ⟨rfl, HB1.out.drew⟩
end Go.Proofs.YtkoakingmnjdoaaGreatDoor
