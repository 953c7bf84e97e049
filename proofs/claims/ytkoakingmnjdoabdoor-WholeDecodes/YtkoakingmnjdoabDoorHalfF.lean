/- What find, Of, Split and Carrier of package half answer, at all numbers; nothing that was there turns. -/
import Derived.Test.YtkoakingmnjdoabDoorHalfW
namespace Go.Proofs.YtkoakingmnjdoabDoor
open Go.RowKit Gf
set_option linter.unusedVariables false
set_option maxRecDepth 20000
theorem hof_ok (k r s p : Nat) (w : World) (h1 : 1 ≤ k) (h2 : 2 ≤ r) (h3 : k + r ≤ 16) (hs : s < k + r) (hp : p < 2) :
    Calls Tryd.prog 27 #[.int .i64 k, .int .i64 r, .int .i64 s, .int .i64 p] w fun e w' => e = .returned (.tuple #[.int .i64 (2 * s + p : Nat), .nilIface]) ∧ Below w.heap.size w w' := by
  have HS : Hid ((s : Int) < (k : Int) + r) := by show _ < _; omega
  have HP : Hid ((p : Int) < 2) := by show _ < _; omega
  have s1 : s ≤ 16 := by omega
  have p1 : p ≤ 1 := by omega
  clear hs hp
  go_enter Tryd.func27, Tryd.ntmps27
  go_wp2_with fail
  refine (bcheck_ok _ _ _ h1 h2 h3).mono ?_
  rintro e w' ⟨rfl, rfl⟩
  go_wp2_with fail
  refine (hthere_yes _ _ _ (by omega) HS.out).mono ?_
  rintro e w' ⟨rfl, rfl⟩
  go_wp2_with fail
  refine (hthere_yes _ _ _ (by omega) HP.out).mono ?_
  rintro e w' ⟨rfl, rfl⟩
  go_wp2_with fail
  refine (number_F s p _ (by omega) (by omega)).mono ?_
  rintro e w2 ⟨rfl, hb⟩
  have HB : Hid _ := hb
  clear hb
  go_wp2
  go_ret2
  exact ⟨rfl, HB.out⟩
theorem hof_bad (k r x y : Int) (w : World) (s : Addr) (hs : w.cell? ⟨0, 0, none⟩ = some (errAt s)) (hk0 : -9223372036854775808 ≤ k) (hk1 : k ≤ 9223372036854775807) (hr0 : -9223372036854775808 ≤ r) (hr1 : r ≤ 9223372036854775807) (hL : ¬ LegalP k r) :
    Calls Tryd.prog 27 #[.int .i64 k, .int .i64 r, .int .i64 x, .int .i64 y] w fun e w' => e = .returned (.tuple #[.int .i64 0, errAt s]) ∧ w = w' := by
  have HS : Hid _ := hs
  have H : Hid _ := hL
  clear hs hL
  go_enter Tryd.func27, Tryd.ntmps27
  go_wp2_with fail
  refine (bcheck_bad k r _ s HS.out hk0 hk1 hr0 hr1 H.out).mono ?_
  unfold errAt
  rintro e w' ⟨rfl, rfl⟩
  go_wp2
  go_ret2
  exact ⟨rfl, rfl⟩
theorem hof_no (k r : Nat) (x y : Int) (w : World) (s : Addr) (hs : w.cell? ⟨4, 0, none⟩ = some (errAt s)) (h1 : 1 ≤ k) (h2 : 2 ≤ r) (h3 : k + r ≤ 16) (hx : ¬ ((0 ≤ x ∧ x < k + r) ∧ 0 ≤ y ∧ y < 2)) :
    Calls Tryd.prog 27 #[.int .i64 k, .int .i64 r, .int .i64 x, .int .i64 y] w fun e w' => e = .returned (.tuple #[.int .i64 0, errAt s]) ∧ Below w.heap.size w w' := by
  have hlt := World.block_lt_of_cell? w _ hs
  simp at hlt
  have HX : Hid _ := hx
  unfold errAt at *
  clear hx
  by_cases hx : 0 ≤ x ∧ x < k + r
  · have hy : ¬ (0 ≤ y ∧ y < 2) := fun h => HX.out ⟨hx, h⟩
    obtain ⟨x0, x1⟩ := hx
    have HS : Hid _ := x1
    have HY : Hid _ := hy
    clear HX hy x1
    go_enter Tryd.func27, Tryd.ntmps27
    go_wp2_with fail
    refine (bcheck_ok _ _ _ h1 h2 h3).mono ?_
    rintro e w' ⟨rfl, rfl⟩
    go_wp2_with fail
    refine (hthere_yes _ _ _ x0 HS.out).mono ?_
    rintro e w' ⟨rfl, rfl⟩
    go_wp2_with fail
    refine (hthere_no _ _ _ HY.out).mono ?_
    rintro e w' ⟨rfl, rfl⟩
    go_wp2
    go_region
    go_wp2
    go_ret2
    exact ⟨rfl, (Below.refl _ _).drew⟩
  · have HY : Hid _ := hx
    clear HX hx
    go_enter Tryd.func27, Tryd.ntmps27
    go_wp2_with fail
    refine (bcheck_ok _ _ _ h1 h2 h3).mono ?_
    rintro e w' ⟨rfl, rfl⟩
    go_wp2_with fail
    refine (hthere_no _ _ _ HY.out).mono ?_
    rintro e w' ⟨rfl, rfl⟩
    go_wp2
    go_region
    go_wp2
    go_ret2
    exact ⟨rfl, (Below.refl _ _).drew⟩
end Go.Proofs.YtkoakingmnjdoabDoor
