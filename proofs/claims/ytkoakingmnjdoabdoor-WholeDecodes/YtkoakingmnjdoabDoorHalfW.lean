/- What the small functions of package half answer: there, placeOf, number, find, carrier, carrying, Of, Split, Carrier; and the document's own Carrier; nothing that was there turns. -/
import Derived.Test.YtkoakingmnjdoabDoorBaseW
import Derived.Test.YtkoakingmnjdoabDoorHolds
namespace Go.Proofs.YtkoakingmnjdoabDoor
open Go.RowKit Gf
set_option linter.unusedVariables false
set_option maxRecDepth 20000
theorem hthere_any (x n : Int) (w : World) : Calls Tryd.prog 43 #[.int .i64 x, .int .i64 n] w fun e w' => e = .returned (.bool (thB x n)) ∧ w = w' := by
  by_cases h0 : 0 ≤ x
  · by_cases h1 : x < n
    · go_enter Tryd.func43, Tryd.ntmps43
      go_wp2
      go_ret
      exact ⟨by rw [thB_true h0 h1]; rfl, rfl⟩
    · go_enter Tryd.func43, Tryd.ntmps43
      go_wp2
      go_ret
      exact ⟨by rw [thB_false (by omega)]; rfl, rfl⟩
  · go_enter Tryd.func43, Tryd.ntmps43
    go_wp2
    go_ret
    exact ⟨by rw [thB_false (by omega)]; rfl, rfl⟩
theorem hthere_yes (x n : Int) (w : World) (h0 : 0 ≤ x) (h1 : x < n) : Calls Tryd.prog 43 #[.int .i64 x, .int .i64 n] w fun e w' => e = .returned (.bool true) ∧ w = w' :=
  (hthere_any x n w).mono fun e w' ⟨a, b⟩ => ⟨by rw [a, thB_true h0 h1], b⟩
theorem hthere_no (x n : Int) (w : World) (h : ¬ (0 ≤ x ∧ x < n)) : Calls Tryd.prog 43 #[.int .i64 x, .int .i64 n] w fun e w' => e = .returned (.bool false) ∧ w = w' :=
  (hthere_any x n w).mono fun e w' ⟨a, b⟩ => ⟨by rw [a, thB_false h], b⟩
theorem placeOf_F (h s p : Nat) (w : World) (hh : h = 2 * s + p) (hp : p < 2) (hs : s ≤ 1000) : Calls Tryd.prog 21 #[.int .i64 h] w fun e w' => e = .returned (.agg #[.int .i64 s, .int .i64 p]) ∧ Below w.heap.size w w' := by
  have e1 : Hid ((h : Int) / 2 = s) := by show _ = _; omega
  have e2 : Hid ((h : Int) % 2 = p) := by show _ = _; omega
  have e3 : h ≤ 4000 := by omega
  clear hh hp hs
  go_enter Tryd.func21, Tryd.ntmps21
  go_wp2
  rw [e1.out, e2.out]
  refine bodyPost_ret (v := .agg #[.int .i64 s, .int .i64 p]) (by simp [results, Tryd.results21, go_sem]) rfl ⟨rfl, ?_⟩
  exact (Below.refl w.heap.size w).alloc (Nat.le_refl _) _
theorem number_F (s p : Nat) (w : World) (hs : s ≤ 1000) (hp : p ≤ 1000) : Calls Tryd.prog 44 #[.agg #[.int .i64 s, .int .i64 p]] w fun e w' => e = .returned (.int .i64 (2 * s + p : Nat)) ∧ Below w.heap.size w w' := by
  go_enter Tryd.func44, Tryd.ntmps44
  go_wp2
  go_ret
  exact ⟨by go_num, (Below.refl w.heap.size w).alloc (Nat.le_refl _) _⟩
/-- the parity that carries a data shard -/
def carN (g j : Nat) : Nat := j / g + 1
theorem carN_le {g j : Nat} : carN g j ≤ j + 1 := by
  have := Nat.div_le_self j g
  simp only [carN]; omega
theorem carrier_F (g j : Nat) (w : World) (hg : 1 ≤ g) (hg2 : g ≤ 1000) (hj : j ≤ 1000) : Calls Tryd.prog 50 #[.int .i64 g, .int .i64 j] w fun e w' => e = .returned (.int .i64 (carN g j)) ∧ w = w' := by
  have e1 : (j : Int) / g = (j / g : Nat) := by simp
  have e2 : j / g ≤ 1000 := Nat.le_trans (Nat.div_le_self _ _) hj
  generalize hq : j / g = q at e1 e2
  have E : Hid _ := e1
  have b0 : 0 ≤ (j : Int) / g := by omega
  have b1 : (j : Int) / g ≤ 1000 := by omega
  have hc : carN g j = q + 1 := by rw [carN, hq]
  rw [hc]
  clear hc e1 hq
  go_enter Tryd.func50, Tryd.ntmps50
  go_wp2
  rw [E.out]
  go_ret
  exact ⟨by go_num, rfl⟩
theorem carrying_F (k g j : Nat) (w : World) (hk : k ≤ 1000) (hg : 1 ≤ g) (hg2 : g ≤ 1000) (hj : j ≤ 1000) : Calls Tryd.prog 41 #[.int .i64 k, .int .i64 g, .int .i64 j] w fun e w' => e = .returned (.agg #[.int .i64 (k + carN g j : Nat), .int .i64 1]) ∧ Below w.heap.size w w' := by
  have hc : carN g j ≤ 2000 := Nat.le_trans carN_le (by omega)
  have HF : Hid _ := fun w => carrier_F g j w hg hg2 hj
  generalize carN g j = c at *
  go_enter Tryd.func41, Tryd.ntmps41
  go_wp2_with fail
  refine Calls.mono (HF.out _) ?_
  rintro e w' ⟨rfl, rfl⟩
  go_wp2
  refine bodyPost_ret (v := .agg #[.int .i64 (k + c : Nat), .int .i64 1]) (by simp [results, Tryd.results41, go_sem]) rfl ⟨rfl, ?_⟩
  exact (Below.refl w.heap.size w).alloc (Nat.le_refl _) _
end Go.Proofs.YtkoakingmnjdoabDoor
