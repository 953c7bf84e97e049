/- What Of of package mat answers where its rows are not in form; nothing that was there turns. -/
import Derived.Test.YtagahiahhgafpaaDoorMatO
import Derived.Test.YtagahiahhgafpaaDoorHolds
namespace Go.Proofs.YtagahiahhgafpaaDoor
open Go.RowKit Gf
set_option linter.unusedVariables false
set_option maxHeartbeats 400000 in
theorem of_no (c : Int) (l cap : Nat) (a : Option Addr) (w : World) (s : Addr) (hs : w.cell? ⟨0, 0, none⟩ = some (errAt s)) (h : ¬ (0 ≤ c ∧ c ≤ 64 ∧ l ≤ 64)) :
    Calls Tryd.prog 20 #[.int .i64 c, .slice a l cap] w fun e w' => e = .returned (.tuple #[.agg #[.int .i64 0, .int .i64 0, .slice none 0 0], errAt s]) ∧ Below w.heap.size w w' := by
  have hs1 := cell?_alloc_old (.cells #[.int .i64 0, .int .i64 0, .slice none 0 0] 24) hs
  have H : Hid _ := h
  have HS : Hid _ := hs1
  clear hs h hs1
  unfold errAt at *
  go_enter Tryd.func20, Tryd.ntmps20
  go_wp2_with fail
  refine Calls.mono (zero_bad l c _ _ HS.out (fun h => H.out ⟨h.2.2.1, h.2.2.2, by have := h.2.1; omega⟩)) ?_
  rintro e w1 ⟨rfl, hb1⟩
  have k1 := heap_later (heap_alloc_last w (.cells #[.int .i64 0, .int .i64 0, .slice none 0 0] 24)) hb1
  have c4 := cellAt k1 0 _ rfl
  have c5 := cellAt k1 1 _ rfl
  have c6 := cellAt k1 2 _ rfl
  have d4 : w1.frozen? ⟨w.heap.size, 0, none⟩ = false := frozen_of_row _ _ _ _ _ k1
  have d5 : w1.frozen? ⟨w.heap.size, 1, none⟩ = false := frozen_of_row _ _ _ _ _ k1
  have d6 : w1.frozen? ⟨w.heap.size, 2, none⟩ = false := frozen_of_row _ _ _ _ _ k1
  have z1 := ltHeap k1
  have HB1 : Hid (Below w.heap.size w w1) := ((Below.refl w.heap.size w).alloc (Nat.le_refl _) _).trans (hb1.mono (by simp))
  clear hb1 k1
  go_wp2
  refine bodyPost_ret (v := .tuple #[.agg #[.int .i64 0, .int .i64 0, .slice none 0 0], .iface 82 (.pointer (some s))]) (by simp [results, Tryd.results20, go_sem, c4, c5, c6, z1]) rfl ⟨rfl, ?_⟩
  exact (((HB1.out.setCell (by simp) _).setCell (by simp) _).setCell (by simp) _).alloc (by simp; omega) _
end Go.Proofs.YtagahiahhgafpaaDoor
