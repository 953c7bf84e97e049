/- The chapter's worked answers of package solve hold: the function 'alive' of the statements returns true. -/
import Derived.Test.YtiapclehflflpaaDoorSolveI
namespace Go.Proofs.YtiapclehflflpaaDoor
open Go.RowKit Gf
set_option linter.unusedVariables false
set_option maxRecDepth 20000
def gsSolve : List Nat := [0, 2, 11]
theorem alive_rank : (pivL (cellF 2 [1, 1, 1, 1, 0, 1]) 3 2).length = 2 := by
  have e : pivL (cellF 2 [1, 1, 1, 1, 0, 1]) 3 2 = List.range 2 := by
    refine sorted_eq (pivL_up _ _ _) List.pairwise_lt_range fun i => ?_
    rw [mem_pivL, List.mem_range]
    refine ⟨fun h => h.1, fun hi => ⟨hi, fun ⟨x, hx⟩ => ?_⟩⟩
    rcases (show i = 0 ∨ i = 1 by omega) with rfl | rfl
    · have := hx 0 (by omega)
      exact F.one_ne_zero this
    · have := hx 2 (by omega)
      have e2 : sumF (fun l => gm (cellF 2 [1, 1, 1, 1, 0, 1] 2 l) (x l)) 1 = 0 := by
        show ga 0 (gm 0 (x 0)) = 0
        simp
      rw [e2] at this
      exact F.one_ne_zero this
  rw [e]; rfl
theorem alive_self : ∀ i, i < 2 → ∀ j, j < 2 → mulF 2 (cellF 2 [1, 2, 0, 1]) (cellF 2 [1, 2, 0, 1]) i j = if i = j then 1 else 0 := by decide +kernel
theorem alive_inv {Y : Mt} (h : InvOf 2 (cellF 2 [1, 2, 0, 1]) Y) : grid 2 Y 2 = [1, 2, 0, 1] := by
  rw [grid_congr (g := cellF 2 [1, 2, 0, 1]) (fun i j hi hj => inv_same h.left alive_self i hi j hj)]
  decide +kernel
set_option maxHeartbeats 2000000 in
theorem alive3_ok (w : World) (s : Addr) (hs : w.cell? ⟨2, 0, none⟩ = some (errAt s)) : Calls Tryd.prog 17 #[] w fun e w' => e = .returned (.bool true) ∧ Below w.heap.size w w' := by
  have HS : Hid _ := hs
  clear hs
  go_enter Tryd.func17, Tryd.ntmps17
  go_wp2_with fail
  have h1 : (w.alloc (.cells #[.int .u8 1, .int .u8 1, .int .u8 1, .int .u8 1, .int .u8 0, .int .u8 1] 5)).heap[w.heap.size]? = some (.cells (vfs [1, 1, 1, 1, 0, 1]) 5 (0, 0)) := heap_alloc_last w _
  refine Calls.mono (rank_F 3 2 6 6 (some ⟨w.heap.size, 0, none⟩) [1, 1, 1, 1, 0, 1] _ (by decide) (by decide) rfl rfl (Nat.le_refl _) (row8_own h1) (fun h => by cases h)) ?_
  rintro e w1 ⟨he, hb1⟩
  rw [alive_rank] at he
  subst he
  have HW1 : Hid (Below w.heap.size w w1) := ((Below.refl w.heap.size w).alloc (Nat.le_refl _) _).trans (hb1.mono (by simp))
  clear hb1 h1
  go_wp2_with fail
  have h2 : (w1.alloc (.cells #[.int .u8 1, .int .u8 2, .int .u8 0, .int .u8 1] 5)).heap[w1.heap.size]? = some (.cells (vfs [1, 2, 0, 1]) 5 (0, 0)) := heap_alloc_last w1 _
  have hb2 : Below w.heap.size w (w1.alloc (.cells #[.int .u8 1, .int .u8 2, .int .u8 0, .int .u8 1] 5)) := HW1.out.alloc HW1.out.size _
  refine Calls.mono (inverse_F 2 4 4 (some ⟨w1.heap.size, 0, none⟩) [1, 2, 0, 1] _ (by decide) rfl rfl (Nat.le_refl _) (row8_own h2) (fun h => by cases h) s (cell_later hb2 HS.out)) ?_
  rintro e w2 (⟨_, g, m, Y, rfl, hm, hg, hh, hinv, hb3⟩ | ⟨hne, _, _⟩)
  · rw [alive_inv hinv] at hh
    obtain rfl : m = 4 := hm
    have HW2 : Hid (Below w.heap.size w w2) := hb2.trans (hb3.mono hb2.size)
    have hA := holds_new (holds_cons (holds_nil w2) hh) #[.int .i64 2, .int .i64 2, .slice (some ⟨g, 0, none⟩) 4 4] 24
    have c3 := cellAt (holds_at hA 0 rfl) 2 _ rfl
    have hcv := conv8 (ca := 4) (show 4 = ([1, 2, 0, 1] : List F).length from rfl) (holds_row hA 1 rfl)
    rw [show str8 [1, 2, 0, 1] = { data := #[1, 2, 0, 1] } by decide +kernel] at hcv
    clear hb3 hh hA h2 hb2 hinv
    go_wp2
    go_ret
    exact ⟨rfl, HW2.out.alloc HW2.out.size _⟩
  · exact absurd (rk_one alive_self) hne
end Go.Proofs.YtiapclehflflpaaDoor
