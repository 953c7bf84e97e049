/- What Parity of package base answers, of all legal numbers; nothing that was there turns. -/
import Derived.Test.YtkoakingmnjdoabDoorBaseW
import Derived.Test.YtkoakingmnjdoabDoorBaseL
import Derived.Test.YtkoakingmnjdoabDoorMatOf
import Derived.Test.YtkoakingmnjdoabDoorMatP
namespace Go.Proofs.YtkoakingmnjdoabDoor
open Go.RowKit Gf
set_option linter.unusedVariables false
set_option maxRecDepth 20000
theorem elN_val {k : Nat} (h : k < 256) : ((elN k).toNat : Int) = (k : Int) := el_val h
theorem cyN_inv (w : World) {s j : Nat} (hs : s < 256) (hj : j < 256) (hne : s ≠ j) :
    Calls Tryd.prog 54 #[.int .u8 ((ga (elN s) (elN j)).toNat : Int)] w fun e w' => e = .returned (.tuple #[.int .u8 ((cyN s j).toNat : Int), .bool true]) ∧ w = w' := by
  have h0 : ga (elN s) (elN j) ≠ 0 := ga_ne fun e => hne (elN_inj hs hj e)
  have := inv_F (ga (elN s) (elN j)) w
  rw [if_neg h0, decide_eq_true h0] at this
  exact this
theorem xor_el {s j : Nat} (hs : s < 256) (hj : j < 256) : bits .xor .u8 (s : Int) (j : Int) = ((ga (elN s) (elN j)).toNat : Int) := by
  rw [← elN_val hs, ← elN_val hj, xor_val]
set_option maxHeartbeats 1000000 in
theorem factors_F (k s : Nat) (w : World) (hk : k ≤ s) (hs : s < 32) :
    Calls Tryd.prog 48 #[.int .i64 k, .int .i64 s] w fun e w' => ∃ g, e = .returned (.slice (some ⟨g, 0, none⟩) k k) ∧ w.heap.size ≤ g ∧
      w'.heap[g]? = some (.cells (vfs (rowF k (cyN s))) 5 (0, 0)) ∧ Below w.heap.size w w' := by
  have hmk := run_make8 k (by omega)
  go_enter Tryd.func48, Tryd.ntmps48
  go_wp2
  have B1 : Hid _ := heap_alloc_last w (.cells (vfs (zeros k)) 5)
  have B3 : Hid _ := (Below.refl w.heap.size w).alloc (Nat.le_refl _) (.cells (vfs (zeros k)) 5)
  clear hmk
  generalize (w.alloc (.cells (vfs (zeros k)) 5)) = W3 at *
  go_loopw [11] (fun i wr => ∃ j : Nat, j ≤ k ∧ i = .int .i64 j ∧ W3.grownBy wr (some w.heap.size) ∧ wr.heap[w.heap.size]? = some (.cells (vfs (colP k (cyN s) j)) 5 (0, 0))) (fun i _ => k - (intOf i).toNat)
  case atStart => exact ⟨0, by omega, rfl, World.grownBy.refl _ _, by rw [← colP_zero]; exact B1.out⟩
  case round =>
    obtain ⟨j, hj, rfl, hgb, hh⟩ := hrel
    by_cases hlt : j < k
    · have hj2 : (j : Int) < 256 := by omega
      have hs2 : (s : Int) < 256 := by omega
      have hx := xor_el (s := s) (j := j) (by omega) (by omega)
      have c4 := cellAt hh j _ (vfs_get _ _ (by rw [colP_len]; exact hlt))
      have c5 : wr.frozen? ⟨w.heap.size, j, none⟩ = false := frozen_of_row _ _ _ _ _ hh
      have HG : Hid _ := hh
      have HGB : Hid _ := hgb
      clear hh hgb
      go_wp2_with fail
      refine Calls.mono (cyN_inv _ (by omega) (by omega) (by omega)) ?_
      rintro e w' ⟨rfl, rfl⟩
      go_wp2
      refine ⟨⟨j + 1, by omega, by go_num, grownBy_setCell HGB.out _, ?_⟩, by simp [intOf]; omega⟩
      rw [heap_setCell_same _ _ _ _ _ _ HG.out, vfs_set, colP_step]
    · have e : j = k := by omega
      subst e
      rw [colP_done] at hh
      have HG : Hid _ := hh
      have HGB : Hid _ := hgb
      clear hh hgb
      go_wp2
      go_ret
      exact ⟨w.heap.size, rfl, by omega, HG.out, below_grown B3.out HGB.out (by omega)⟩
/-- the matrix of the parities -/
def parM (k r : Nat) : List F := grid k (fun i j => cyN (k + i) j) r
theorem parM_len (k r : Nat) : (parM k r).length = r * k := grid_len _ _ _
set_option maxHeartbeats 2000000 in
theorem parity_F (k r : Nat) (w : World) (h1 : 1 ≤ k) (h2 : 2 ≤ r) (h3 : k + r ≤ 16) :
    Calls Tryd.prog 33 #[.int .i64 k, .int .i64 r] w fun e w' => ∃ g m, e = .returned (.tuple #[.agg #[.int .i64 r, .int .i64 k, .slice (some ⟨g, 0, none⟩) m m], .nilIface]) ∧ m = r * k ∧ w.heap.size ≤ g ∧
      w'.heap[g]? = some (.cells (vfs (parM k r)) 5 (0, 0)) ∧ Below w.heap.size w w' := by
  have hmk := run_makeS r (by omega)
  go_enter Tryd.func33, Tryd.ntmps33
  go_wp2_with fail
  refine (bcheck_ok _ _ _ h1 h2 h3).mono ?_
  rintro e w' ⟨rfl, rfl⟩
  go_wp2
  have B0 : Hid _ := heap_alloc2_old w (.cells #[.int .i64 0, .int .i64 0, .slice none 0 0] 42) (.cells (slV 0 [] r) 22)
  have B1 : Hid _ := heap_alloc2_new w (.cells #[.int .i64 0, .int .i64 0, .slice none 0 0] 42) (.cells (slV 0 [] r) 22)
  have B3 : Hid _ := ((Below.refl w.heap.size w).alloc (Nat.le_refl _) (.cells #[.int .i64 0, .int .i64 0, .slice none 0 0] 42)).alloc (by simp) (.cells (slV 0 [] r) 22)
  clear hmk
  generalize hW : ((w.alloc (.cells #[.int .i64 0, .int .i64 0, .slice none 0 0] 42)).alloc (.cells (slV 0 [] r) 22)) = W3 at *
  clear hW
  go_loopw [20] (fun i wr => ∃ j : Nat, ∃ gs : List Nat, j ≤ r ∧ i = .int .i64 j ∧ gs.length = j ∧ W3.grownBy wr (some (w.heap.size + 1)) ∧ wr.heap[w.heap.size + 1]? = some (.cells (slV k gs r) 22 (0, 0)) ∧
    ∀ i g, gs[i]? = some g → g ≠ w.heap.size + 1 ∧ wr.heap[g]? = some (.cells (vfs (rowF k (cyN (k + i)))) 5 (0, 0))) (fun i _ => r - (intOf i).toNat)
  case atStart => exact ⟨0, [], by omega, rfl, rfl, World.grownBy.refl _ _, B1.out, fun j g h => by simp at h⟩
  case round =>
    obtain ⟨j, gs, hj, rfl, hgs, hgb, hs, hrows⟩ := hrel
    have HS : Hid _ := hs
    have HG : Hid _ := hgs
    have HR : Hid _ := hrows
    have HGB : Hid _ := hgb
    clear hs hgs hrows hgb
    by_cases hlt : j < r
    · go_wp2_with fail
      have e0 : (k : Int) + j = ((k + j : Nat) : Int) := by omega
      rw [e0]
      clear e0
      refine Calls.mono (factors_F k (k + j) _ (by omega) (by omega)) ?_
      rintro e w5 ⟨g5, rfl, hg5, hh5, hb5⟩
      have hs5 := heap_later HS.out hb5
      have hg5M : g5 ≠ w.heap.size + 1 := by
        have h1 := ltHeap HS.out
        omega
      have c7 : w5.cell? ⟨w.heap.size + 1, j, none⟩ = some (.slice none 0 0) := cellAt hs5 j _ (by have e := slV_next (c := k) (gs := gs) (r := r) (by rw [HG.out]; exact hlt); rwa [HG.out] at e)
      have c8 : w5.frozen? ⟨w.heap.size + 1, j, none⟩ = false := frozen_of_row _ _ _ _ _ hs5
      have HT : Hid ((w5.setCell ⟨w.heap.size + 1, j, none⟩ (.slice (some ⟨g5, 0, none⟩) k k)).heap[w.heap.size + 1]? = some (.cells (slV k (gs ++ [g5]) r) 22 (0, 0))) := by
        show _ = _
        have hgs := HG.out
        rw [heap_setCell_same _ _ _ _ _ _ hs5, ← hgs, slV_set g5 (by omega)]
      have HROW : Hid (∀ i g, (gs ++ [g5])[i]? = some g → g ≠ w.heap.size + 1 ∧ (w5.setCell ⟨w.heap.size + 1, j, none⟩ (.slice (some ⟨g5, 0, none⟩) k k)).heap[g]? = some (.cells (vfs (rowF k (cyN (k + i)))) 5 (0, 0))) := by
        intro i g hi
        have hgs := HG.out
        by_cases hjk : i < gs.length
        · rw [List.getElem?_append_left hjk] at hi
          obtain ⟨h1, h2⟩ := HR.out i g hi
          exact ⟨h1, (heap_setCell_other _ _ _ _ h1).trans (heap_later h2 hb5)⟩
        · have hj2 := (List.getElem?_eq_some_iff.1 hi).1
          simp only [List.length_append, List.length_singleton] at hj2
          obtain rfl : i = j := by omega
          rw [List.getElem?_append_right (by omega), show i - gs.length = 0 from by omega] at hi
          obtain rfl : g5 = g := by simpa using hi
          exact ⟨hg5M, (heap_setCell_other _ _ _ _ hg5M).trans hh5⟩
      have HGB5 : Hid (W3.grownBy (w5.setCell ⟨w.heap.size + 1, j, none⟩ (.slice (some ⟨g5, 0, none⟩) k k)) (some (w.heap.size + 1))) := grownBy_setCell (grown_below HGB.out hb5) _
      clear hs5 hb5 hh5
      go_wp2
      exact ⟨⟨j + 1, gs ++ [g5], by omega, by go_num, by simp [HG.out], HGB5.out, HT.out, HROW.out⟩, by simp [intOf]; omega⟩
    · obtain rfl : j = r := by omega
      go_wp2_with fail
      refine Calls.mono (of_F k j j _ ((List.range j).map fun i => rowF k (cyN (k + i))) _ (by omega) (by simp) (by omega) (fun x hx => ?_) (.inr ⟨w.heap.size + 1, 0, rfl, fun i x hx => ?_⟩)) ?_
      · obtain ⟨i, _, rfl⟩ := List.mem_map.1 hx
        exact rowF_len _ _
      · simp only [List.getElem?_map, Option.map_eq_some_iff] at hx
        obtain ⟨l, hi, rfl⟩ := hx
        obtain ⟨hjk, hi2⟩ := List.getElem?_eq_some_iff.1 hi
        simp only [List.length_range] at hjk
        simp only [List.getElem_range] at hi2
        subst hi2
        have hjg : i < gs.length := by rw [HG.out]; exact hjk
        have hgj : gs[i]? = some gs[i] := List.getElem?_eq_getElem hjg
        refine ⟨some ⟨gs[i], 0, none⟩, k, ?_, row8_own (HR.out i _ hgj).2⟩
        rw [Nat.zero_add, rowF_len]
        exact cellAt HS.out i _ (slV_at hjg)
      rintro e w5 ⟨g, m, rfl, hm, hg, hh, hb5⟩
      have k2 := heap_later (grown_block HGB.out B0.out (by omega)) hb5
      have c4 := cellAt k2 0 _ rfl
      have c5 := cellAt k2 1 _ rfl
      have c6 := cellAt k2 2 _ rfl
      have d4 : w5.frozen? ⟨w.heap.size, 0, none⟩ = false := frozen_of_row _ _ _ _ _ k2
      have d5 : w5.frozen? ⟨w.heap.size, 1, none⟩ = false := frozen_of_row _ _ _ _ _ k2
      have d6 : w5.frozen? ⟨w.heap.size, 2, none⟩ = false := frozen_of_row _ _ _ _ _ k2
      have HM : Hid _ := hm
      have HH : Hid _ := hh
      have HBW : Hid (Below w.heap.size w w5) := (below_grown B3.out HGB.out (by omega)).trans (hb5.mono (below_grown B3.out HGB.out (by omega)).size)
      have hgw : w.heap.size + 1 < g := by
        have := ltHeap HS.out
        omega
      clear hm hh hb5 k2
      go_wp2
      refine bodyPost_ret (v := .tuple #[.agg #[.int .i64 j, .int .i64 k, .slice (some ⟨g, 0, none⟩) m m], .nilIface]) (by simp [results, Tryd.results33, go_sem, c4, c5, c6]) rfl ⟨g, m, rfl, HM.out, by omega, ?_, ?_⟩
      · rw [heap_setCell_other _ _ _ _ (by show g ≠ w.heap.size; omega), heap_setCell_other _ _ _ _ (by show g ≠ w.heap.size; omega), heap_setCell_other _ _ _ _ (by show g ≠ w.heap.size; omega), parM, grid_flat]
        exact HH.out
      · exact ((HBW.out.setCell (by simp) _).setCell (by simp) _).setCell (by simp) _
end Go.Proofs.YtkoakingmnjdoabDoor
