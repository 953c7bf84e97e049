/- What For of package plan answers. -/
import Derived.Test.YtkoakingmnjdoaaGreatDoorJPlanCheap2
import Derived.Test.YtkoakingmnjdoaaGreatDoorBaseL
import Derived.Test.YtkoakingmnjdoaaGreatDoorMatP
import Derived.Test.YtkoakingmnjdoaaGreatDoorMatAl
import Derived.Test.YtkoakingmnjdoaaGreatDoorHolds
import Derived.Test.YtkoakingmnjdoaaGreatDoorMatRow
import Derived.Test.YtkoakingmnjdoaaGreatDoorHalfL
import Derived.Test.YtkoakingmnjdoaaGreatDoorMatO
import Derived.Test.YtkoakingmnjdoaaGreatDoorJPlanCheap3
import Derived.Test.YtkoakingmnjdoaaGreatDoorInts
import Derived.Lib.SlBytesConst
import Derived.Test.YtkoakingmnjdoaaGreatDoorNumBytes
import Derived.Test.YtkoakingmnjdoaaGreatDoorMatTake
import Derived.Lib.ItoaNum
import Derived.Lib.ItoaWalk
import Derived.Test.YtkoakingmnjdoaaGreatDoorNumApart
import Derived.Deep.DeepCutAuto
import Derived.BigRegion
import Derived.Test.YtkoakingmnjdoaaGreatDoorDamL
import Derived.Shelf.SlIterI.Sorted
import Derived.Shelf.SlIterI.Nil
import Derived.Shelf.SortM.Plain
import Derived.Shelf.SortM.SortNone
import Derived.Shelf.Strings.OnBuilder
import Derived.Shelf.Strings.Search3
import Derived.Test.YtkoakingmnjdoaaGreatDoorChecked
import Derived.Maps.OwnSet
import Derived.Maps.OwnOps
import Derived.Maps.AppendAt
import Derived.Sort.OwnSortedInts
import Derived.Handy
/- What Parity of package base answers, of all legal numbers; nothing that was there turns. -/
namespace Go.Proofs.YtkoakingmnjdoaaGreatDoor
open Go.RowKit Gf
set_option linter.unusedVariables false
set_option maxRecDepth 20000
theorem elN_val {k : Nat} (h : k < 256) : ((elN k).toNat : Int) = (k : Int) := el_val h
theorem cyN_inv (w : World) {s j : Nat} (hs : s < 256) (hj : j < 256) (hne : s ≠ j) :
    Calls Tryz.prog 128 #[.int .u8 ((ga (elN s) (elN j)).toNat : Int)] w fun e w' => e = .returned (.tuple #[.int .u8 ((cyN s j).toNat : Int), .bool true]) ∧ w = w' := by
  have h0 : ga (elN s) (elN j) ≠ 0 := ga_ne fun e => hne (elN_inj hs hj e)
  have := inv_F (ga (elN s) (elN j)) w
  rw [if_neg h0, decide_eq_true h0] at this
  exact this
theorem xor_el {s j : Nat} (hs : s < 256) (hj : j < 256) : bits .xor .u8 (s : Int) (j : Int) = ((ga (elN s) (elN j)).toNat : Int) := by
  rw [← elN_val hs, ← elN_val hj, xor_val]
set_option maxHeartbeats 1000000 in
theorem factors_F (k s : Nat) (w : World) (hk : k ≤ s) (hs : s < 32) :
    Calls Tryz.prog 120 #[.int .i64 k, .int .i64 s] w fun e w' => ∃ g, e = .returned (.slice (some ⟨g, 0, none⟩) k k) ∧ w.heap.size ≤ g ∧
      w'.heap[g]? = some (.cells (vfs (rowF k (cyN s))) 5 (0, 0)) ∧ Below w.heap.size w w' := by
  have hmk := run_make8 k (by omega)
  go_enter Tryz.func120, Tryz.ntmps120
  go_wp2
  have B1 : Hid _ := heap_alloc_last w (.cells (vfs (zeros k)) 5)
  have B3 : Hid _ := (Below.refl w.heap.size w).alloc (Nat.le_refl _) (.cells (vfs (zeros k)) 5)
  clear hmk
  generalize (w.alloc (.cells (vfs (zeros k)) 5)) = W3 at *
  go_loopw [11] (fun i wr => ∃ j : Nat, j ≤ k ∧ i = .int .i64 j ∧ W3.grownBy wr (some w.heap.size) ∧ wr.heap[w.heap.size]? = some (.cells (vfs (colP k (cyN s) j)) 5 (0, 0))) (fun i _ => k - (intOf i).toNat)
  case atStart => exact ⟨0, by omega, rfl, World.grownBy.refl _ _, by rw [← colP_zero]; exact B1.out⟩
  case round =>
    obtain ⟨j, hj, rfl, hgb, hh⟩ := hrel
    by_cases hlt : j < k
    · have hj2 : (j : Int) < 256 := by omega
      have hs2 : (s : Int) < 256 := by omega
      have hx := xor_el (s := s) (j := j) (by omega) (by omega)
      have c4 := cellAt hh j _ (vfs_get _ _ (by rw [colP_len]; exact hlt))
      have c5 : wr.frozen? ⟨w.heap.size, j, none⟩ = false := frozen_of_row _ _ _ _ _ hh
      have HG : Hid _ := hh
      have HGB : Hid _ := hgb
      clear hh hgb
      go_wp2_with fail
      refine Calls.mono (cyN_inv _ (by omega) (by omega) (by omega)) ?_
      rintro e w' ⟨rfl, rfl⟩
      go_wp2
      refine ⟨⟨j + 1, by omega, by go_num, grownBy_setCell HGB.out _, ?_⟩, by simp [intOf]; omega⟩
      rw [heap_setCell_same _ _ _ _ _ _ HG.out, vfs_set, colP_step]
    · have e : j = k := by omega
      subst e
      rw [colP_done] at hh
      have HG : Hid _ := hh
      have HGB : Hid _ := hgb
      clear hh hgb
      go_wp2
      go_ret
      exact ⟨w.heap.size, rfl, by omega, HG.out, below_grown B3.out HGB.out (by omega)⟩
/-- the matrix of the parities -/
def parM (k r : Nat) : List F := grid k (fun i j => cyN (k + i) j) r
theorem parM_len (k r : Nat) : (parM k r).length = r * k := grid_len _ _ _
set_option maxHeartbeats 2000000 in
theorem parity_F (k r : Nat) (w : World) (h1 : 1 ≤ k) (h2 : 2 ≤ r) (h3 : k + r ≤ 16) :
    Calls Tryz.prog 94 #[.int .i64 k, .int .i64 r] w fun e w' => ∃ g m, e = .returned (.tuple #[.agg #[.int .i64 r, .int .i64 k, .slice (some ⟨g, 0, none⟩) m m], .nilIface]) ∧ m = r * k ∧ w.heap.size ≤ g ∧
      w'.heap[g]? = some (.cells (vfs (parM k r)) 5 (0, 0)) ∧ Below w.heap.size w w' := by
  have hmk := run_makeS r (by omega)
  go_enter Tryz.func94, Tryz.ntmps94
  go_wp2_with fail
  refine (bcheck_ok _ _ _ h1 h2 h3).mono ?_
  rintro e w' ⟨rfl, rfl⟩
  go_wp2
  have B0 : Hid _ := heap_alloc2_old w (.cells #[.int .i64 0, .int .i64 0, .slice none 0 0] 73) (.cells (slV 0 [] r) 23)
  have B1 : Hid _ := heap_alloc2_new w (.cells #[.int .i64 0, .int .i64 0, .slice none 0 0] 73) (.cells (slV 0 [] r) 23)
  have B3 : Hid _ := ((Below.refl w.heap.size w).alloc (Nat.le_refl _) (.cells #[.int .i64 0, .int .i64 0, .slice none 0 0] 73)).alloc (by simp) (.cells (slV 0 [] r) 23)
  clear hmk
  generalize hW : ((w.alloc (.cells #[.int .i64 0, .int .i64 0, .slice none 0 0] 73)).alloc (.cells (slV 0 [] r) 23)) = W3 at *
  clear hW
  go_loopw [20] (fun i wr => ∃ j : Nat, ∃ gs : List Nat, j ≤ r ∧ i = .int .i64 j ∧ gs.length = j ∧ W3.grownBy wr (some (w.heap.size + 1)) ∧ wr.heap[w.heap.size + 1]? = some (.cells (slV k gs r) 23 (0, 0)) ∧
    ∀ i g, gs[i]? = some g → g ≠ w.heap.size + 1 ∧ wr.heap[g]? = some (.cells (vfs (rowF k (cyN (k + i)))) 5 (0, 0))) (fun i _ => r - (intOf i).toNat)
  case atStart => exact ⟨0, [], by omega, rfl, rfl, World.grownBy.refl _ _, B1.out, fun j g h => by simp at h⟩
  case round =>
    obtain ⟨j, gs, hj, rfl, hgs, hgb, hs, hrows⟩ := hrel
    have HS : Hid _ := hs
    have HG : Hid _ := hgs
    have HR : Hid _ := hrows
    have HGB : Hid _ := hgb
    clear hs hgs hrows hgb
    by_cases hlt : j < r
    · go_wp2_with fail
      have e0 : (k : Int) + j = ((k + j : Nat) : Int) := by omega
      rw [e0]
      clear e0
      refine Calls.mono (factors_F k (k + j) _ (by omega) (by omega)) ?_
      rintro e w5 ⟨g5, rfl, hg5, hh5, hb5⟩
      have hs5 := heap_later HS.out hb5
      have hg5M : g5 ≠ w.heap.size + 1 := by
        have h1 := ltHeap HS.out
        omega
      have c7 : w5.cell? ⟨w.heap.size + 1, j, none⟩ = some (.slice none 0 0) := cellAt hs5 j _ (by have e := slV_next (c := k) (gs := gs) (r := r) (by rw [HG.out]; exact hlt); rwa [HG.out] at e)
      have c8 : w5.frozen? ⟨w.heap.size + 1, j, none⟩ = false := frozen_of_row _ _ _ _ _ hs5
      have HT : Hid ((w5.setCell ⟨w.heap.size + 1, j, none⟩ (.slice (some ⟨g5, 0, none⟩) k k)).heap[w.heap.size + 1]? = some (.cells (slV k (gs ++ [g5]) r) 23 (0, 0))) := by
        show _ = _
        have hgs := HG.out
        rw [heap_setCell_same _ _ _ _ _ _ hs5, ← hgs, slV_set g5 (by omega)]
      have HROW : Hid (∀ i g, (gs ++ [g5])[i]? = some g → g ≠ w.heap.size + 1 ∧ (w5.setCell ⟨w.heap.size + 1, j, none⟩ (.slice (some ⟨g5, 0, none⟩) k k)).heap[g]? = some (.cells (vfs (rowF k (cyN (k + i)))) 5 (0, 0))) := by
        intro i g hi
        have hgs := HG.out
        by_cases hjk : i < gs.length
        · rw [List.getElem?_append_left hjk] at hi
          obtain ⟨h1, h2⟩ := HR.out i g hi
          exact ⟨h1, (heap_setCell_other _ _ _ _ h1).trans (heap_later h2 hb5)⟩
        · have hj2 := (List.getElem?_eq_some_iff.1 hi).1
          simp only [List.length_append, List.length_singleton] at hj2
          obtain rfl : i = j := by omega
          rw [List.getElem?_append_right (by omega), show i - gs.length = 0 from by omega] at hi
          obtain rfl : g5 = g := by simpa using hi
          exact ⟨hg5M, (heap_setCell_other _ _ _ _ hg5M).trans hh5⟩
      have HGB5 : Hid (W3.grownBy (w5.setCell ⟨w.heap.size + 1, j, none⟩ (.slice (some ⟨g5, 0, none⟩) k k)) (some (w.heap.size + 1))) := grownBy_setCell (grown_below HGB.out hb5) _
      clear hs5 hb5 hh5
      go_wp2
      exact ⟨⟨j + 1, gs ++ [g5], by omega, by go_num, by simp [HG.out], HGB5.out, HT.out, HROW.out⟩, by simp [intOf]; omega⟩
    · obtain rfl : j = r := by omega
      go_wp2_with fail
      refine Calls.mono (of_F k j j _ ((List.range j).map fun i => rowF k (cyN (k + i))) _ (by omega) (by simp) (by omega) (fun x hx => ?_) (.inr ⟨w.heap.size + 1, 0, rfl, fun i x hx => ?_⟩)) ?_
      · obtain ⟨i, _, rfl⟩ := List.mem_map.1 hx
        exact rowF_len _ _
      · simp only [List.getElem?_map, Option.map_eq_some_iff] at hx
        obtain ⟨l, hi, rfl⟩ := hx
        obtain ⟨hjk, hi2⟩ := List.getElem?_eq_some_iff.1 hi
        simp only [List.length_range] at hjk
        simp only [List.getElem_range] at hi2
        subst hi2
        have hjg : i < gs.length := by rw [HG.out]; exact hjk
        have hgj : gs[i]? = some gs[i] := List.getElem?_eq_getElem hjg
        refine ⟨some ⟨gs[i], 0, none⟩, k, ?_, row8_own (HR.out i _ hgj).2⟩
        rw [Nat.zero_add, rowF_len]
        exact cellAt HS.out i _ (slV_at hjg)
      rintro e w5 ⟨g, m, rfl, hm, hg, hh, hb5⟩
      have k2 := heap_later (grown_block HGB.out B0.out (by omega)) hb5
      have c4 := cellAt k2 0 _ rfl
      have c5 := cellAt k2 1 _ rfl
      have c6 := cellAt k2 2 _ rfl
      have d4 : w5.frozen? ⟨w.heap.size, 0, none⟩ = false := frozen_of_row _ _ _ _ _ k2
      have d5 : w5.frozen? ⟨w.heap.size, 1, none⟩ = false := frozen_of_row _ _ _ _ _ k2
      have d6 : w5.frozen? ⟨w.heap.size, 2, none⟩ = false := frozen_of_row _ _ _ _ _ k2
      have HM : Hid _ := hm
      have HH : Hid _ := hh
      have HBW : Hid (Below w.heap.size w w5) := (below_grown B3.out HGB.out (by omega)).trans (hb5.mono (below_grown B3.out HGB.out (by omega)).size)
      have hgw : w.heap.size + 1 < g := by
        have := ltHeap HS.out
        omega
      clear hm hh hb5 k2
      go_wp2
      refine bodyPost_ret (v := .tuple #[.agg #[.int .i64 j, .int .i64 k, .slice (some ⟨g, 0, none⟩) m m], .nilIface]) (by simp [results, Tryz.results94, go_sem, c4, c5, c6]) rfl ⟨g, m, rfl, HM.out, by omega, ?_, ?_⟩
      · rw [heap_setCell_other _ _ _ _ (by show g ≠ w.heap.size; omega), heap_setCell_other _ _ _ _ (by show g ≠ w.heap.size; omega), heap_setCell_other _ _ _ _ (by show g ≠ w.heap.size; omega), parM, grid_flat]
        exact HH.out
      · exact ((HBW.out.setCell (by simp) _).setCell (by simp) _).setCell (by simp) _
end Go.Proofs.YtkoakingmnjdoaaGreatDoor

/- What Parity and Generator of package base answer, of all numbers; nothing that was there turns. -/
namespace Go.Proofs.YtkoakingmnjdoaaGreatDoor
open Go.RowKit Gf
set_option linter.unusedVariables false
set_option maxRecDepth 20000
set_option maxHeartbeats 1000000 in
theorem parity_bad (k r : Int) (w : World) (s : Addr) (hs : w.cell? ⟨0, 0, none⟩ = some (errAt s)) (hk0 : -9223372036854775808 ≤ k) (hk1 : k ≤ 9223372036854775807) (hr0 : -9223372036854775808 ≤ r) (hr1 : r ≤ 9223372036854775807) (h : ¬ LegalP k r) :
    Calls Tryz.prog 94 #[.int .i64 k, .int .i64 r] w fun e w' => e = .returned (.tuple #[.agg #[.int .i64 0, .int .i64 0, .slice none 0 0], errAt s]) ∧ Below w.heap.size w w' := by
  have HS : Hid _ := cell?_alloc_old (.cells #[.int .i64 0, .int .i64 0, .slice none 0 0] 73) hs
  have H : Hid _ := h
  clear h hs
  unfold errAt at *
  go_enter Tryz.func94, Tryz.ntmps94
  go_wp2_with fail
  refine (bcheck_bad k r _ s HS.out hk0 hk1 hr0 hr1 H.out).mono ?_
  unfold errAt
  rintro e w' ⟨rfl, rfl⟩
  go_wp2
  refine bodyPost_ret (v := .tuple #[.agg #[.int .i64 0, .int .i64 0, .slice none 0 0], .iface 191 (.pointer (some s))]) (by simp [results, Tryz.results94, go_sem]) rfl ⟨rfl, ?_⟩
  exact (Below.refl w.heap.size w).alloc (Nat.le_refl _) _
theorem grid_add (c : Nat) (f : Nat → Nat → F) (n : Nat) : ∀ m, grid c f (n + m) = grid c f n ++ grid c (fun i => f (n + i)) m
  | 0 => by simp [grid]
  | m + 1 => by rw [← Nat.add_assoc]; simp only [grid]; rw [grid_add c f n m, List.append_assoc]
/-- the generator -/
def genM (k r : Nat) : List F := grid k (genF k) (k + r)
theorem genM_len (k r : Nat) : (genM k r).length = (k + r) * k := grid_len _ _ _
theorem genM_eq (k r : Nat) : genM k r = oneM k ++ parM k r := by
  rw [genM, grid_add, oneM, parM]
  congr 1
  · exact grid_congr fun i j hi hj => by simp [genF, hi]
  · exact grid_congr fun i j hi hj => by simp only [genF]; rw [if_neg (by omega)]
theorem rows_flat {r c : Nat} {xs : List F} (h : xs.length = r * c) : ((List.range r).map (rowAt c xs)).flatten = xs := by
  have e := grid_of (xs := xs) h
  have := grid_flat c (fun i j => at8 xs (i * c + j)) r
  rw [← e] at this
  rw [this]
  congr 1
  refine List.map_congr_left fun i hi => ?_
  rw [← this]
  exact rowAt_rowF h (List.mem_range.1 hi)
set_option maxHeartbeats 2000000 in
theorem generator_F (k r : Nat) (w : World) (s : Addr) (hs : w.cell? ⟨4, 0, none⟩ = some (errAt s)) (h1 : 1 ≤ k) (h2 : 2 ≤ r) (h3 : k + r ≤ 16) :
    Calls Tryz.prog 69 #[.int .i64 k, .int .i64 r] w fun e w' => ∃ g m, e = .returned (.tuple #[.agg #[.int .i64 (k + r : Nat), .int .i64 k, .slice (some ⟨g, 0, none⟩) m m], .nilIface]) ∧ m = (k + r) * k ∧ w.heap.size ≤ g ∧
      w'.heap[g]? = some (.cells (vfs (genM k r)) 5 (0, 0)) ∧ Below w.heap.size w w' := by
  have HS : Hid _ := hs
  clear hs
  have hA := holds_new (holds_nil w) #[.int .i64 0, .int .i64 0, .slice none 0 0] 73
  have HA : Hid _ := hA
  clear hA
  go_enter Tryz.func69, Tryz.ntmps69
  go_wp2_with fail
  refine Calls.mono (parity_F k r _ h1 h2 h3) ?_
  rintro e w1 ⟨g1, m1, rfl, hm1, hg1, hh1, hb1⟩
  have HA1 : Hid _ := holds_new (holds_cons (holds_later HA.out hb1) hh1) #[.int .i64 r, .int .i64 k, .slice (some ⟨g1, 0, none⟩) m1 m1] 73
  have HB1 : Hid (Below w.heap.size w w1) := ((Below.refl w.heap.size w).alloc (Nat.le_refl _) _).trans (hb1.mono (by simp))
  have HM1 : Hid _ := hm1
  clear hb1 hh1 hg1 hm1 HA
  go_wp2_with fail
  refine Calls.mono (one_F k _ (by omega)) ?_
  rintro e w2 ⟨g2, m2, rfl, hm2, hg2, hh2, hb2⟩
  have HA2 : Hid _ := holds_new (holds_cons (holds_later HA1.out hb2) hh2) #[.int .i64 k, .int .i64 k, .slice (some ⟨g2, 0, none⟩) m2 m2] 73
  have HB2' := (HB1.out.alloc HB1.out.size (.cells #[.int .i64 r, .int .i64 k, .slice (some ⟨g1, 0, none⟩) m1 m1] 73))
  have HB2 : Hid (Below w.heap.size w w2) := HB2'.trans (hb2.mono HB2'.size)
  have HM2 : Hid _ := hm2
  have c1 := cellAt (holds_at HA2.out 2 rfl) 0 _ rfl
  have c2 := cellAt (holds_at HA2.out 2 rfl) 1 _ rfl
  have c3 := cellAt (holds_at HA2.out 2 rfl) 2 _ rfl
  have z1 := ltHeap (holds_at HA2.out 2 rfl)
  clear hb2 hh2 hg2 hm2 HA1 HB1 HB2'
  go_wp2_with fail
  have hbl := heap_alloc_last (w2.alloc (.cells #[.int .i64 k, .int .i64 k, .slice (some ⟨g2, 0, none⟩) m2 m2] 73)) (.cells #[.int .i64 k, .int .i64 k, .slice (some ⟨g2, 0, none⟩) m2 m2, .int .i64 r, .int .i64 k, .slice (some ⟨g1, 0, none⟩) m1 m1] 73)
  rw [World.size_alloc] at hbl
  have hB3 := (HB2.out.alloc HB2.out.size (.cells #[.int .i64 k, .int .i64 k, .slice (some ⟨g2, 0, none⟩) m2 m2] 73)).alloc (by have := HB2.out.size; simp; omega) (.cells #[.int .i64 k, .int .i64 k, .slice (some ⟨g2, 0, none⟩) m2 m2, .int .i64 r, .int .i64 k, .slice (some ⟨g1, 0, none⟩) m1 m1] 73)
  have HA3 : Hid _ := holds_alloc HA2.out (.cells #[.int .i64 k, .int .i64 k, .slice (some ⟨g2, 0, none⟩) m2 m2, .int .i64 r, .int .i64 k, .slice (some ⟨g1, 0, none⟩) m1 m1] 73)
  have hsB := cell_later hB3 HS.out
  have HB3 : Hid _ := hB3
  clear hB3 HA2 HB2
  generalize hWW : ((w2.alloc (.cells #[.int .i64 k, .int .i64 k, .slice (some ⟨g2, 0, none⟩) m2 m2] 73)).alloc (.cells #[.int .i64 k, .int .i64 k, .slice (some ⟨g2, 0, none⟩) m2 m2, .int .i64 r, .int .i64 k, .slice (some ⟨g1, 0, none⟩) m1 m1] 73)) = W5 at *
  clear hWW
  refine Calls.mono (stack_F k (w2.heap.size + 1) 2 2 [⟨k, k, some ⟨g2, 0, none⟩, m2, m2, oneM k⟩, ⟨r, k, some ⟨g1, 0, none⟩, m1, m1, parM k r⟩] _ (ltHeap hbl) rfl (by decide) (fun j m hj => ?_) (fun m hm => ?_) s hsB) ?_
  · match j, hj with
    | 0, hj => obtain rfl := Option.some.inj hj; exact ⟨cellAt hbl 0 _ rfl, cellAt hbl 1 _ rfl, cellAt hbl 2 _ rfl⟩
    | 1, hj => obtain rfl := Option.some.inj hj; exact ⟨cellAt hbl 3 _ rfl, cellAt hbl 4 _ rfl, cellAt hbl 5 _ rfl⟩
  · simp only [List.mem_cons, List.not_mem_nil, or_false] at hm
    rcases hm with rfl | rfl
    · exact ⟨by rw [HM2.out, oneM_len], Nat.le_refl _, holds_row HA3.out 1 rfl, fun h => by cases h⟩
    · exact ⟨by rw [HM1.out, parM_len], Nat.le_refl _, holds_row HA3.out 3 rfl, fun h => by cases h⟩
  have hro : rowsOf [(⟨k, k, some ⟨g2, 0, none⟩, m2, m2, oneM k⟩ : Mx), ⟨r, k, some ⟨g1, 0, none⟩, m1, m1, parM k r⟩] = k + r := by simp [rowsOf]
  have hrm : (rowsM k [(⟨k, k, some ⟨g2, 0, none⟩, m2, m2, oneM k⟩ : Mx), ⟨r, k, some ⟨g1, 0, none⟩, m1, m1, parM k r⟩]).flatten = genM k r := by
    simp only [rowsM, List.map_cons, List.map_nil, Int.toNat_natCast, List.flatten_cons, List.flatten_nil, List.append_nil, List.flatten_append]
    rw [genM_eq, rows_flat (oneM_len k), rows_flat (parM_len k r)]
  have HOK : Hid (StackOk (k : Int) [(⟨k, k, some ⟨g2, 0, none⟩, m2, m2, oneM k⟩ : Mx), ⟨r, k, some ⟨g1, 0, none⟩, m1, m1, parM k r⟩]) := ⟨by omega, by omega, fun m hm => by
    simp only [List.mem_cons, List.not_mem_nil, or_false] at hm
    rcases hm with rfl | rfl
    · exact ⟨k, rfl, rfl, by omega, by omega, HM2.out⟩
    · exact ⟨r, rfl, rfl, by omega, by omega, HM1.out⟩, by rw [hro]; omega⟩
  rintro e w4 (⟨_, g, m, rfl, hm, hg, hh, hb4⟩ | ⟨hno, _⟩)
  rotate_left
  · exact absurd HOK.out hno
  rw [hro] at hm
  have hh' : w4.heap[g]? = some (.cells (vfs (genM k r)) 5 (0, 0)) := by rw [hh]; show some (Obj.cells (vfs (rowsM ((k : Int).toNat) _).flatten) _ _) = _; rw [Int.toNat_natCast, hrm]
  rw [hro]
  have HP : ∃ p : Nat, p = k + r := ⟨_, rfl⟩
  obtain ⟨p, hp⟩ := HP
  rw [← hp] at hm ⊢
  have HPP : Hid _ := hp
  have HM : Hid (m = p * k) := by show m = p * k; simpa using hm
  have k2 := heap_later (holds_at HA3.out 4 rfl) hb4
  have c4 := cellAt k2 0 _ rfl
  have c5 := cellAt k2 1 _ rfl
  have c6 := cellAt k2 2 _ rfl
  have d4 : w4.frozen? ⟨w.heap.size, 0, none⟩ = false := frozen_of_row _ _ _ _ _ k2
  have d5 : w4.frozen? ⟨w.heap.size, 1, none⟩ = false := frozen_of_row _ _ _ _ _ k2
  have d6 : w4.frozen? ⟨w.heap.size, 2, none⟩ = false := frozen_of_row _ _ _ _ _ k2
  have HH : Hid _ := hh'
  have HBW : Hid (Below w.heap.size w w4) := HB3.out.trans (hb4.mono HB3.out.size)
  have hgw : w.heap.size < g := by
    have h1 := ltHeap (holds_at HA3.out 4 rfl)
    have := HB3.out.size; omega
  clear hm hh hh' hb4 k2 hp c1 c2 c3 z1 hbl hsB hrm hro
  go_wp2
  have hp := HPP.out
  clear HPP
  subst hp
  refine bodyPost_ret (v := .tuple #[.agg #[.int .i64 (k + r : Nat), .int .i64 k, .slice (some ⟨g, 0, none⟩) m m], .nilIface]) (by simp [results, Tryz.results69, go_sem, c4, c5, c6]) rfl ⟨g, m, rfl, HM.out, by omega, ?_, ?_⟩
  · rw [heap_setCell_other _ _ _ _ (by show g ≠ w.heap.size; omega), heap_setCell_other _ _ _ _ (by show g ≠ w.heap.size; omega), heap_setCell_other _ _ _ _ (by show g ≠ w.heap.size; omega)]
    exact HH.out
  · exact ((HBW.out.setCell (Nat.le_refl _) _).setCell (Nat.le_refl _) _).setCell (Nat.le_refl _) _
set_option maxHeartbeats 2000000 in
theorem generator_bad (k r : Int) (w : World) (s : Addr) (hs : w.cell? ⟨0, 0, none⟩ = some (errAt s)) (hk0 : -9223372036854775808 ≤ k) (hk1 : k ≤ 9223372036854775807) (hr0 : -9223372036854775808 ≤ r) (hr1 : r ≤ 9223372036854775807) (h : ¬ LegalP k r) :
    Calls Tryz.prog 69 #[.int .i64 k, .int .i64 r] w fun e w' => e = .returned (.tuple #[.agg #[.int .i64 0, .int .i64 0, .slice none 0 0], errAt s]) ∧ Below w.heap.size w w' := by
  have HS : Hid _ := cell?_alloc_old (.cells #[.int .i64 0, .int .i64 0, .slice none 0 0] 73) hs
  have H : Hid _ := h
  clear h hs
  have hA := holds_new (holds_nil w) #[.int .i64 0, .int .i64 0, .slice none 0 0] 73
  have HA : Hid _ := hA
  clear hA
  go_enter Tryz.func69, Tryz.ntmps69
  go_wp2_with fail
  refine Calls.mono (parity_bad k r _ s HS.out hk0 hk1 hr0 hr1 H.out) ?_
  unfold errAt
  rintro e w1 ⟨rfl, hb1⟩
  have k1 := holds_at (holds_later HA.out hb1) 0 rfl
  have c4 := cellAt k1 0 _ rfl
  have c5 := cellAt k1 1 _ rfl
  have c6 := cellAt k1 2 _ rfl
  have d4 : w1.frozen? ⟨w.heap.size, 0, none⟩ = false := frozen_of_row _ _ _ _ _ k1
  have d5 : w1.frozen? ⟨w.heap.size, 1, none⟩ = false := frozen_of_row _ _ _ _ _ k1
  have d6 : w1.frozen? ⟨w.heap.size, 2, none⟩ = false := frozen_of_row _ _ _ _ _ k1
  have z1 := ltHeap k1
  have HB1 : Hid (Below w.heap.size w w1) := ((Below.refl w.heap.size w).alloc (Nat.le_refl _) _).trans (hb1.mono (by simp))
  clear hb1 k1
  go_wp2
  refine bodyPost_ret (v := .tuple #[.agg #[.int .i64 0, .int .i64 0, .slice none 0 0], errAt s]) (by simp [results, Tryz.results69, go_sem, c4, c5, c6, z1, errAt]) rfl ⟨rfl, ?_⟩
  exact (((HB1.out.setCell (Nat.le_refl _) _).setCell (Nat.le_refl _) _).setCell (Nat.le_refl _) _).alloc (by have := HB1.out.size; simp; omega) _
end Go.Proofs.YtkoakingmnjdoaaGreatDoor

/- What Rows of package half answers, of all numbers; nothing that was there turns. -/
namespace Go.Proofs.YtkoakingmnjdoaaGreatDoor
open Go.RowKit Gf
set_option linter.unusedVariables false
set_option maxRecDepth 20000
/-- the rows of all halves -/
def halfM (k r : Nat) : List F := grid (2 * k) (halfF k (carN (groupN k r))) (2 * (k + r))
theorem halfM_len (k r : Nat) : (halfM k r).length = 2 * (k + r) * (2 * k) := grid_len _ _ _
theorem hkind_ne {w : World} {a b : Nat} {cs ds : Array Value} {t u : TypeId} {f1 f2 : Nat × Nat} (h1 : w.heap[a]? = some (.cells cs t f1)) (h2 : w.heap[b]? = some (.cells ds u f2)) (h : t ≠ u) : a ≠ b := fun e => by
  subst e; rw [h1] at h2; cases h2; exact h rfl
theorem place_half {k r g s p : Nat} (hs : s < k + r) (hp : p < 2) : rowF (2 * k) (placeF k g s p (rowAt k (genM k r) s)) = rowF (2 * k) (halfF k (carN g) (2 * s + p)) := by
  refine rowF_congr fun v hv => ?_
  rw [genM, rowAt_grid hs]
  simp only [placeF, halfF]
  rw [show (2 * s + p) % 2 = p by omega, show (2 * s + p) / 2 = s by omega]
  by_cases h : v % 2 = p
  · rw [if_pos h, if_pos h, at8_rowF (by omega)]
  · rw [if_neg h, if_neg h]
    by_cases h2 : p = 1 ∧ s = k + carN g (v / 2)
    · rw [if_pos h2, if_pos ⟨h2.1, by omega, by omega⟩]
    · rw [if_neg h2, if_neg (fun h3 => h2 ⟨h3.1, by omega⟩)]
set_option maxHeartbeats 4000000 in
theorem hrows_F (k r : Nat) (w : World) (s0 : Addr) (hs0 : w.cell? ⟨4, 0, none⟩ = some (errAt s0)) (h1 : 1 ≤ k) (h2 : 2 ≤ r) (h3 : k + r ≤ 16) :
    Calls Tryz.prog 44 #[.int .i64 k, .int .i64 r] w fun e w' => ∃ g m, e = .returned (.tuple #[.agg #[.int .i64 (2 * (k + r) : Nat), .int .i64 (2 * k : Nat), .slice (some ⟨g, 0, none⟩) m m], .nilIface]) ∧ m = 2 * (k + r) * (2 * k) ∧ w.heap.size ≤ g ∧
      w'.heap[g]? = some (.cells (vfs (halfM k r)) 5 (0, 0)) ∧ Below w.heap.size w w' := by
  obtain ⟨gr1, _, _, gr2⟩ := groupN_least h1 h2 h3
  have HG : Hid _ := fun w => bgroup_ok k r w h1 h2 h3
  have HV : Hid _ := fun w s hs => generator_F k r w s hs h1 h2 h3
  have hhm : halfM k r = grid (2 * k) (halfF k (carN (groupN k r))) (2 * (k + r)) := rfl
  obtain ⟨gr, hgr⟩ : ∃ gr, gr = groupN k r := ⟨_, rfl⟩
  rw [← hgr] at HG gr1 gr2 hhm
  obtain ⟨n, hn⟩ : ∃ n, n = 2 * (k + r) := ⟨_, rfl⟩
  obtain ⟨c, hc⟩ : ∃ c, c = 2 * k := ⟨_, rfl⟩
  obtain ⟨t, ht⟩ : ∃ t, t = k + r := ⟨_, rfl⟩
  rw [← ht] at HV
  rw [← hn, ← hc] at hhm ⊢
  have en : (2 : Int) * ((k : Int) + r) = n := by omega
  have ec : (2 : Int) * (k : Int) = c := by omega
  have hn32 : n ≤ 32 := by omega
  have hc32 : c ≤ 32 := by omega
  have HN : Hid _ := hn
  have HC : Hid _ := hc
  have HT : Hid _ := ht
  have HHM : Hid _ := hhm
  have HS : Hid _ := hs0
  have hmk := run_makeS n (by omega)
  clear hgr hn hc ht hhm hs0
  have hA := holds_new (holds_nil w) #[.int .i64 0, .int .i64 0, .slice none 0 0] 73
  have HA : Hid _ := hA
  have HB0 : Hid _ := (Below.refl w.heap.size w).alloc (Nat.le_refl _) (.cells #[.int .i64 0, .int .i64 0, .slice none 0 0] 73)
  clear hA
  go_enter Tryz.func44, Tryz.ntmps44
  go_wp2_with fail
  refine Calls.mono (HV.out _ s0 (cell_later HB0.out HS.out)) ?_
  rintro e w1 ⟨g1, m1, rfl, hm1, hg1, hh1, hb1⟩
  have HA1 : Hid _ := holds_new (holds_cons (holds_later HA.out hb1) hh1) #[.int .i64 t, .int .i64 k, .slice (some ⟨g1, 0, none⟩) m1 m1] 73
  have hB1 := HB0.out.trans (hb1.mono HB0.out.size)
  have HB1 : Hid (Below w.heap.size w (w1.alloc (.cells #[.int .i64 t, .int .i64 k, .slice (some ⟨g1, 0, none⟩) m1 m1] 73))) := hB1.alloc hB1.size _
  have HM1 : Hid _ := hm1
  clear hb1 hh1 hg1 hm1 HA hB1
  go_wp2_with fail
  refine Calls.mono (HG.out _) ?_
  rintro e w2 ⟨rfl, rfl⟩
  go_wp2
  have hA2 := holds_cons (holds_alloc HA1.out (.cells (slV 0 [] n) 23)) (heap_alloc_last (w1.alloc (.cells #[.int .i64 t, .int .i64 k, .slice (some ⟨g1, 0, none⟩) m1 m1] 73)) (.cells (slV 0 [] n) 23))
  have hB2 := HB1.out.alloc HB1.out.size (.cells (slV 0 [] n) 23)
  have hz1 := HB1.out.size
  have hz2 := ltHeap (holds_at HA1.out 2 rfl)
  rw [World.size_alloc] at hA2 hz1 hz2
  have HA2 : Hid _ := hA2
  have HB2 : Hid _ := hB2
  clear hA2 hB2 HA1 HB1 hmk
  generalize hM : w1.heap.size + 1 = M at *
  generalize ((w1.alloc (.cells #[.int .i64 t, .int .i64 k, .slice (some ⟨g1, 0, none⟩) m1 m1] 73)).alloc (.cells (slV 0 [] n) 23)) = W3 at *
  have hM0 : w.heap.size < M := by omega
  have hM1 : w1.heap.size < M := by omega
  clear hM
  go_loopw [41] (fun i wr => ∃ j : Nat, ∃ gs : List Nat, j ≤ n ∧ i = .int .i64 j ∧ gs.length = j ∧ Below w.heap.size w wr ∧
    Holds wr [(M, .cells (slV c gs n) 23 (0, 0)), (w1.heap.size, .cells #[.int .i64 t, .int .i64 k, .slice (some ⟨g1, 0, none⟩) m1 m1] 73 (0, 0)), (g1, .cells (vfs (genM k r)) 5 (0, 0)), (w.heap.size, .cells #[.int .i64 0, .int .i64 0, .slice none 0 0] 73 (0, 0))] ∧
    ∀ i g, gs[i]? = some g → g ≠ M ∧ wr.heap[g]? = some (.cells (vfs (rowF c (halfF k (carN gr) i))) 5 (0, 0))) (fun i _ => n - (intOf i).toNat)
  case atStart => exact ⟨0, [], by omega, rfl, rfl, HB2.out, HA2.out, fun j g h => by simp at h⟩
  case round =>
    obtain ⟨j, gs, hj, rfl, hgs, hb, hh, hrows⟩ := hrel
    have HB : Hid _ := hb
    have HH : Hid _ := hh
    have HR : Hid _ := hrows
    have HGS : Hid _ := hgs
    clear hb hh hrows hgs
    by_cases hlt : j < n
    · obtain ⟨s, p, rfl, hp2, hst⟩ : ∃ s p : Nat, j = 2 * s + p ∧ p < 2 ∧ s < t := ⟨j / 2, j % 2, by omega, by omega, by have := HN.out; have := HT.out; omega⟩
      go_wp2_with fail
      refine (placeOf_F (2 * s + p) s p _ rfl hp2 (by have := HT.out; omega)).mono ?_
      rintro e w4 ⟨rfl, hb4⟩
      have HH4 : Hid _ := holds_new (holds_later HH.out hb4) #[.int .i64 s, .int .i64 p] 111
      have hB4 := HB.out.trans (hb4.mono HB.out.size)
      have HB4 : Hid _ := hB4.alloc hB4.size (.cells #[.int .i64 s, .int .i64 p] 111)
      have HR4b : Hid (∀ (k0 : Nat) (o : Obj), wr.heap[k0]? = some o → (w4.alloc (.cells #[.int .i64 s, .int .i64 p] 111)).heap[k0]? = some o) := fun k0 o h => (Below.heap_alloc _ _ _ (ltHeap (heap_later h hb4))).trans (heap_later h hb4)
      have zz4 := hb4.size
      clear hb4 hB4
      have c1 := cellAt (holds_at HH4.out 2 rfl) 0 _ rfl
      have c2 := cellAt (holds_at HH4.out 2 rfl) 1 _ rfl
      have c3 := cellAt (holds_at HH4.out 2 rfl) 2 _ rfl
      have c4 := cellAt (holds_at HH4.out 0 rfl) 0 _ rfl
      have z4 := ltHeap (holds_at HH4.out 0 rfl)
      have z5 := ltHeap (holds_at HH4.out 2 rfl)
      go_wp2_with fail
      refine Calls.mono (row_F t k m1 m1 s (some ⟨g1, 0, none⟩) (genM k r) _ (by have := HT.out; omega) (by omega) (by have := HM1.out; simpa using this) (by rw [genM_len, HT.out]) (Nat.le_refl _) (holds_row HH4.out 3 rfl) (fun h => by cases h) hst) ?_
      rintro e w5 ⟨a5, cap5, rfl, hr5, hn5, _, hb5⟩
      have HR5 : Hid _ := hr5
      have HH5 : Hid _ := holds_later HH4.out hb5
      have HB5 : Hid (Below w.heap.size w w5) := HB4.out.trans (hb5.mono HB4.out.size)
      have HR5b : Hid (∀ (k0 : Nat) (o : Obj), wr.heap[k0]? = some o → w5.heap[k0]? = some o) := fun k0 o h => heap_later (HR4b.out k0 o h) hb5
      clear hr5 hb5 hn5 c1 c2 c3 c4 z4 z5 HB4
      have c1 := cellAt (holds_at HH5.out 0 rfl) 0 _ rfl
      have c2 := cellAt (holds_at HH5.out 0 rfl) 1 _ rfl
      have z5 := ltHeap (holds_at HH5.out 0 rfl)
      go_wp2_with fail
      refine Calls.mono (hrowAt_F k gr s p cap5 a5 _ _ h1 (by omega) gr1 gr2 (by have := HT.out; omega) hp2 (rowAt_len (by rw [genM_len]) (by rw [← HT.out]; exact hst)) HR5.out) ?_
      rintro e w6 ⟨g6, n6, rfl, hn6, hg6, hh6, hb6⟩
      obtain rfl : n6 = c := by have := HC.out; omega
      rw [place_half (by have := HT.out; omega) hp2, ← HC.out] at hh6
      have hs6 := heap_later (holds_at HH5.out 1 rfl) hb6
      have z6 := ltHeap (holds_at HH5.out 1 rfl)
      have hg6M : g6 ≠ M := by omega
      have HG2 := HGS.out
      have c7 : w6.cell? ⟨M, 2 * s + p, none⟩ = some (.slice none 0 0) := cellAt hs6 (2 * s + p) _ (by have e := slV_next (c := n6) (gs := gs) (r := n) (by rw [HG2]; exact hlt); rwa [HG2] at e)
      have c8 : w6.frozen? ⟨M, 2 * s + p, none⟩ = false := frozen_of_row _ _ _ _ _ hs6
      have hW : ∀ (k0 : Nat) (o : Obj), k0 ≠ M → w6.heap[k0]? = some o → (w6.setCell ⟨M, 2 * s + p, none⟩ (.slice (some ⟨g6, 0, none⟩) n6 n6)).heap[k0]? = some o := fun k0 o h1 h2 => (heap_setCell_other _ _ _ _ h1).trans h2
      have HT6 : Hid ((w6.setCell ⟨M, 2 * s + p, none⟩ (.slice (some ⟨g6, 0, none⟩) n6 n6)).heap[M]? = some (.cells (slV n6 (gs ++ [g6]) n) 23 (0, 0))) := by
        show _ = _
        rw [heap_setCell_same _ _ _ _ _ _ hs6, ← HG2, slV_set g6 (by omega)]
      have HROW : Hid (∀ i g, (gs ++ [g6])[i]? = some g → g ≠ M ∧ (w6.setCell ⟨M, 2 * s + p, none⟩ (.slice (some ⟨g6, 0, none⟩) n6 n6)).heap[g]? = some (.cells (vfs (rowF n6 (halfF k (carN gr) i))) 5 (0, 0))) := by
        intro i g hi
        by_cases hjk : i < gs.length
        · rw [List.getElem?_append_left hjk] at hi
          obtain ⟨h1, h2⟩ := HR.out i g hi
          exact ⟨h1, hW _ _ h1 (heap_later (HR5b.out _ _ h2) hb6)⟩
        · have hj2 := (List.getElem?_eq_some_iff.1 hi).1
          simp only [List.length_append, List.length_singleton] at hj2
          obtain rfl : i = 2 * s + p := by omega
          rw [List.getElem?_append_right (by omega), show 2 * s + p - gs.length = 0 from by omega] at hi
          obtain rfl : g6 = g := by simpa using hi
          exact ⟨hg6M, hW _ _ hg6M hh6⟩
      have hB6 := HB5.out.trans (hb6.mono HB5.out.size)
      have hBX := hB6.setCell (p := ⟨M, 2 * s + p, none⟩) (by show w.heap.size ≤ M; omega) (.slice (some ⟨g6, 0, none⟩) n6 n6)
      have HBX : Hid _ := hBX
      have hX0 := holds_later HH5.out hb6
      have HHX : Hid (Holds (w6.setCell ⟨M, 2 * s + p, none⟩ (.slice (some ⟨g6, 0, none⟩) n6 n6)) [(M, .cells (slV n6 (gs ++ [g6]) n) 23 (0, 0)), (w1.heap.size, .cells #[.int .i64 t, .int .i64 k, .slice (some ⟨g1, 0, none⟩) m1 m1] 73 (0, 0)), (g1, .cells (vfs (genM k r)) 5 (0, 0)), (w.heap.size, .cells #[.int .i64 0, .int .i64 0, .slice none 0 0] 73 (0, 0))]) :=
        holds_cons (holds_cons (holds_cons (holds_cons (holds_nil _) (hW _ _ (by omega) (holds_at hX0 4 rfl))) (hW _ _ (hkind_ne (holds_at hX0 3 rfl) hs6 (by decide)) (holds_at hX0 3 rfl))) (hW _ _ (by omega) (holds_at hX0 2 rfl))) HT6.out
      clear hs6 hb6 hh6 hW hB6 hBX hX0 hn6 c1 c2 HG2
      go_wp2
      refine ⟨⟨2 * s + p + 1, gs ++ [g6], by omega, by go_num, by simp [HGS.out], HBX.out, HHX.out, HROW.out⟩, by simp [intOf]; omega⟩
    · obtain rfl : j = n := by omega
      have k1 := holds_at HH.out 0 rfl
      go_wp2_with fail
      refine Calls.mono (of_F c j j _ ((List.range j).map fun i => rowF c (halfF k (carN gr) i)) _ (by omega) (by simp) (by omega) (fun x hx => ?_) (.inr ⟨M, 0, rfl, fun i x hx => ?_⟩)) ?_
      · obtain ⟨i, _, rfl⟩ := List.mem_map.1 hx
        exact rowF_len _ _
      · simp only [List.getElem?_map, Option.map_eq_some_iff] at hx
        obtain ⟨l, hi, rfl⟩ := hx
        obtain ⟨hjk, hi2⟩ := List.getElem?_eq_some_iff.1 hi
        simp only [List.length_range] at hjk
        simp only [List.getElem_range] at hi2
        subst hi2
        have hjg : i < gs.length := by rw [HGS.out]; exact hjk
        have hgj : gs[i]? = some gs[i] := List.getElem?_eq_getElem hjg
        refine ⟨some ⟨gs[i], 0, none⟩, c, ?_, row8_own (HR.out i _ hgj).2⟩
        rw [Nat.zero_add, rowF_len]
        exact cellAt k1 i _ (slV_at hjg)
      rintro e w5 ⟨g, m, rfl, hm, hg, hh, hb5⟩
      rw [← grid_flat, ← HHM.out] at hh
      have k2 := heap_later (holds_at HH.out 3 rfl) hb5
      have c4 := cellAt k2 0 _ rfl
      have c5 := cellAt k2 1 _ rfl
      have c6 := cellAt k2 2 _ rfl
      have d4 : w5.frozen? ⟨w.heap.size, 0, none⟩ = false := frozen_of_row _ _ _ _ _ k2
      have d5 : w5.frozen? ⟨w.heap.size, 1, none⟩ = false := frozen_of_row _ _ _ _ _ k2
      have d6 : w5.frozen? ⟨w.heap.size, 2, none⟩ = false := frozen_of_row _ _ _ _ _ k2
      have HMM : Hid _ := hm
      have HHH : Hid _ := hh
      have HBW : Hid (Below w.heap.size w w5) := HB.out.trans (hb5.mono HB.out.size)
      have hgw : w.heap.size < g := by
        have h1 := ltHeap k1
        omega
      clear hm hh hb5 k2 k1
      go_wp2
      refine bodyPost_ret (v := .tuple #[.agg #[.int .i64 j, .int .i64 c, .slice (some ⟨g, 0, none⟩) m m], .nilIface]) (by simp [results, Tryz.results44, go_sem, c4, c5, c6]) rfl ⟨g, m, rfl, HMM.out, by omega, ?_, ?_⟩
      · rw [heap_setCell_other _ _ _ _ (by show g ≠ w.heap.size; omega), heap_setCell_other _ _ _ _ (by show g ≠ w.heap.size; omega), heap_setCell_other _ _ _ _ (by show g ≠ w.heap.size; omega)]
        exact HHH.out
      · exact ((HBW.out.setCell (by simp) _).setCell (by simp) _).setCell (by simp) _
end Go.Proofs.YtkoakingmnjdoaaGreatDoor

/- Plain algebra of stage 7: what a half is, byte by byte, of the data halves; no program is spoken of. -/
namespace Go.Proofs.YtkoakingmnjdoaaGreatDoor
open Go.RowKit Gf
set_option linter.unusedVariables false
set_option maxRecDepth 20000
/-- byte b of half h, of the data halves' bytes D -/
def imgF (k : Nat) (car : Nat → Nat) (D : Nat → Nat → F) (h b : Nat) : F := sumF (fun v => gm (halfF k car h v) (D v b)) (2 * k)
/-- half h -/
def imgL (k : Nat) (car : Nat → Nat) (H : Nat) (D : Nat → Nat → F) (h : Nat) : List F := rowF H (imgF k car D h)
theorem imgL_len (k : Nat) (car : Nat → Nat) (H : Nat) (D : Nat → Nat → F) (h : Nat) : (imgL k car H D h).length = H := rowF_len _ _
theorem img_congr {k H h : Nat} {car : Nat → Nat} {D E : Nat → Nat → F} (hD : ∀ v b, v < 2 * k → b < H → D v b = E v b) : imgL k car H D h = imgL k car H E h :=
  rowF_congr fun b hb => sumF_congr fun v hv => by rw [hD v b hv hb]
/-- a data half is itself -/
theorem img_data {k h : Nat} {car : Nat → Nat} {D : Nat → Nat → F} (hh : h < 2 * k) (b : Nat) : imgF k car D h b = D h b := by
  unfold imgF
  rw [sumF_pick _ h _ hh]
  · have : halfF k car h h = 1 := by
      simp only [halfF, if_true]
      rw [genF, if_pos (by omega), if_pos rfl]
    rw [this, F.one_mul]
  · intro v hv hne
    have : halfF k car h v = 0 := by
      simp only [halfF]
      by_cases hm : v % 2 = h % 2
      · rw [if_pos hm, genF, if_pos (by omega), if_neg (by omega)]
      · rw [if_neg hm, if_neg (by omega)]
    rw [this, F.zero_mul]
/-- what Image adds up for a parity's half: data shard j's part -/
def parS (k i p : Nat) (car : Nat → Nat) (D : Nat → Nat → F) (b j : Nat) : F := ga (gm (cyN (k + i) j) (D (2 * j + p) b)) (if p = 1 ∧ car j = i then D (2 * j) b else 0)
theorem img_par {k i p b : Nat} {car : Nat → Nat} {D : Nat → Nat → F} (hp : p < 2) : imgF k car D (2 * (k + i) + p) b = sumF (parS k i p car D b) k := by
  unfold imgF
  rw [sumF_two]
  refine sumF_congr fun j hj => ?_
  have hd : (2 * (k + i) + p) / 2 = k + i := by omega
  have hm : (2 * (k + i) + p) % 2 = p := by omega
  unfold parS
  rcases (show p = 0 ∨ p = 1 by omega) with rfl | rfl
  · have e1 : halfF k car (2 * (k + i) + 0) (2 * j) = cyN (k + i) j := by
      simp only [halfF]
      rw [if_pos (by omega), hd, show 2 * j / 2 = j by omega, genF, if_neg (by omega)]
    have e2 : halfF k car (2 * (k + i) + 0) (2 * j + 1) = 0 := by
      simp only [halfF]
      rw [if_neg (by omega), if_neg (by omega)]
    rw [e1, e2, F.zero_mul, if_neg (by omega)]
    rfl
  · have e1 : halfF k car (2 * (k + i) + 1) (2 * j + 1) = cyN (k + i) j := by
      simp only [halfF]
      rw [if_pos (by omega), hd, show (2 * j + 1) / 2 = j by omega, genF, if_neg (by omega)]
    have e2 : halfF k car (2 * (k + i) + 1) (2 * j) = if car j = i then 1 else 0 := by
      simp only [halfF]
      rw [if_neg (by omega), hd, show 2 * j / 2 = j by omega]
      by_cases e : car j = i
      · rw [if_pos e, if_pos ⟨by omega, by omega, by omega⟩]
      · rw [if_neg e, if_neg (fun h => e (by omega))]
    rw [e1, e2, F.add_comm]
    congr 1
    by_cases e : car j = i
    · rw [if_pos e, if_pos ⟨rfl, e⟩, F.one_mul]
    · rw [if_neg e, if_neg (fun h => e h.2), F.zero_mul]
theorem parS_step {k i p b j : Nat} {car : Nat → Nat} {D : Nat → Nat → F} {s : F} : ga (ga s (gm (cyN (k + i) j) (D (2 * j + p) b))) (if p = 1 ∧ car j = i then D (2 * j) b else 0) = ga s (parS k i p car D b j) := F.add_assoc _ _ _
end Go.Proofs.YtkoakingmnjdoaaGreatDoor

/- Plain algebra of stage 6: how many bytes a half has, how many stripes there are, bytes cut and joined; nothing of the program is proved here. -/
namespace Go.Proofs.YtkoakingmnjdoaaGreatDoor
open Go.RowKit Gf
set_option linter.unusedVariables false
set_option maxRecDepth 20000
/-- how many pieces of m make n -/
def cntN (m n : Nat) : Nat := (n + m - 1) / m
theorem lt_cnt {m n i : Nat} (hm : 0 < m) : i < cntN m n ↔ i * m < n := by
  show i + 1 ≤ (n + m - 1) / m ↔ _
  rw [Nat.le_div_iff_mul_le hm, Nat.add_mul, Nat.one_mul]
  omega
theorem cnt_cover {m n : Nat} (hm : 0 < m) : n ≤ cntN m n * m := by
  have h0 : ¬ cntN m n * m < n := fun h => Nat.lt_irrefl _ ((lt_cnt (i := cntN m n) (n := n) hm).2 h)
  omega
theorem cnt_tight {m n : Nat} (hm : 0 < m) (hn : 0 < n) : 0 < cntN m n ∧ (cntN m n - 1) * m < n := by
  have h1 : 0 < cntN m n := (lt_cnt hm).2 (by simpa using hn)
  exact ⟨h1, (lt_cnt hm).1 (by omega)⟩
theorem cnt_eq {m n i : Nat} (hm : 0 < m) (h1 : i = 0 ∨ (i - 1) * m < n) (h2 : n ≤ i * m) : i = cntN m n := by
  rcases Nat.lt_trichotomy i (cntN m n) with h | h | h
  · have := (lt_cnt hm).1 h; omega
  · exact h
  · rcases h1 with rfl | h1
    · omega
    · have := (lt_cnt (i := i - 1) hm).2 h1; omega
/-- numbers of data shards -/
def OkK (k : Int) : Prop := 1 ≤ k ∧ k ≤ 14
instance (k : Int) : Decidable (OkK k) := inferInstanceAs (Decidable (_ ∧ _))
/-- Half's error, as a number -/
def halfE (k size : Int) : Nat := if OkK k then (if size < 1 then 12 else if 128 * k < size then 20 else 0) else 1
/-- Half's answer -/
def halfV (k size : Int) : Nat := if halfE k size = 0 then cntN (2 * k.toNat) size.toNat else 0
theorem half_ok {k size : Int} (h : halfE k size = 0) : ∃ a n : Nat, k = a ∧ size = n ∧ 1 ≤ a ∧ a ≤ 14 ∧ 1 ≤ n ∧ n ≤ 128 * a := by
  unfold halfE at h
  split at h
  · rename_i hk
    obtain ⟨h1, h2⟩ := hk
    split at h
    · cases h
    · split at h
      · cases h
      · exact ⟨k.toNat, size.toNat, by omega, by omega, by omega, by omega, by omega, by omega⟩
  · cases h
theorem halfE_ok {a n : Nat} (h1 : 1 ≤ a) (h2 : a ≤ 14) (h3 : 1 ≤ n) (h4 : n ≤ 128 * a) : halfE a n = 0 := by
  unfold halfE
  rw [if_pos (show OkK a from ⟨by omega, by omega⟩), if_neg (by omega), if_neg (by omega)]
theorem halfV_ok {a n : Nat} (h1 : 1 ≤ a) (h2 : a ≤ 14) (h3 : 1 ≤ n) (h4 : n ≤ 128 * a) : halfV a n = cntN (2 * a) n := by
  unfold halfV
  rw [if_pos (halfE_ok h1 h2 h3 h4)]; simp
theorem halfV_no {k size : Int} (h : halfE k size ≠ 0) : halfV k size = 0 := by unfold halfV; rw [if_neg h]
/-- what H is held to -/
theorem cnt_half {a n : Nat} (h1 : 1 ≤ a) (h2 : a ≤ 14) (h3 : 1 ≤ n) (h4 : n ≤ 128 * a) : 1 ≤ cntN (2 * a) n ∧ cntN (2 * a) n ≤ 64 ∧ n ≤ 2 * a * cntN (2 * a) n ∧ 2 * a * (cntN (2 * a) n - 1) < n := by
  obtain ⟨e1, e2⟩ := cnt_tight (m := 2 * a) (n := n) (by omega) (by omega)
  have e3 := cnt_cover (m := 2 * a) (n := n) (by omega)
  have e4 : ¬ 64 < cntN (2 * a) n := fun h => by
    have := (lt_cnt (m := 2 * a) (n := n) (by omega)).1 h
    omega
  refine ⟨e1, by omega, by rw [Nat.mul_comm]; exact e3, by rw [Nat.mul_comm]; exact e2⟩
/-- Stripes' error, as a number -/
def stripesE (k size : Int) : Nat := if OkK k then (if size < 0 then 12 else if 4096 < size then 20 else 0) else 1
theorem stripes_ok {k size : Int} (h : stripesE k size = 0) : ∃ a n : Nat, k = a ∧ size = n ∧ 1 ≤ a ∧ a ≤ 14 ∧ n ≤ 4096 := by
  unfold stripesE at h
  split at h
  · rename_i hk
    obtain ⟨h1, h2⟩ := hk
    split at h
    · cases h
    · split at h
      · cases h
      · exact ⟨k.toNat, size.toNat, by omega, by omega, by omega, by omega, by omega⟩
  · cases h
theorem stripesE_ok {a n : Nat} (h1 : 1 ≤ a) (h2 : a ≤ 14) (h4 : n ≤ 4096) : stripesE a n = 0 := by
  unfold stripesE
  rw [if_pos (show OkK a from ⟨by omega, by omega⟩), if_neg (by omega), if_neg (by omega)]
/-- the first i sizes of pieces of m of n -/
def strL (m n i : Nat) : List Int := (List.range i).map fun j => ((min (n - j * m) m : Nat) : Int)
theorem strL_len (m n i : Nat) : (strL m n i).length = i := by simp [strL]
theorem strL_succ (m n i : Nat) : strL m n (i + 1) = strL m n i ++ [((min (n - i * m) m : Nat) : Int)] := by simp [strL, List.range_succ]
theorem strL_at {m n i j : Nat} (h : j < i) : (strL m n i)[j]? = some ((min (n - j * m) m : Nat) : Int) := by simp [strL, h]
/-- Stripes' answer -/
def stripesL (k size : Int) : List Int := if stripesE k size = 0 then strL (128 * k.toNat) size.toNat (cntN (128 * k.toNat) size.toNat) else []
theorem stripesL_ok {a n : Nat} (h1 : 1 ≤ a) (h2 : a ≤ 14) (h4 : n ≤ 4096) : stripesL a n = strL (128 * a) n (cntN (128 * a) n) := by
  unfold stripesL
  rw [if_pos (stripesE_ok h1 h2 h4)]; simp
theorem stripesL_no {k size : Int} (h : stripesE k size ≠ 0) : stripesL k size = [] := by unfold stripesL; rw [if_neg h]
theorem cnt_stripes {a n : Nat} (h1 : 1 ≤ a) (h4 : n ≤ 4096) : cntN (128 * a) n ≤ 32 := by
  apply Decidable.byContradiction
  intro h
  have := (lt_cnt (m := 128 * a) (n := n) (by omega)).1 (show 32 < _ by omega)
  omega
/-- half v of H bytes -/
def hf (H : Nat) (xs : List F) (v : Nat) : List F := rowF H (fun i => at8 xs (v * H + i))
theorem hf_len (H : Nat) (xs : List F) (v : Nat) : (hf H xs v).length = H := rowF_len _ _
/-- a stripe's bytes, filled up -/
def padF (m : Nat) (xs : List F) : List F := rowF m (at8 xs)
theorem padF_len (m : Nat) (xs : List F) : (padF m xs).length = m := rowF_len _ _
theorem pad_eq {m : Nat} {xs : List F} (h : xs.length ≤ m) : xs ++ (zeros m).drop xs.length = padF m xs := by
  refine rowF_eq (by rw [List.length_append, List.length_drop, zeros_len]; omega) fun j hj => ?_
  by_cases hl : j < xs.length
  · rw [at8_left hl]
  · rw [at8_right (by omega), at8_drop, at8_zeros, at8_over (by omega)]
theorem at8_padF {m j : Nat} {xs : List F} (h : j < m) : at8 (padF m xs) j = at8 xs j := at8_rowF h
theorem flat_at {c : Nat} : ∀ {L : List (List F)} {i j : Nat}, (∀ xs ∈ L, xs.length = c) → i < L.length → j < c → at8 L.flatten (i * c + j) = at8 (L.getD i []) j
  | [], i, j, _, hi, _ => absurd hi (by simp)
  | xs :: L, 0, j, h, _, hj => by
    have h0 := h xs (List.mem_cons_self ..)
    rw [Nat.zero_mul, Nat.zero_add, List.flatten_cons, at8_left (by omega)]
    rfl
  | xs :: L, i + 1, j, h, hi, hj => by
    have h0 := h xs (List.mem_cons_self ..)
    rw [List.flatten_cons, at8_right (by rw [h0, Nat.add_mul]; omega), h0, Nat.add_mul, Nat.one_mul, show i * c + c + j - c = i * c + j from by omega, flat_at (fun ys hy => h ys (List.mem_cons_of_mem _ hy)) (by simpa using hi) hj]
    rfl
/-- the halves of a stripe, one behind the other, begin with its bytes -/
theorem flat_halves (H c : Nat) (xs : List F) : ((List.range c).map (hf H xs)).flatten = padF (c * H) xs := by
  have h1 : ∀ ys ∈ (List.range c).map (hf H xs), ys.length = H := fun ys hy => by
    obtain ⟨v, _, rfl⟩ := List.mem_map.1 hy
    exact hf_len _ _ _
  refine rowF_eq (by rw [flat_len h1]; simp) fun p hp => ?_
  obtain ⟨i, j, hi, hj, rfl⟩ := split_place hp
  rw [flat_at h1 (by simpa using hi) hj, List.getD_eq_getElem?_getD, List.getElem?_map, List.getElem?_range hi]
  exact at8_rowF hj
theorem take_pad {m : Nat} {xs : List F} (h : xs.length ≤ m) : (padF m xs).take xs.length = xs := by
  rw [← pad_eq h, List.take_left]
end Go.Proofs.YtkoakingmnjdoaaGreatDoor

/- What Half and Stripes of package shards answer, of all numbers; nothing that was there turns. -/
namespace Go.Proofs.YtkoakingmnjdoaaGreatDoor
open Go.RowKit Gf
set_option linter.unusedVariables false
set_option maxRecDepth 20000
/-- the error of a number -/
def evV (E : Nat → Addr) (n : Nat) : Value := if n = 0 then .nilIface else errAt (E (n - 1))
theorem evV_zero (E : Nat → Addr) : evV E 0 = .nilIface := rfl
theorem evV_succ (E : Nat → Addr) (n : Nat) : evV E (n + 1) = errAt (E n) := rfl
/-- what stage 6 names -/
def ErrsE (w : World) (E : Nat → Addr) : Prop :=
  w.cell? ⟨0, 0, none⟩ = some (errAt (E 0)) ∧ w.cell? ⟨3, 0, none⟩ = some (errAt (E 11)) ∧ w.cell? ⟨19, 0, none⟩ = some (errAt (E 19))
theorem errsE_below {w w' : World} {E : Nat → Addr} (h : ErrsE w E) (hb : Below w.heap.size w w') : ErrsE w' E := ⟨cell_later hb h.1, cell_later hb h.2.1, cell_later hb h.2.2⟩
theorem scheck_ok (k : Nat) (w : World) (h1 : 1 ≤ k) (h2 : k ≤ 14) :
    Calls Tryz.prog 103 #[.int .i64 k] w fun e w' => e = .returned .nilIface ∧ w = w' := by
  have a1 : (1 : Int) ≤ k := by omega
  have a2 : (k : Int) ≤ 14 := by omega
  clear h1 h2
  go_enter Tryz.func103, Tryz.ntmps103
  go_wp2
  go_ret
  exact ⟨rfl, rfl⟩
theorem scheck_bad (k : Int) (w : World) (s : Addr) (hs : w.cell? ⟨0, 0, none⟩ = some (errAt s)) (h : ¬ OkK k) :
    Calls Tryz.prog 103 #[.int .i64 k] w fun e w' => e = .returned (errAt s) ∧ w = w' := by
  have hg : 0 < w.heap.size := by
    have := World.block_lt_of_cell? w _ hs; simpa using this
  unfold errAt at *
  by_cases h1 : k < 1
  · go_enter Tryz.func103, Tryz.ntmps103
    go_wp2
    go_ret
    exact ⟨rfl, rfl⟩
  · have h2 : 14 < k := by simp only [OkK] at h; omega
    clear h
    go_enter Tryz.func103, Tryz.ntmps103
    go_wp2
    go_ret
    exact ⟨rfl, rfl⟩
theorem most_F (k : Nat) (w : World) (h2 : k ≤ 14) :
    Calls Tryz.prog 104 #[.int .i64 k] w fun e w' => e = .returned (.int .i64 ((128 * k : Nat) : Int)) ∧ w = w' := by
  have E : Hid ((2 : Int) * k * 64 = ((128 * k : Nat) : Int)) := by show _ = _; omega
  go_enter Tryz.func104, Tryz.ntmps104
  go_wp2
  go_ret
  exact ⟨by rw [E.out]; rfl, rfl⟩
theorem half_F (k size : Int) (w : World) (E : Nat → Addr) (hE : ErrsE w E) (hs0 : -9223372036854775808 ≤ size) (hs1 : size ≤ 9223372036854775807) :
    Calls Tryz.prog 74 #[.int .i64 k, .int .i64 size] w fun e w' => e = .returned (.tuple #[.int .i64 (halfV k size), evV E (halfE k size)]) ∧ Below w.heap.size w w' := by
  have HE : Hid _ := hE
  clear hE
  by_cases hk : OkK k
  · obtain ⟨b1, b2⟩ := hk
    obtain ⟨a, rfl⟩ := Int.eq_ofNat_of_zero_le (show 0 ≤ k by omega)
    have c1 : 1 ≤ a := by omega
    have c2 : a ≤ 14 := by omega
    clear b1 b2
    by_cases h1 : size < 1
    · have e1 : halfE a size = 12 := by unfold halfE; rw [if_pos (show OkK a from ⟨by omega, by omega⟩), if_pos h1]
      rw [halfV_no (by rw [e1]; decide), e1, evV_succ]
      have h0 := HE.out.2.1
      have hg := World.block_lt_of_cell? w _ h0
      simp at hg
      clear e1
      unfold errAt at *
      go_enter Tryz.func74, Tryz.ntmps74
      go_wp2_with fail
      refine (scheck_ok _ _ c1 c2).mono ?_
      rintro e w' ⟨rfl, rfl⟩
      go_wp2
      go_region
      go_wp2
      go_ret2
      exact ⟨rfl, (Below.refl _ _).drew⟩
    · by_cases h2 : 128 * (a : Int) < size
      · have e1 : halfE a size = 20 := by unfold halfE; rw [if_pos (show OkK a from ⟨by omega, by omega⟩), if_neg h1, if_pos h2]
        rw [halfV_no (by rw [e1]; decide), e1, evV_succ]
        have h0 := HE.out.2.2
        have hg := World.block_lt_of_cell? w _ h0
        simp at hg
        have h3 : ((128 * a : Nat) : Int) < size := by omega
        clear e1 h2
        unfold errAt at *
        go_enter Tryz.func74, Tryz.ntmps74
        go_wp2_with fail
        refine (scheck_ok _ _ c1 c2).mono ?_
        rintro e w' ⟨rfl, rfl⟩
        go_wp2_with fail
        refine (most_F _ _ c2).mono ?_
        rintro e w' ⟨rfl, rfl⟩
        go_wp2
        go_region
        go_wp2
        go_ret2
        exact ⟨rfl, (Below.refl _ _).drew⟩
      · obtain ⟨n, rfl⟩ := Int.eq_ofNat_of_zero_le (show 0 ≤ size by omega)
        have d1 : 1 ≤ n := by omega
        have d2 : n ≤ 128 * a := by omega
        rw [halfV_ok c1 c2 d1 d2, halfE_ok c1 c2 d1 d2, evV_zero]
        have h3 : (n : Int) ≤ ((128 * a : Nat) : Int) := by omega
        have E2 : Hid (((n : Int) + 2 * a - 1) / (2 * a) = (cntN (2 * a) n : Nat)) := by
          have : (n : Int) + 2 * a - 1 = ((n + 2 * a - 1 : Nat) : Int) := by omega
          show _ = _
          rw [this, cntN]
          simp
        clear h1 h2
        go_enter Tryz.func74, Tryz.ntmps74
        go_wp2_with fail
        refine (scheck_ok _ _ c1 c2).mono ?_
        rintro e w' ⟨rfl, rfl⟩
        go_wp2_with fail
        refine (most_F _ _ c2).mono ?_
        rintro e w' ⟨rfl, rfl⟩
        go_wp2_with fail
        rw [E2.out]
        go_ret2
        exact ⟨rfl, Below.refl _ _⟩
  · have e1 : halfE k size = 1 := by unfold halfE; rw [if_neg hk]
    rw [halfV_no (by rw [e1]; decide), e1, evV_succ]
    have HK : Hid _ := hk
    clear hk e1
    go_enter Tryz.func74, Tryz.ntmps74
    go_wp2_with fail
    refine (scheck_bad _ _ _ HE.out.1 HK.out).mono ?_
    unfold errAt
    rintro e w' ⟨rfl, rfl⟩
    go_wp2_with fail
    go_ret2
    exact ⟨rfl, Below.refl _ _⟩
/-- sizes as the memory has them -/
def strV (m n i : Nat) : List Value := (strL m n i).map (Value.int .i64)
theorem strV_succ {m n i : Nat} {x : Int} (h : x = ((min (n - i * m) m : Nat) : Int)) : strV m n i ++ [.int .i64 x] = strV m n (i + 1) := by rw [h, strV, strV, strL_succ]; simp
theorem ownS_slice {w : World} {B i : Nat} {v : Value} {ns : List Int} (ho : w.ownsRow B 3 1 v i (ns.map (Value.int .i64))) : ∃ a cap, v = .slice a i cap ∧ RowI w a ns ∧ i = ns.length := by
  have hl := ho.1
  simp only [List.length_map, Nat.mul_one] at hl
  rcases ho.2 with ⟨rfl, h0⟩ | ⟨g, cap, cur, rfl, hg⟩
  · subst h0
    obtain rfl : ns = [] := List.eq_nil_of_length_eq_zero (by omega)
    exact ⟨none, 0, rfl, .inl rfl, rfl⟩
  · exact ⟨some ⟨g, 0, none⟩, cap, rfl, rowI_own ho, by omega⟩
end Go.Proofs.YtkoakingmnjdoaaGreatDoor

/- What Split of package shards answers, of all lists of bytes; nothing that was there turns. -/
namespace Go.Proofs.YtkoakingmnjdoaaGreatDoor
open Go.RowKit Gf
set_option linter.unusedVariables false
set_option maxRecDepth 20000
/-- halves as values: pieces of one block, one behind the other; the first i are there -/
def hvV (g H c i : Nat) : Array Value := ((List.range c).map fun v => if v < i then Value.slice (some ⟨g, v * H, none⟩) H H else .slice none 0 0).toArray
theorem hvV_at {g H c i v : Nat} (hv : v < i) (hc : i ≤ c) : (hvV g H c i)[v]? = some (.slice (some ⟨g, v * H, none⟩) H H) := by
  simp only [hvV, List.getElem?_toArray, List.getElem?_map]
  rw [List.getElem?_range (by omega)]
  simp [hv]
theorem hvV_next {g H c i : Nat} (hc : i < c) : (hvV g H c i)[i]? = some (.slice none 0 0) := by
  simp only [hvV, List.getElem?_toArray, List.getElem?_map]
  rw [List.getElem?_range (by omega)]
  simp
theorem hvV_set {g H c i : Nat} (hc : i < c) : (hvV g H c i).setIfInBounds i (.slice (some ⟨g, i * H, none⟩) H H) = hvV g H c (i + 1) := by
  apply Array.ext_getElem?
  intro j
  rw [Array.getElem?_setIfInBounds]
  by_cases hj : i = j
  · subst hj
    rw [if_pos rfl, if_pos (by simp [hvV]; omega), hvV_at (by omega) (by omega)]
  · rw [if_neg hj]
    simp only [hvV, List.getElem?_toArray, List.getElem?_map]
    by_cases hjc : j < c
    · rw [List.getElem?_range hjc]
      simp only [Option.map_some]
      by_cases h1 : j < i
      · rw [if_pos h1, if_pos (by omega)]
      · rw [if_neg h1, if_neg (by omega)]
    · rw [List.getElem?_eq_none (by simp; omega)]; rfl
theorem run_makeH (g H n : Nat) (hn : n ≤ 64) (w : World) :
    (Instr.makeSlice 49 (.int .i64 (n : Int)) (.int .i64 (n : Int))).run Tryz.prog w = .ok (.slice (some ⟨w.heap.size, 0, none⟩) n n) (w.alloc (.cells (hvV g H n 0) 23)) := by
  obtain ⟨i, hi, h1, h2, h3⟩ := infoS
  have := run_make (P := Tryz.prog) w 49 23 i _ Tryz.underlying49 hi h3 .i64 .i64 n n (by omega) (by omega) (by rw [h2]; omega) (by omega)
  rw [this, h1]
  have e : madeCells (Value.slice none 0 0).cells n = hvV g H n 0 := by
    apply Array.ext_getElem?
    intro i
    by_cases h : i < n <;> simp [madeCells, hvV, Value.cells, h, Nat.mod_one]
  simp only [Int.toNat_natCast, Nat.mul_one, e]
/-- the error's ways -/
theorem split_bad (k : Int) (a : Option Addr) (la ca : Nat) (w : World) (E : Nat → Addr) (hE : ErrsE w E) (hla : la ≤ 140737488355328) (h : halfE k la ≠ 0) :
    Calls Tryz.prog 45 #[.int .i64 k, .slice a la ca] w fun e w' => e = .returned (.tuple #[.slice none 0 0, evV E (halfE k la)]) ∧ Below w.heap.size w w' := by
  have HF : Hid _ := half_F k la w E hE (by omega) (by omega)
  have hv := halfV_no h
  rw [hv] at HF
  obtain ⟨s, hs⟩ : ∃ s, evV E (halfE k la) = errAt s := ⟨E (halfE k la - 1), by unfold evV; rw [if_neg h]⟩
  rw [hs] at HF ⊢
  clear hv hs h hE
  unfold errAt at *
  go_enter Tryz.func45, Tryz.ntmps45
  go_wp2_with fail
  refine Calls.mono HF.out ?_
  rintro e w1 ⟨rfl, hb⟩
  have HB : Hid _ := hb
  clear hb
  go_wp2_with fail
  go_ret2
  exact ⟨rfl, HB.out⟩
set_option maxHeartbeats 1000000 in
theorem split_ok (k n ca : Nat) (a : Option Addr) (xs : List F) (w : World) (E : Nat → Addr) (hE : ErrsE w E) (h1 : 1 ≤ k) (h2 : k ≤ 14) (h3 : 1 ≤ n) (h4 : n ≤ 128 * k) (hn : n = xs.length) (hx : Row8 w a xs) :
    Calls Tryz.prog 45 #[.int .i64 k, .slice a n ca] w fun e w' => ∃ hb g c H, e = .returned (.tuple #[.slice (some ⟨hb, 0, none⟩) c c, .nilIface]) ∧ c = 2 * k ∧ H = cntN (2 * k) n ∧ w.heap.size ≤ hb ∧ w.heap.size ≤ g ∧ g ≠ hb ∧
      w'.heap[hb]? = some (.cells (hvV g H c c) 23 (0, 0)) ∧ w'.heap[g]? = some (.cells (vfs (padF (c * H) xs)) 5 (0, 0)) ∧ Below w.heap.size w w' := by
  have HF : Hid _ := half_F k n w E hE (by omega) (by omega)
  rw [halfV_ok h1 h2 h3 h4, halfE_ok h1 h2 h3 h4, evV_zero] at HF
  obtain ⟨k1, k2, k3, k4⟩ := cnt_half h1 h2 h3 h4
  obtain ⟨c, hc⟩ : ∃ c, c = 2 * k := ⟨_, rfl⟩
  rw [← hc] at HF k1 k2 k3 k4
  generalize hH : cntN c n = H at *
  have hcH : c * H ≤ 1792 := Nat.le_trans (Nat.mul_le_mul (show c ≤ 28 by omega) k2) (by decide)
  obtain ⟨m, hm⟩ : ∃ m, m = c * H := ⟨_, rfl⟩
  have HKC : Hid ((2 : Int) * k = c) := by show _ = _; omega
  have HCM : Hid ((c : Int) * H = m) := by show _ = _; rw [hm]; simp
  have HMM : Hid _ := hm
  have HHH : Hid _ := hH
  have HCC : Hid _ := hc
  rw [← hm] at hcH k3
  have hc28 : c ≤ 28 := by omega
  have HK4 : Hid _ := k4
  have HXL : Hid _ := hn
  have HX : Hid _ := hx
  have hmkA := run_makeH (g := 0) (H := 0) c (by omega)
  clear hE h3 h4 hc hm hH k4 hn hx hmkA
  have H28 : Hid _ := fun g w => run_makeH g H c (by omega) w
  have H8 : Hid _ := fun w => run_make8 m (by omega) w
  go_enter Tryz.func45, Tryz.ntmps45
  go_wp2_with fail
  refine Calls.mono HF.out ?_
  rintro e w1 ⟨rfl, hb⟩
  have HB : Hid _ := hb
  clear hb
  have m1 := H28.out (w1.heap.size + 1) w1
  have m2 := H8.out (w1.alloc (.cells (hvV (w1.heap.size + 1) H c 0) 23))
  have hkc := HKC.out
  have hcm := HCM.out
  have hcp := run_copy8 (w1.heap.size + 1) m m a n ca (zeros m) xs ((w1.alloc (.cells (hvV (w1.heap.size + 1) H c 0) 23)).alloc (.cells (vfs (zeros m)) 5)) 3 (by rw [zeros_len]) HXL.out (by rw [zeros_len, ← HXL.out]; exact k3) (by simpa using heap_alloc_last (w1.alloc (.cells (hvV (w1.heap.size + 1) H c 0) 23)) (.cells (vfs (zeros m)) 5)) (row8_alloc (row8_alloc (row8_below HX.out HB.out) _) _)
  rw [pad_eq (by rw [← HXL.out]; exact k3)] at hcp
  have hB0 : Below w.heap.size w ((w1.alloc (.cells (hvV (w1.heap.size + 1) H c 0) 23)).alloc (.cells (vfs (zeros m)) 5)) := (HB.out.alloc HB.out.size _).alloc (by have := HB.out.size; simp; omega) _
  have z1 : w.heap.size ≤ w1.heap.size := HB.out.size
  obtain ⟨W3, hW3⟩ : ∃ W3, W3 = (((w1.alloc (.cells (hvV (w1.heap.size + 1) H c 0) 23)).alloc (.cells (vfs (zeros m)) 5)).setRow (w1.heap.size + 1) (vfs (padF m xs))) := ⟨_, rfl⟩
  rw [← hW3] at hcp
  have B1 : Hid (W3.heap[w1.heap.size]? = some (.cells (hvV (w1.heap.size + 1) H c 0) 23 (0, 0))) := by
    show _ = _
    rw [hW3, setRow_heap_other _ _ _ _ (by omega)]
    exact (Below.heap_alloc _ _ _ (by simp)).trans (heap_alloc_last w1 _)
  have B2 : Hid (W3.heap[w1.heap.size + 1]? = some (.cells (vfs (padF m xs)) 5 (0, 0))) := by
    show _ = _
    rw [hW3]
    exact setRow_heap _ _ _ _ _ _ (by simpa using heap_alloc_last (w1.alloc (.cells (hvV (w1.heap.size + 1) H c 0) 23)) (.cells (vfs (zeros m)) 5))
  have B3 : Hid (Below w.heap.size w W3) := by
    show Below _ _ _
    rw [hW3]
    exact below_row hB0 (by omega) _
  clear hW3 hB0
  have hsz : (w1.alloc (.cells (hvV (w1.heap.size + 1) H c 0) 23)).heap.size = w1.heap.size + 1 := by simp
  go_wp2
  clear hcp m1 m2
  generalize hN : w1.heap.size = N at *
  clear hN hsz
  go_loopw [36] (fun t wr => ∃ v : Nat, v ≤ c ∧ t = .int .i64 v ∧ W3.grownBy wr (some N) ∧ wr.heap[N]? = some (.cells (hvV (N + 1) H c v) 23 (0, 0))) (fun t _ => c - (intOf t).toNat)
  case atStart => exact ⟨0, by omega, rfl, World.grownBy.refl _ _, B1.out⟩
  case round =>
    obtain ⟨v, hv, rfl, hgb, hs⟩ := hrel
    have HG : Hid _ := hgb
    have HS : Hid _ := hs
    by_cases hlt : v < c
    · obtain ⟨p, hp⟩ : ∃ p, p = v * H := ⟨_, rfl⟩
      have hpm : p + H ≤ m := by
        rw [hp, HMM.out]
        have := Nat.mul_le_mul_right H (show v + 1 ≤ c from hlt)
        rw [Nat.succ_mul] at this; omega
      have m4 : (v : Int) * (H : Int) = (p : Int) := by rw [hp]; simp
      have m3 : ((v : Int) + 1) * (H : Int) = (p : Int) + (H : Int) := by rw [Int.add_mul, Int.one_mul, m4]
      have HP : Hid _ := hp
      have c1 := cellAt hs v _ (hvV_next (g := N + 1) (H := H) hlt)
      have c2 : wr.frozen? ⟨N, v, none⟩ = false := frozen_of_row _ _ _ _ _ hs
      have HT : Hid ((wr.setCell ⟨N, v, none⟩ (.slice (some ⟨N + 1, p, none⟩) H H)).heap[N]? = some (.cells (hvV (N + 1) H c (v + 1)) 23 (0, 0))) := by
        show _ = _
        rw [heap_setCell_same _ _ _ _ _ _ hs, hp, hvV_set hlt]
      clear hp hgb hs hkc hcm
      go_wp2
      exact ⟨⟨v + 1, by omega, by go_num, grownBy_setCell HG.out _, HT.out⟩, by simp [intOf]; omega⟩
    · obtain rfl : v = c := by omega
      clear hgb hs
      go_wp2
      go_ret2
      exact ⟨N, N + 1, v, H, rfl, HCC.out, by rw [← HCC.out]; exact HHH.out.symm, by omega, by omega, by omega, HS.out, by rw [← HMM.out]; exact grown_block HG.out B2.out (by omega), below_grown B3.out HG.out (by omega)⟩
/-- what Split tells of a list -/
def SplitAs (k : Int) (n : Nat) (xs : List F) (E : Nat → Addr) (w' : World) (B : Nat) (b : Option Addr) (l cap : Nat) (ev : Value) : Prop :=
  (halfE k n ≠ 0 ∧ b = none ∧ l = 0 ∧ cap = 0 ∧ ev = errAt (E (halfE k n - 1))) ∨
  (halfE k n = 0 ∧ ev = .nilIface ∧ ∃ a hb g H : Nat, k = a ∧ 1 ≤ a ∧ a ≤ 14 ∧ 1 ≤ n ∧ n ≤ 128 * a ∧ b = some ⟨hb, 0, none⟩ ∧ l = 2 * a ∧ cap = 2 * a ∧ H = cntN (2 * a) n ∧ B ≤ hb ∧ B ≤ g ∧ g ≠ hb ∧
    w'.heap[hb]? = some (.cells (hvV g H (2 * a) (2 * a)) 23 (0, 0)) ∧ w'.heap[g]? = some (.cells (vfs (padF (2 * a * H) xs)) 5 (0, 0)))
theorem split_G (k : Int) (n ca : Nat) (a : Option Addr) (xs : List F) (w : World) (E : Nat → Addr) (hE : ErrsE w E) (hn9 : n ≤ 140737488355328) (hn : n = xs.length) (hx : Row8 w a xs) :
    Calls Tryz.prog 45 #[.int .i64 k, .slice a n ca] w fun e w' => ∃ b l cap ev, e = .returned (.tuple #[.slice b l cap, ev]) ∧ SplitAs k n xs E w' w.heap.size b l cap ev ∧ Below w.heap.size w w' := by
  by_cases h : halfE k n = 0
  · obtain ⟨c, m, rfl, hm, h1, h2, h3, h4⟩ := half_ok h
    obtain rfl : n = m := by omega
    exact (split_ok c n ca a xs w E hE h1 h2 h3 h4 hn hx).mono fun e w' ⟨hb, g, d, H, he, hd, hH, l1, l2, l3, q1, q2, hB⟩ => by
      subst hd
      exact ⟨_, _, _, _, he, .inr ⟨h, rfl, c, hb, g, H, rfl, h1, h2, h3, h4, rfl, rfl, rfl, hH, l1, l2, l3, q1, q2⟩, hB⟩
  · refine (split_bad k a n ca w E hE hn9 h).mono fun e w' ⟨he, hB⟩ => ⟨_, _, _, _, he, .inl ⟨h, rfl, rfl, rfl, ?_⟩, hB⟩
    unfold evV; rw [if_neg h]
end Go.Proofs.YtkoakingmnjdoaaGreatDoor

/- What the document's own Half and Stripes answer, of all numbers; nothing that was there turns. -/
namespace Go.Proofs.YtkoakingmnjdoaaGreatDoor
open Go.RowKit Gf
set_option linter.unusedVariables false
set_option maxRecDepth 20000
theorem rhalf_F (k size : Int) (w : World) :
    Calls Tryz.prog 31 #[.int .i64 k, .int .i64 size] w fun e w' => e = .returned (.tuple #[.int .i64 (halfV k size), .int .i64 (halfE k size)]) ∧ w = w' := by
  by_cases hk : OkK k
  · obtain ⟨b1, b2⟩ := hk
    obtain ⟨a, rfl⟩ := Int.eq_ofNat_of_zero_le (show 0 ≤ k by omega)
    have c1 : 1 ≤ a := by omega
    have c2 : a ≤ 14 := by omega
    have g1 : (1 : Int) ≤ a := by omega
    have g2 : (a : Int) ≤ 14 := by omega
    by_cases h1 : size < 1
    · have e1 : halfE a size = 12 := by unfold halfE; rw [if_pos (show OkK a from ⟨by omega, by omega⟩), if_pos h1]
      rw [halfV_no (by rw [e1]; decide), e1]
      clear e1
      go_enter Tryz.func31, Tryz.ntmps31
      go_wp2
      go_ret2
      exact ⟨rfl, rfl⟩
    · obtain ⟨n, rfl⟩ := Int.eq_ofNat_of_zero_le (show 0 ≤ size by omega)
      have d1 : 1 ≤ n := by omega
      have HY : Hid (∀ h : Nat, (h - 1) * (2 * a) < n → n ≤ h * (2 * a) → h ≤ 64 → halfV a n = h ∧ halfE a n = 0) := fun h x1 x2 x3 => by
        have d2 : n ≤ 128 * a := by
          have := Nat.mul_le_mul_right (2 * a) x3
          omega
        exact ⟨by rw [halfV_ok c1 c2 d1 d2]; exact (cnt_eq (by omega) (.inr x1) x2).symm, halfE_ok c1 c2 d1 d2⟩
      have HN : Hid (64 * (2 * a) < n → halfV a n = 0 ∧ halfE a n = 20) := fun x => by
        have e1 : halfE a n = 20 := by unfold halfE; rw [if_pos (show OkK a from ⟨by omega, by omega⟩), if_neg h1, if_pos (by omega)]
        exact ⟨halfV_no (by rw [e1]; decide), e1⟩
      generalize halfV a n = hv at *
      generalize halfE a n = he at *
      clear b1 b2
      go_enter Tryz.func31, Tryz.ntmps31
      go_wp2
      go_loopw [6] (fun t wr => ∃ h : Nat, 1 ≤ h ∧ h ≤ 65 ∧ t = .int .i64 h ∧ Hid ((h - 1) * (2 * a) < n) ∧ wr = w) (fun t _ => 65 - (intOf t).toNat)
      case atStart => exact ⟨1, by omega, by omega, rfl, by show _ < _; omega, rfl⟩
      case round =>
        obtain ⟨h, l1, l2, rfl, HL, rfl⟩ := hrel
        by_cases hlt : h ≤ 64
        · obtain ⟨q, hq⟩ : ∃ q : Nat, q = h * (2 * a) := ⟨_, rfl⟩
          have hq2 : q ≤ 1792 := by
            rw [hq]
            exact Nat.le_trans (Nat.mul_le_mul hlt (show 2 * a ≤ 28 by omega)) (by decide)
          have HQ : Hid ((2 : Int) * a * h = (q : Int)) := by
            show _ = _
            rw [hq, Nat.mul_comm h]; simp
          have HQ2 : Hid _ := hq
          by_cases hx : n ≤ q
          · obtain ⟨r1, r2⟩ := HY.out h HL.out (by rw [← hq]; exact hx) hlt
            subst r1 r2
            have hx' : (n : Int) ≤ q := by omega
            clear hq
            have hqq := HQ.out
            go_wp2
            go_ret2
            exact ⟨rfl, rfl⟩
          · have hx' : ¬ (n : Int) ≤ q := by omega
            clear hq
            have hqq := HQ.out
            go_wp2
            exact ⟨⟨h + 1, by omega, by omega, by go_num, by show _ < _; rw [Nat.add_sub_cancel, ← HQ2.out]; omega, trivial⟩, by simp [intOf]; omega⟩
        · obtain rfl : h = 65 := by omega
          obtain ⟨r1, r2⟩ := HN.out HL.out
          subst r1 r2
          go_wp2
          go_ret2
          exact ⟨rfl, rfl⟩
  · have e1 : halfE k size = 1 := by unfold halfE; rw [if_neg hk]
    rw [halfV_no (by rw [e1]; decide), e1]
    clear e1
    by_cases h1 : k < 1
    · go_enter Tryz.func31, Tryz.ntmps31
      go_wp2
      go_ret2
      exact ⟨rfl, rfl⟩
    · have h2 : 14 < k := by simp only [OkK] at hk; omega
      clear hk
      go_enter Tryz.func31, Tryz.ntmps31
      go_wp2
      go_ret2
      exact ⟨rfl, rfl⟩
end Go.Proofs.YtkoakingmnjdoaaGreatDoor

/- The chapter's worked answers of package shards hold: the function 'alive' of the statements returns true; a half lies within its block. -/
namespace Go.Proofs.YtkoakingmnjdoaaGreatDoor
open Go.RowKit Gf
set_option linter.unusedVariables false
set_option maxRecDepth 20000
theorem row8_half {w : World} {g H c v : Nat} {xs : List F} {t : TypeId} {fr : Nat × Nat} (h : w.heap[g]? = some (.cells (vfs (padF (c * H) xs)) t fr)) (hv : v < c) : Row8 w (some ⟨g, v * H, none⟩) (hf H xs v) :=
  .inr ⟨g, v * H, rfl, fun j hj => by
    rw [hf_len] at hj
    have hlt := place_lt (c := H) hv hj
    rw [cell_of_row _ _ _ _ _ _ h, vfs_get _ _ (by rw [padF_len]; exact hlt), at8_padF hlt, hf, at8_rowF hj]⟩
theorem heap_alloc_any (w : World) (o : Obj) : (w.alloc o).heap[w.heap.size]? = some o := by show (w.heap.push o)[w.heap.size]? = _; simp
theorem alive6_1 : hf 2 [97, 98, 99, 100, 101] 1 = [99, 100] := by decide +kernel
theorem alive6_2 : hf 2 [97, 98, 99, 100, 101] 2 = [101, 0] := by decide +kernel
end Go.Proofs.YtkoakingmnjdoaaGreatDoor

/- What Join of package shards answers, of all lists of halves; nothing that was there turns. -/
namespace Go.Proofs.YtkoakingmnjdoaaGreatDoor
open Go.RowKit Gf
set_option linter.unusedVariables false
set_option maxRecDepth 20000
/-- halves in form -/
def FitP (c h : Nat) (L : List (List F)) : Prop := L.length = c ∧ ∀ xs ∈ L, xs.length = h
theorem rows8_at {w : World} {a : Option Addr} {L : List (List F)} {j : Nat} (h : Rows8 w a L) (hj : j < L.length) : ∃ b off, a = some ⟨b, off, none⟩ ∧ b < w.heap.size ∧ ∀ j xs, L[j]? = some xs → ∃ a' cap', w.cell? ⟨b, off + j, none⟩ = some (.slice a' xs.length cap') ∧ Row8 w a' xs := by
  rcases h with rfl | ⟨b, off, rfl, h⟩
  · simp at hj
  · obtain ⟨a', cap', h1, _⟩ := h j _ (List.getElem?_eq_getElem hj)
    exact ⟨b, off, rfl, by simpa using World.block_lt_of_cell? w _ h1, h⟩
theorem run_make8_cap (n : Nat) (hn : n ≤ 140737488351232) (w : World) :
    (Instr.makeSlice 23 (.int .i64 0) (.int .i64 (n : Int))).run Tryz.prog w = .ok (.slice (some ⟨w.heap.size, 0, none⟩) 0 n) (w.alloc (.cells (vfs (zeros n)) 5)) := by
  obtain ⟨i, hi, h1, h2, h3⟩ := info8
  have := run_make (P := Tryz.prog) w 23 5 i _ Tryz.underlying23 hi h3 .i64 .i64 0 (n : Int) (by omega) (by omega) (by rw [h2]; omega) (by omega)
  rw [this, h1]
  simp only [Int.toNat_natCast, Nat.mul_one, made8, Int.toNat_zero]
/-- the first halves, one behind the other, and room -/
theorem joinP_step {c k : Nat} {L : List (List F)} {xs : List F} (h : ∀ xs ∈ L, xs.length = c) (hx : L[k]? = some xs) :
    (L.take k).flatten ++ xs ++ (zeros ((L.length - k) * c)).drop xs.length = ofP c L (k + 1) ∧ (L.take k).flatten.length = k * c := by
  have hk : k < L.length := (List.getElem?_eq_some_iff.1 hx).1
  have hl : (L.take k).flatten.length = k * c := by
    rw [flat_len (c := c) (fun x hx => h x (List.mem_of_mem_take hx)), List.length_take, Nat.min_eq_left (by omega)]
  have hxl : xs.length = c := h xs (List.mem_of_getElem? hx)
  have hd : L[k] = xs := (List.getElem?_eq_some_iff.1 hx).2
  refine ⟨?_, hl⟩
  rw [zeros_drop, ofP, List.take_succ_eq_append_getElem hk, List.flatten_append, hd, hxl]
  simp only [List.flatten_cons, List.flatten_nil, List.append_nil]
  congr 2
  rw [show L.length - k = (L.length - (k + 1)) + 1 from by omega, Nat.succ_mul]; omega
end Go.Proofs.YtkoakingmnjdoaaGreatDoor

/- Plain algebra of stage 7: lists of bytes as functions; all halves of a stripe. -/
namespace Go.Proofs.YtkoakingmnjdoaaGreatDoor
open Go.RowKit Gf
set_option linter.unusedVariables false
set_option maxRecDepth 20000
/-- the bytes of lists of bytes -/
def bytesD (L : List (List F)) : Nat → Nat → F := fun v b => at8 (L.getD v []) b
/-- a stripe's data halves' bytes -/
def strD (H : Nat) (xs : List F) : Nat → Nat → F := fun v b => at8 xs (v * H + b)
theorem img_stripe {k H h c : Nat} {car : Nat → Nat} {xs : List F} (hc : 2 * k ≤ c) : imgL k car H (bytesD ((List.range c).map (hf H xs))) h = imgL k car H (strD H xs) h :=
  img_congr fun v b hv hb => by
    simp only [bytesD, List.getD_eq_getElem?_getD, List.getElem?_map]
    rw [List.getElem?_range (by omega)]
    exact at8_rowF hb
/-- all halves of a stripe -/
def encL (k r H : Nat) (xs : List F) : List (List F) := (List.range (2 * (k + r))).map (imgL k (carN (groupN k r)) H (strD H xs))
theorem encL_len (k r H : Nat) (xs : List F) : (encL k r H xs).length = 2 * (k + r) := by simp [encL]
theorem encL_all {k r H : Nat} {xs ys : List F} (h : ys ∈ encL k r H xs) : ys.length = H := by
  obtain ⟨v, _, rfl⟩ := List.mem_map.1 h
  exact imgL_len _ _ _ _ _
theorem encL_at {k r H h : Nat} {xs : List F} (hh : h < 2 * (k + r)) : (encL k r H xs)[h]? = some (imgL k (carN (groupN k r)) H (strD H xs) h) := by simp [encL, hh]
end Go.Proofs.YtkoakingmnjdoaaGreatDoor

/- What combine of package code answers, of all matrices in form and as many lists of one size as columns; nothing that was there turns. -/
namespace Go.Proofs.YtkoakingmnjdoaaGreatDoor
open Go.RowKit Gf
set_option linter.unusedVariables false
set_option maxRecDepth 20000
/-- lists as values, each in a block of its own -/
def rowsP (H : Nat) (gs : List (Nat × Nat)) : List Value := gs.map fun p => .slice (some ⟨p.1, 0, none⟩) H p.2
theorem rowsP_len (H : Nat) (gs : List (Nat × Nat)) : (rowsP H gs).length = gs.length := by simp [rowsP]
theorem rowsP_snoc (H : Nat) (gs : List (Nat × Nat)) (g cap : Nat) : rowsP H gs ++ [.slice (some ⟨g, 0, none⟩) H cap] = rowsP H (gs ++ [(g, cap)]) := by simp [rowsP]
theorem rowsP_at {H i : Nat} {gs : List (Nat × Nat)} {p : Nat × Nat} (h : gs[i]? = some p) : (rowsP H gs)[i]? = some (.slice (some ⟨p.1, 0, none⟩) H p.2) := by simp [rowsP, h]
/-- what row i of a combination is, byte by byte -/
def combL (c H : Nat) (xs : List F) (L : List (List F)) (i : Nat) : List F := rowF H (fun b => sumF (fun v => gm (at8 xs (i * c + v)) (bytesD L v b)) c)
theorem combL_len (c H : Nat) (xs : List F) (L : List (List F)) (i : Nat) : (combL c H xs L i).length = H := rowF_len _ _
/-- rows in blocks of their own, the later the higher -/
def RowsP (w : World) (B : Nat) (gs : List (Nat × Nat)) (f : Nat → List F) : Prop :=
  (∀ (i : Nat) (p : Nat × Nat), gs[i]? = some p → B ≤ p.1 ∧ Has8 w p.1 (f i) p.2) ∧ ∀ (i j : Nat) (p q : Nat × Nat), i < j → gs[i]? = some p → gs[j]? = some q → p.1 < q.1
theorem rowsP_nil (w : World) (B : Nat) (f : Nat → List F) : RowsP w B [] f := ⟨fun i p h => by simp at h, fun i j p q _ h => by simp at h⟩
theorem has8_later {w w' : World} {g cap : Nat} {xs : List F} (h : Has8 w g xs cap) (hb : Below w.heap.size w w') : Has8 w' g xs cap := by
  obtain ⟨cur, h1, h2⟩ := h
  exact ⟨cur, heap_later h1 hb, h2⟩
theorem has8_set_other {w : World} {g cap M j : Nat} {xs : List F} {v : Value} (h : Has8 w g xs cap) (hne : g ≠ M) : Has8 (w.setCell ⟨M, j, none⟩ v) g xs cap := by
  obtain ⟨cur, h1, h2⟩ := h
  exact ⟨cur, (heap_setCell_other _ _ _ _ hne).trans h1, h2⟩
theorem has8_lt {w : World} {g cap : Nat} {xs : List F} (h : Has8 w g xs cap) : g < w.heap.size := by
  obtain ⟨cur, h1, _⟩ := h
  exact ltHeap h1
theorem rowsP_below {w w' : World} {B : Nat} {gs : List (Nat × Nat)} {f : Nat → List F} (h : RowsP w B gs f) (hb : Below w.heap.size w w') : RowsP w' B gs f :=
  ⟨fun i p hp => ⟨(h.1 i p hp).1, has8_later (h.1 i p hp).2 hb⟩, h.2⟩
theorem rowsP_step {w w' : World} {B M g cap : Nat} {v : Value} {gs : List (Nat × Nat)} {f : Nat → List F} (h : RowsP w B gs f) (hb : Below w.heap.size w w') (hg : w.heap.size ≤ g) (hB : B ≤ g) (hM : M < w.heap.size) (hMg : ∀ (i : Nat) (p : Nat × Nat), gs[i]? = some p → p.1 ≠ M) (hr : Has8 w' g (f gs.length) cap) :
    RowsP (w'.setCell ⟨M, gs.length, none⟩ v) B (gs ++ [(g, cap)]) f := by
  refine ⟨fun i p hp => ?_, fun i j p q hij hp hq => ?_⟩
  · by_cases hi : i < gs.length
    · rw [List.getElem?_append_left hi] at hp
      exact ⟨(h.1 i p hp).1, has8_set_other (has8_later (h.1 i p hp).2 hb) (hMg i p hp)⟩
    · have e := (List.getElem?_eq_some_iff.1 hp).1
      simp at e
      obtain rfl : i = gs.length := by omega
      rw [List.getElem?_append_right (Nat.le_refl _), Nat.sub_self] at hp
      obtain rfl := Option.some.inj hp
      exact ⟨hB, has8_set_other hr (by show g ≠ M; omega)⟩
  · have ej := (List.getElem?_eq_some_iff.1 hq).1
    simp at ej
    rw [List.getElem?_append_left (by omega)] at hp
    by_cases hj : j < gs.length
    · rw [List.getElem?_append_left hj] at hq
      exact h.2 i j p q hij hp hq
    · obtain rfl : j = gs.length := by omega
      rw [List.getElem?_append_right (Nat.le_refl _), Nat.sub_self] at hq
      obtain rfl := Option.some.inj hq
      have := has8_lt (h.1 i p hp).2
      show p.1 < g
      omega
theorem rowsP_rows {w : World} {B M H R : Nat} {gs : List (Nat × Nat)} {f : Nat → List F} (h : RowsP w B gs f) (hl : gs.length = R) (hf : ∀ i, (f i).length = H) (hM : w.heap[M]? = some (.cells (slW (rowsP H gs) R) 23 (0, 0))) : Rows8 w (some ⟨M, 0, none⟩) ((List.range R).map f) := by
  refine .inr ⟨M, 0, rfl, fun j xs hj => ?_⟩
  have hjR : j < R := by have := (List.getElem?_eq_some_iff.1 hj).1; simpa using this
  rw [List.getElem?_map, List.getElem?_range hjR] at hj
  obtain rfl := Option.some.inj hj
  have hg : gs[j]? = some gs[j] := List.getElem?_eq_getElem (by omega)
  refine ⟨some ⟨gs[j].1, 0, none⟩, gs[j].2, ?_, row8_has (h.1 j _ hg).2⟩
  rw [Nat.zero_add, hf]
  exact cellAt hM j _ (slW_at (rowsP_at hg))
theorem comb_row {R c H i : Nat} {xs : List F} {L : List (List F)} (hi : i < R) (hL : L.length = c) (hLH : ∀ ys ∈ L, ys.length = H) : rowAt H (mulM c H xs L.flatten R) i = combL c H xs L i := by
  rw [mulM, rowAt_grid hi]
  refine rowF_congr fun b hb => sumF_congr fun v hv => ?_
  rw [bytesD, flat_at hLH (by omega) hb]
set_option maxHeartbeats 4000000 in
theorem ccomb_F (R c H l cap lh ch : Nat) (a ah : Option Addr) (xs : List F) (L : List (List F)) (w : World) (hR : R ≤ 64) (hc1 : 1 ≤ c) (hc : c ≤ 64) (hH : H ≤ 64) (hl : l = R * c) (hx : xs.length = R * c) (hcap : l ≤ cap) (hX : Row8 w a xs)
    (hlh : lh = c) (hL : L.length = c) (hLH : ∀ ys ∈ L, ys.length = H) (hLX : Rows8 w ah L) :
    Calls Tryz.prog 46 #[.agg #[.int .i64 R, .int .i64 c, .slice a l cap], .slice ah lh ch] w fun e w' => ∃ M gs, e = .returned (.tuple #[.slice (some ⟨M, 0, none⟩) R R, .nilIface]) ∧ w.heap.size ≤ M ∧ gs.length = R ∧
      w'.heap[M]? = some (.cells (slW (rowsP H gs) R) 23 (0, 0)) ∧ RowsP w' w.heap.size gs (combL c H xs L) ∧ Below w.heap.size w w' := by
  have HL : Hid (l = R * c) := hl
  have HX : Hid (xs.length = R * c) := hx
  have HRX : Hid (Row8 w a xs) := hX
  have HLL : Hid (L.length = c) := hL
  have HLH : Hid (∀ ys ∈ L, ys.length = H) := hLH
  have HLX : Hid (Rows8 w ah L) := hLX
  have HLc : Hid (lh = c) := hlh
  obtain ⟨b, off, rfl, hb0, hcl⟩ := rows8_at hLX (show 0 < L.length by omega)
  obtain ⟨a0, cap0, e0, -⟩ := hcl 0 _ (List.getElem?_eq_getElem (by omega))
  rw [hLH _ (List.getElem_mem _), Nat.add_zero] at e0
  have hlh0 : 0 < lh := by omega
  have hmk := run_makeS R hR
  rw [slW_nil] at hmk
  have hA := holds_new (holds_nil w) #[.int .i64 R, .int .i64 c, .slice a l cap] 73
  have HB1 : Hid (Below w.heap.size w (w.alloc (.cells #[.int .i64 R, .int .i64 c, .slice a l cap] 73))) := (Below.refl w.heap.size w).alloc (Nat.le_refl _) _
  have e1 := cell_later HB1.out e0
  have HA : Hid _ := hA
  clear hl hx hX hL hLH hLX hcl e0 hA hlh
  go_enter Tryz.func46, Tryz.ntmps46
  go_wp2_with fail
  refine Calls.mono (of_F H lh ch _ L _ hH (by have h1 := HLL.out; have h2 := HLc.out; omega) (by have := HLc.out; omega) HLH.out (rows8_below HLX.out HB1.out)) ?_
  rintro e w2 ⟨g2, n2, rfl, hn2, hg2, hh2, hb2⟩
  have HB2 : Hid (Below w.heap.size w w2) := HB1.out.trans (hb2.mono HB1.out.size)
  have HA2 : Hid _ := holds_cons (holds_later HA.out hb2) hh2
  have HN2 : Hid (n2 = lh * H) := hn2
  clear hb2 hh2 hn2 e1 HA HB1
  have c0 := cellAt (holds_at HA2.out 1 rfl) 0 _ rfl
  have c1 := cellAt (holds_at HA2.out 1 rfl) 1 _ rfl
  have c2 := cellAt (holds_at HA2.out 1 rfl) 2 _ rfl
  have HA3 : Hid _ := holds_new HA2.out #[.int .i64 lh, .int .i64 H, .slice (some ⟨g2, 0, none⟩) n2 n2] 73
  have HB3 : Hid _ := HB2.out.alloc HB2.out.size (.cells #[.int .i64 lh, .int .i64 H, .slice (some ⟨g2, 0, none⟩) n2 n2] 73)
  have z2 := ltHeap (holds_at HA2.out 1 rfl)
  have HFL : Hid (L.flatten.length = c * H) := by show _ = _; rw [flat_len HLH.out, HLL.out]
  clear HA2 HB2
  go_wp2_with fail
  obtain rfl : lh = c := HLc.out
  refine Calls.mono (product_F R lh H l cap n2 n2 a (some ⟨g2, 0, none⟩) xs L.flatten _ hR hc hH HL.out HX.out hcap (row8_below HRX.out HB3.out) HN2.out HFL.out (Nat.le_refl _) (holds_row HA3.out 1 rfl)) ?_
  rintro e w4 ⟨g4, n4, rfl, hn4, hg4, hh4, hb4⟩
  have HB4 : Hid (Below w.heap.size w w4) := HB3.out.trans (hb4.mono HB3.out.size)
  have HH4 : Hid (w4.heap[g4]? = some (.cells (vfs (mulM lh H xs L.flatten R)) 5 (0, 0))) := hh4
  have HN4 : Hid (n4 = R * H) := hn4
  clear hb4 hh4 hn4 c0 c1 c2 z2 HA3 HB3 hg2 hg4 HN2 HFL
  go_wp2
  have hz4 := HB4.out.size
  have hA5 := holds_new (holds_new (holds_cons (holds_nil w4) HH4.out) #[.int .i64 R, .int .i64 H, .slice (some ⟨g4, 0, none⟩) n4 n4] 73) (slW [] R) 23
  rw [World.size_alloc] at hA5
  have HB5 : Hid (Below w.heap.size w ((w4.alloc (.cells #[.int .i64 R, .int .i64 H, .slice (some ⟨g4, 0, none⟩) n4 n4] 73)).alloc (.cells (slW [] R) 23))) := (HB4.out.alloc hz4 _).alloc (by simp; omega) _
  have HA5 : Hid _ := hA5
  clear hA5 HB4 HH4 hmk
  generalize ((w4.alloc (.cells #[.int .i64 R, .int .i64 H, .slice (some ⟨g4, 0, none⟩) n4 n4] 73)).alloc (.cells (slW [] R) 23)) = W5 at *
  generalize hP : w4.heap.size = P at *
  generalize hM : P + 1 = M at *
  have hM0 : w.heap.size ≤ M := by omega
  have hPM : P ≠ M := by omega
  have hgM : g4 ≠ M := kind_ne (holds_at HA5.out 2 rfl) (holds_at HA5.out 0 rfl) (by decide)
  clear hP hM
  go_loopw [37] (fun i wr => ∃ j : Nat, ∃ gs : List (Nat × Nat), j ≤ R ∧ i = .int .i64 j ∧ gs.length = j ∧ Below w.heap.size w wr ∧
    Holds wr [(M, .cells (slW (rowsP H gs) R) 23 (0, 0)), (P, .cells #[.int .i64 R, .int .i64 H, .slice (some ⟨g4, 0, none⟩) n4 n4] 73 (0, 0)), (g4, .cells (vfs (mulM lh H xs L.flatten R)) 5 (0, 0))] ∧
    RowsP wr w.heap.size gs (combL lh H xs L)) (fun i _ => R - (intOf i).toNat)
  case atStart => exact ⟨0, [], by omega, rfl, rfl, HB5.out, HA5.out, rowsP_nil _ _ _⟩
  case round =>
    obtain ⟨j, gs, hj, rfl, hgs, hb, hh, hrows⟩ := hrel
    have HB : Hid _ := hb
    have HH : Hid _ := hh
    have HR : Hid (RowsP wr w.heap.size gs (combL lh H xs L)) := hrows
    have HGS : Hid (gs.length = j) := hgs
    clear hb hh hrows hgs
    by_cases hlt : j < R
    · have c0 := cellAt (holds_at HH.out 1 rfl) 0 _ rfl
      have c1 := cellAt (holds_at HH.out 1 rfl) 1 _ rfl
      have c2 := cellAt (holds_at HH.out 1 rfl) 2 _ rfl
      go_wp2_with fail
      refine Calls.mono (row_F R H n4 n4 j (some ⟨g4, 0, none⟩) (mulM lh H xs L.flatten R) _ hR hH HN4.out (mulM_len _ _ _ _ _) (Nat.le_refl _) (holds_row HH.out 2 rfl) (fun h => by cases h) hlt) ?_
      rintro e w6 ⟨a6, cap6, rfl, _, _, hg6, hb6⟩
      obtain ⟨g6, rfl, hg6, hr6⟩ := hg6 (by simp)
      rw [comb_row hlt HLL.out HLH.out] at hr6
      have hz := HB.out.size
      have hlM := ltHeap (holds_at HH.out 0 rfl)
      have hs6 := heap_later (holds_at HH.out 0 rfl) hb6
      have hg6M : g6 ≠ M := by omega
      have hS := HGS.out
      have c7 : w6.cell? ⟨M, j, none⟩ = some (.slice none 0 0) := cellAt hs6 j _ (by have e := slW_next (vs := rowsP H gs) (r := R) (by rw [rowsP_len, hS]; exact hlt); rwa [rowsP_len, hS] at e)
      have c8 : w6.frozen? ⟨M, j, none⟩ = false := frozen_of_row _ _ _ _ _ hs6
      have HRX' : Hid (RowsP (w6.setCell ⟨M, j, none⟩ (.slice (some ⟨g6, 0, none⟩) H cap6)) w.heap.size (gs ++ [(g6, cap6)]) (combL lh H xs L)) := by
        have := rowsP_step (v := .slice (some ⟨g6, 0, none⟩) H cap6) (M := M) (cap := cap6) HR.out hb6 hg6 (by omega) hlM (fun i p hp => by
          obtain ⟨cur, h1, _⟩ := (HR.out.1 i p hp).2
          exact kind_ne h1 (holds_at HH.out 0 rfl) (by decide)) (by rw [hS]; exact hr6)
        rwa [hS] at this
      have HT6 : Hid ((w6.setCell ⟨M, j, none⟩ (.slice (some ⟨g6, 0, none⟩) H cap6)).heap[M]? = some (.cells (slW (rowsP H (gs ++ [(g6, cap6)])) R) 23 (0, 0))) := by
        show _ = _
        have e := slW_set (.slice (some ⟨g6, 0, none⟩) H cap6) (vs := rowsP H gs) (r := R) (by rw [rowsP_len, hS]; exact hlt)
        rw [rowsP_len, hS, rowsP_snoc] at e
        rw [heap_setCell_same _ _ _ _ _ _ hs6, e]
      have hX0 := holds_later HH.out hb6
      have HHX : Hid (Holds (w6.setCell ⟨M, j, none⟩ (.slice (some ⟨g6, 0, none⟩) H cap6)) [(M, .cells (slW (rowsP H (gs ++ [(g6, cap6)])) R) 23 (0, 0)), (P, .cells #[.int .i64 R, .int .i64 H, .slice (some ⟨g4, 0, none⟩) n4 n4] 73 (0, 0)), (g4, .cells (vfs (mulM lh H xs L.flatten R)) 5 (0, 0))]) :=
        holds_cons (holds_cons (holds_cons (holds_nil _) ((heap_setCell_other _ _ _ _ hgM).trans (holds_at hX0 2 rfl))) ((heap_setCell_other _ _ _ _ hPM).trans (holds_at hX0 1 rfl))) HT6.out
      have HBX : Hid (Below w.heap.size w (w6.setCell ⟨M, j, none⟩ (.slice (some ⟨g6, 0, none⟩) H cap6))) := (HB.out.trans (hb6.mono HB.out.size)).setCell (by show w.heap.size ≤ M; omega) _
      clear hs6 hb6 hr6 hX0 c0 c1 c2 hS
      go_wp2
      exact ⟨⟨j + 1, gs ++ [(g6, cap6)], by omega, by go_num, by simp [HGS.out], HBX.out, HHX.out, HRX'.out⟩, by simp [intOf]; omega⟩
    · obtain rfl : j = R := by omega
      go_wp2
      go_ret2
      exact ⟨M, gs, rfl, hM0, HGS.out, holds_at HH.out 0 rfl, HR.out, HB.out⟩
end Go.Proofs.YtkoakingmnjdoaaGreatDoor

/- What small numbers in decimal, and names of halves, answer: the library's Itoa, nameOf, Name, Parse of package half, the document's own Number and Name; nothing that was there turns. -/
namespace Go.Proofs.YtkoakingmnjdoaaGreatDoor
open Go.RowKit Gf
set_option linter.unusedVariables false
set_option maxRecDepth 20000
/-- a number below a hundred in decimal -/
def numB (n : Nat) : List UInt8 := if n < 10 then [UInt8.ofNat (48 + n)] else [UInt8.ofNat (48 + n / 10), UInt8.ofNat (48 + n % 10)]
/-- bytes as a string -/
def strB (l : List UInt8) : ByteArray := ⟨l.toArray⟩
theorem numB_dec {n : Nat} (h : n < 100) : Lib.decDigits n = numB n := by
  by_cases h1 : n < 10
  · rw [Lib.decDigits_one h1, numB, if_pos h1]
  · rw [Lib.decDigits_two h1 h, numB, if_neg h1]
theorem small_ba (x : ByteArray) (l : List UInt8) (h : x.data.toList = l) : x = strB l := by
  subst h
  cases x
  simp [strB]
theorem extr_data (x : ByteArray) (i j : Nat) : (x.extract i j).data.toList = (x.data.toList.drop i).take (j - i) := by
  simp [ByteArray.data_extract]
/-- a half's name -/
def nameB (k h : Nat) : List UInt8 := (if h / 2 < k then 100 :: numB (h / 2) else 112 :: numB (h / 2 - k)) ++ [if h % 2 = 0 then 97 else 98]
theorem ab0 : (⟨#[97, 98]⟩ : ByteArray).extract 0 1 = strB [97] := by decide +kernel
theorem ab1 : (⟨#[97, 98]⟩ : ByteArray).extract 1 2 = strB [98] := by decide +kernel
theorem strB_app (a b : List UInt8) : strB a ++ strB b = strB (a ++ b) := by
  apply ByteArray.ext
  simp [strB]
theorem strB_size (l : List UInt8) : (strB l).size = l.length := by simp [strB, ByteArray.size]
theorem numB_size (n : Nat) : (strB (numB n)).size ≤ 2 := by
  rw [strB_size, numB]
  split <;> simp
theorem strB_one (c : UInt8) : (⟨#[c]⟩ : ByteArray) = strB [c] := rfl
theorem strB_nil : (⟨#[]⟩ : ByteArray) = strB [] := rfl
theorem strB_inj {a b : List UInt8} (h : strB a = strB b) : a = b := by
  have := congrArg (fun x => x.data.toList) h
  simpa [strB] using this
def dig (d : Nat) : UInt8 := UInt8.ofNat (48 + d)
theorem numB_one {n : Nat} (h : n < 10) : numB n = [dig n] := if_pos h
theorem numB_two {n : Nat} (h : ¬ n < 10) : numB n = [dig (n / 10), dig (n % 10)] := if_neg h
theorem strB_list (l : List UInt8) : (strB l).toList = l := by simp [strB]
theorem strB_some {l : List UInt8} (h : l ≠ []) : (strB l).toList.isEmpty = false := by rw [strB_list]; cases l with | nil => exact absurd rfl h | cons => rfl
theorem numB_ne (n : Nat) : numB n ≠ [] := by rw [numB]; split <;> simp
def emptyN : Value → Nat | .string b => if b.size = 0 then 1 else 0 | _ => 0
theorem vf_digit {d : Nat} (h : d < 10) : Value.int .u8 (48 + (d : Int)) = vf (dig d) := by
  have : (UInt8.ofNat (48 + d)).toNat = 48 + d := by rw [UInt8.toNat_ofNat']; omega
  simp only [vf, dig, this]
  simp
theorem conv_digit {d : Nat} (h : d < 10) (w : World) : (convert 23 9 (.slice (some ⟨w.heap.size, 0, none⟩) 1 1)).run Tryz.prog (w.alloc (.cells #[.int .u8 (48 + (d : Int))] 5)) = .ok (.string (strB [dig d])) (w.alloc (.cells #[.int .u8 (48 + (d : Int))] 5)) := by
  rw [vf_digit h]
  exact conv8 (xs := [dig d]) rfl (row8_own (heap_alloc_last w (.cells (vfs [dig d]) 5)))
end Go.Proofs.YtkoakingmnjdoaaGreatDoor

/- What Name and Parse of package half answer, at all numbers and texts; unlike halves have unlike names; nothing that was there turns. -/
namespace Go.Proofs.YtkoakingmnjdoaaGreatDoor
open Go.RowKit Gf
set_option linter.unusedVariables false
set_option maxRecDepth 20000
theorem strB_eq {a b : List UInt8} (h : a = b) : ((strB a).toList == (strB b).toList) = true := by rw [h]; exact beq_self_eq_true _
theorem strB_ne {a b : List UInt8} (h : ¬ a = b) : ((strB a).toList == (strB b).toList) = false := by rw [strB_list, strB_list]; exact beq_eq_false_iff_ne.2 h
theorem nameB_inj : ∀ k < 15, ∀ h < 32, ∀ j < 32, nameB k h = nameB k j → h = j := by decide +kernel
theorem nameB_len : ∀ k < 15, ∀ h < 32, 3 ≤ (nameB k h).length ∧ (nameB k h).length ≤ 4 := by decide +kernel
/-- which half a name is -/
def ParsedAs (k n : Nat) (l : List UInt8) (s : Addr) (v : Value) : Prop :=
  (∃ h : Nat, h < n ∧ nameB k h = l ∧ v = .tuple #[.int .i64 h, .nilIface]) ∨ (∀ h, h < n → nameB k h ≠ l) ∧ v = .tuple #[.int .i64 0, errAt s]
end Go.Proofs.YtkoakingmnjdoaaGreatDoor

/- What Row of package half answers, and Rows of numbers that aren't legal; alive of stage 5; nothing that was there turns. -/
namespace Go.Proofs.YtkoakingmnjdoaaGreatDoor
open Go.RowKit Gf
set_option linter.unusedVariables false
set_option maxRecDepth 20000
set_option maxHeartbeats 1000000 in
theorem hrows_bad (k r : Int) (w : World) (s : Addr) (hs : w.cell? ⟨0, 0, none⟩ = some (errAt s)) (hk0 : -9223372036854775808 ≤ k) (hk1 : k ≤ 9223372036854775807) (hr0 : -9223372036854775808 ≤ r) (hr1 : r ≤ 9223372036854775807) (h : ¬ LegalP k r) :
    Calls Tryz.prog 44 #[.int .i64 k, .int .i64 r] w fun e w' => e = .returned (.tuple #[.agg #[.int .i64 0, .int .i64 0, .slice none 0 0], errAt s]) ∧ Below w.heap.size w w' := by
  have HB0 : Hid _ := (Below.refl w.heap.size w).alloc (Nat.le_refl _) (.cells #[.int .i64 0, .int .i64 0, .slice none 0 0] 73)
  have HA0 : Hid _ := holds_new (holds_nil w) #[.int .i64 0, .int .i64 0, .slice none 0 0] 73
  have HS : Hid _ := cell_later HB0.out hs
  have H : Hid _ := h
  clear h hs
  unfold errAt at *
  go_enter Tryz.func44, Tryz.ntmps44
  go_wp2_with fail
  refine Calls.mono (generator_bad k r _ s HS.out hk0 hk1 hr0 hr1 H.out) ?_
  unfold errAt
  rintro e w1 ⟨rfl, hb1⟩
  have HA1 : Hid _ := holds_alloc (holds_later HA0.out hb1) (.cells #[.int .i64 0, .int .i64 0, .slice none 0 0] 73)
  have hB1 := HB0.out.trans (hb1.mono HB0.out.size)
  have HB1 : Hid _ := hB1.alloc hB1.size (.cells #[.int .i64 0, .int .i64 0, .slice none 0 0] 73)
  have zz := hb1.size
  have k2 := holds_at (holds_later HA0.out hb1) 0 rfl
  have d4 : w1.frozen? ⟨w.heap.size, 0, none⟩ = false := frozen_of_row _ _ _ _ _ k2
  have d5 : w1.frozen? ⟨w.heap.size, 1, none⟩ = false := frozen_of_row _ _ _ _ _ k2
  have d6 : w1.frozen? ⟨w.heap.size, 2, none⟩ = false := frozen_of_row _ _ _ _ _ k2
  have c4 := cellAt k2 0 _ rfl
  have c5 := cellAt k2 1 _ rfl
  have c6 := cellAt k2 2 _ rfl
  have z4 := ltHeap k2
  have hbX : Hid _ := hb1
  clear hb1 hB1 k2
  go_wp2
  refine bodyPost_ret (v := .tuple #[.agg #[.int .i64 0, .int .i64 0, .slice none 0 0], .iface 191 (.pointer (some s))]) (by simp [results, Tryz.results44, go_sem, c4, c5, c6, z4]) rfl ⟨rfl, ?_⟩
  have hX := (((HB0.out.trans (hbX.out.mono HB0.out.size)).setCell (p := ⟨w.heap.size, 0, none⟩) (Nat.le_refl _) (.int .i64 0)).setCell (p := ⟨w.heap.size, 1, none⟩) (Nat.le_refl _) (.int .i64 0)).setCell (p := ⟨w.heap.size, 2, none⟩) (Nat.le_refl _) (.slice none 0 0)
  exact hX.alloc hX.size _
theorem rowAt_half {k r h : Nat} (hh : h < 2 * (k + r)) : rowAt (2 * k) (halfM k r) h = rowF (2 * k) (halfF k (carN (groupN k r)) h) := rowAt_grid hh
theorem alive5_row : rowF (2 * 1) (halfF 1 (carN (groupN 1 2)) 5) = [1, 142] := by decide +kernel
theorem alive5_name : strB (nameB 4 9) = ⟨#[112, 48, 98]⟩ := by decide +kernel
end Go.Proofs.YtkoakingmnjdoaaGreatDoor

/- What SameLists answers of two lists that are the same, and what Apart answers of two pieces of memory that lie apart: the second one is written over. -/
namespace Go.Proofs.YtkoakingmnjdoaaGreatDoor
open Go.RowKit Gf
set_option linter.unusedVariables false
set_option maxRecDepth 20000
/-- turned as far as byte o + k -/
theorem flTo_len' (xs : List F) (k : Nat) : (flTo xs k).length = xs.length := flTo_len xs k
theorem append8_growsAt {w : World} {g o n cap : Nat} {xs ys : List F} {ad : Addr} {m c : Nat} (ty : TypeId) (hx : Row8 w (some ⟨g, o, none⟩) xs) (hn : n = xs.length) (hm : m = ys.length) (hcap : cap < n + m) (hb : n + m ≤ 140737488355328)
    (hy : ∀ j, j < ys.length → w.cell? (ad.add j) = some (.int .u8 ((at8 ys j).toNat : Int))) :
    ∃ g' cap' w', (Builtin.append_ #[23, 23] ty #[.slice (some ⟨g, o, none⟩) n cap, .slice (some ad) m c]).run Tryz.prog w = .ok (.slice (some ⟨g', 0, none⟩) (n + m) cap') w' ∧
      Has8 w' g' (xs ++ ys) cap' ∧ w.grownBy w' none ∧ w.heap.size ≤ g' := by
  subst hn hm
  obtain ⟨i, hi, h1, h2, h3⟩ := info8
  obtain ⟨v', w', hrun, ho, hgr⟩ := run_append_arg_grows (P := Tryz.prog) w 23 ty 5 i _ 1 1 Tryz.underlying23 hi h3 h1 h2 rfl (by decide)
    ⟨g, o, none⟩ xs.length cap (xs.map vf) (by simp) (fun j v hv => by
      simp only [List.getElem?_map, Option.map_eq_some_iff] at hv
      obtain ⟨x, hx1, rfl⟩ := hv
      have hj : j < xs.length := (List.getElem?_eq_some_iff.1 hx1).1
      have e : at8 xs j = x := by simp [at8, hx1]
      rcases hx with e' | ⟨b, off, e', hx⟩
      · rw [e'] at hj; simp at hj
      · cases e'
        have hadd : (⟨g, o, none⟩ : Addr).add j = ⟨g, o + j, none⟩ := by unfold Addr.add; split <;> simp_all
        rw [hadd, hx j hj, e]; rfl)
    ad ys.length c (ys.map vf) (by simp) (fun j v hv => by
      simp only [List.getElem?_map, Option.map_eq_some_iff] at hv
      obtain ⟨x, hx1, rfl⟩ := hv
      have hj : j < ys.length := (List.getElem?_eq_some_iff.1 hx1).1
      have e : at8 ys j = x := by simp [at8, hx1]
      rw [hy j hj, e]; rfl) hcap (by simp only [maxLen]; omega) (by omega)
  rcases ho.2 with ⟨hv, h0⟩ | ⟨g', cap', cur', hv, hge, hg', hl', hm', hs', ht'⟩
  · omega
  · subst hv
    refine ⟨g', cap', w', hrun, ⟨cur', hg', by omega, by simpa using hl', hm', ?_⟩, hgr, hge⟩
    rw [List.length_append, List.map_append, ← ht', Nat.mul_one]
theorem add_zero_at (g j : Nat) : (⟨g, 0, none⟩ : Addr).add j = ⟨g, j, none⟩ := by unfold Addr.add; split <;> simp_all
theorem row8_piece {w : World} {g o m : Nat} {xs : List F} {t : TypeId} {fr : Nat × Nat} (h : w.heap[g]? = some (.cells (vfs xs) t fr)) (ho : o + m ≤ xs.length) : Row8 w (some ⟨g, o, none⟩) ((xs.drop o).take m) :=
  .inr ⟨g, o, rfl, fun j hj => by
    rw [List.length_take, List.length_drop] at hj
    rw [cell_of_row _ _ _ _ _ _ h, vfs_get _ _ (by omega), at8_take (by omega), at8_drop]⟩
end Go.Proofs.YtkoakingmnjdoaaGreatDoor

/- What Encode of package code answers, of all numbers and lists of bytes; nothing that was there turns. -/
namespace Go.Proofs.YtkoakingmnjdoaaGreatDoor
open Go.RowKit Gf
set_option linter.unusedVariables false
set_option maxRecDepth 20000
/-- which error Encode tells -/
def encE (k r n : Int) : Nat := if LegalP k r then halfE k n else 1
theorem encE_ok {k r n : Int} (h : encE k r n = 0) : ∃ a b m : Nat, k = a ∧ r = b ∧ n = m ∧ 1 ≤ a ∧ 2 ≤ b ∧ a + b ≤ 16 ∧ 1 ≤ m ∧ m ≤ 128 * a := by
  unfold encE at h
  split at h
  · rename_i hL
    obtain ⟨a, b, rfl, rfl, h1, h2, h3⟩ := legal_nat hL
    obtain ⟨c, m, hc, rfl, _, _, h4, h5⟩ := half_ok h
    exact ⟨a, b, m, rfl, rfl, rfl, h1, h2, h3, h4, by omega⟩
  · omega
theorem encE_of {k r n : Nat} (h1 : 1 ≤ k) (h2 : 2 ≤ r) (h3 : k + r ≤ 16) (h4 : 1 ≤ n) (h5 : n ≤ 128 * k) : encE k r n = 0 := by
  unfold encE; rw [if_pos (show LegalP k r from ⟨by omega, by omega, by omega⟩), halfE_ok h1 (by omega) h4 h5]
theorem halfE_25 (k n : Int) : halfE k n ≤ 25 := by unfold halfE; split <;> (try split) <;> (try split) <;> omega
theorem encE_le (k r n : Int) : encE k r n ≤ 25 := by unfold encE; split; exact halfE_25 _ _; omega
/-- the errors that Encode and Fits name -/
def ErrsF (w : World) (E : Nat → Addr) : Prop := ErrsE w E ∧ w.cell? ⟨4, 0, none⟩ = some (errAt (E 1))
theorem errsF_below {w w' : World} {E : Nat → Addr} (h : ErrsF w E) (hb : Below w.heap.size w w') : ErrsF w' E := ⟨errsE_below h.1 hb, cell_later hb h.2⟩
theorem comb_half {k r H : Nat} {L : List (List F)} {i : Nat} (hi : i < 2 * (k + r)) : combL (2 * k) H (halfM k r) L i = imgL k (carN (groupN k r)) H (bytesD L) i :=
  rowF_congr fun b _ => sumF_congr fun v hv => by rw [halfM, at8_grid hi hv]
theorem rowsP_congr {w : World} {B : Nat} {gs : List (Nat × Nat)} {f g : Nat → List F} (h : RowsP w B gs f) (e : ∀ i, i < gs.length → f i = g i) : RowsP w B gs g :=
  ⟨fun i p hp => ⟨(h.1 i p hp).1, by rw [← e i (List.getElem?_eq_some_iff.1 hp).1]; exact (h.1 i p hp).2⟩, h.2⟩
/-- all halves of a stripe in memory, each in a block of its own -/
def EncAt (w : World) (B M : Nat) (k r n : Nat) (xs : List F) (gs : List (Nat × Nat)) : Prop :=
  B ≤ M ∧ gs.length = 2 * (k + r) ∧ w.heap[M]? = some (.cells (slW (rowsP (cntN (2 * k) n) gs) (2 * (k + r))) 23 (0, 0)) ∧ RowsP w B gs (imgL k (carN (groupN k r)) (cntN (2 * k) n) (strD (cntN (2 * k) n) xs))
theorem encAt_below {w w' : World} {B M k r n : Nat} {xs : List F} {gs : List (Nat × Nat)} (h : EncAt w B M k r n xs gs) (hb : Below w.heap.size w w') : EncAt w' B M k r n xs gs := ⟨h.1, h.2.1, heap_later h.2.2.1 hb, rowsP_below h.2.2.2 hb⟩
theorem encAt_rows {w : World} {B M k r n : Nat} {xs : List F} {gs : List (Nat × Nat)} (h : EncAt w B M k r n xs gs) : Rows8 w (some ⟨M, 0, none⟩) (encL k r (cntN (2 * k) n) xs) :=
  rowsP_rows h.2.2.2 h.2.1 (fun i => imgL_len _ _ _ _ _) h.2.2.1
set_option maxHeartbeats 4000000 in
theorem encode_ok (k r n ca : Nat) (a : Option Addr) (xs : List F) (w : World) (E : Nat → Addr) (hE : ErrsF w E) (h1 : 1 ≤ k) (h2 : 2 ≤ r) (h3 : k + r ≤ 16) (h4 : 1 ≤ n) (h5 : n ≤ 128 * k) (hn : n = xs.length) (hx : Row8 w a xs) :
    Calls Tryz.prog 25 #[.int .i64 k, .int .i64 r, .slice a n ca] w fun e w' => ∃ (M c : Nat) (gs : List (Nat × Nat)), e = .returned (.tuple #[.slice (some ⟨M, 0, none⟩) c c, .nilIface]) ∧ c = 2 * (k + r) ∧
      EncAt w' w.heap.size M k r n xs gs ∧ Below w.heap.size w w' := by
  obtain ⟨k1, k2, _, _⟩ := cnt_half h1 (show k ≤ 14 by omega) h4 h5
  have HE : Hid (ErrsF w E) := hE
  have HX : Hid (Row8 w a xs) := hx
  have HN : Hid (n = xs.length) := hn
  clear hE hx hn
  obtain ⟨c2, hc2⟩ : ∃ c2, c2 = 2 * k := ⟨_, rfl⟩
  obtain ⟨cR, hcR⟩ : ∃ cR, cR = 2 * (k + r) := ⟨_, rfl⟩
  have HC2 : Hid (c2 = 2 * k) := hc2
  have HCR : Hid (cR = 2 * (k + r)) := hcR
  have HR : Hid _ := fun w s h => hrows_F k r w s h h1 h2 h3
  rw [← hc2, ← hcR] at HR
  have hcl : c2 ≤ 28 := by omega
  have hcl1 : 1 ≤ c2 := by omega
  have hRl : cR ≤ 32 := by omega
  clear hc2 hcR
  go_enter Tryz.func25, Tryz.ntmps25
  go_wp2_with fail
  refine Calls.mono (HR.out _ (E 1) HE.out.2) ?_
  rintro e w1 ⟨g1, m1, rfl, hm1, hg1, hh1, hb1⟩
  have HA1 : Hid _ := holds_new (holds_cons (holds_nil w1) hh1) #[.int .i64 cR, .int .i64 c2, .slice (some ⟨g1, 0, none⟩) m1 m1] 73
  have HB1 : Hid (Below w.heap.size w (w1.alloc (.cells #[.int .i64 cR, .int .i64 c2, .slice (some ⟨g1, 0, none⟩) m1 m1] 73))) := hb1.alloc hb1.size _
  have HM1 : Hid (m1 = cR * c2) := hm1
  clear hm1 hg1 hh1 hb1
  go_wp2_with fail
  refine Calls.mono (split_ok k n ca a xs _ E (errsE_below HE.out.1 HB1.out) h1 (by omega) h4 h5 HN.out (row8_below HX.out HB1.out)) ?_
  rintro e w2 ⟨hb2, g2, c, H, rfl, hc, hH, hz1, hz2, hne, hB2, hG2, hbl⟩
  obtain rfl : c = c2 := by rw [hc, HC2.out]
  have HH : Hid (H = cntN (2 * k) n) := hH
  have HR2 : Hid (Rows8 w2 (some ⟨hb2, 0, none⟩) ((List.range c).map (hf H xs))) := .inr ⟨hb2, 0, rfl, fun j ys hj => by
    have hjc : j < c := by have := (List.getElem?_eq_some_iff.1 hj).1; simpa using this
    rw [List.getElem?_map, List.getElem?_range hjc] at hj
    obtain rfl := Option.some.inj hj
    refine ⟨some ⟨g2, j * H, none⟩, H, ?_, row8_half hG2 hjc⟩
    rw [Nat.zero_add, hf_len]
    exact cellAt hB2 j _ (hvV_at hjc (Nat.le_refl _))⟩
  have HA2 : Hid _ := holds_later HA1.out hbl
  have HB2 : Hid (Below w.heap.size w w2) := HB1.out.trans (hbl.mono HB1.out.size)
  have hHl : H ≤ 64 := by rw [hH]; exact k2
  clear hc hH hz1 hz2 hne hB2 hG2 hbl HA1 HB1
  have c0 := cellAt (holds_at HA2.out 0 rfl) 0 _ rfl
  have c1 := cellAt (holds_at HA2.out 0 rfl) 1 _ rfl
  have c3 := cellAt (holds_at HA2.out 0 rfl) 2 _ rfl
  go_wp2_with fail
  refine Calls.mono (ccomb_F cR c H m1 m1 c c (some ⟨g1, 0, none⟩) (some ⟨hb2, 0, none⟩) (halfM k r) ((List.range c).map (hf H xs)) _ (by omega) hcl1 (by omega) hHl HM1.out (by rw [halfM_len, HCR.out, HC2.out]) (Nat.le_refl _) (holds_row HA2.out 1 rfl)
    rfl (by simp) (fun ys hy => by obtain ⟨v, _, rfl⟩ := List.mem_map.1 hy; exact hf_len _ _ _) HR2.out) ?_
  rintro e w3 ⟨M, gs, rfl, hM, hgs, hT, hrs, hb3⟩
  have HB3 : Hid (Below w.heap.size w w3) := HB2.out.trans (hb3.mono HB2.out.size)
  have HEnc : Hid (EncAt w3 w.heap.size M k r n xs gs) := by
    have hz := HB2.out.size
    refine ⟨by omega, by rw [hgs, HCR.out], by rw [← HH.out, ← HCR.out]; exact hT, ?_⟩
    have hr2 : RowsP w3 w.heap.size gs (combL c H (halfM k r) ((List.range c).map (hf H xs))) := ⟨fun i p hp => ⟨by have := (hrs.1 i p hp).1; omega, (hrs.1 i p hp).2⟩, hrs.2⟩
    refine rowsP_congr hr2 fun i hi => ?_
    rw [HC2.out, comb_half (by rw [← HCR.out, ← hgs]; exact hi), img_stripe (by omega), ← HH.out]
  clear hM hgs hT hrs hb3 c0 c1 c3
  go_wp2
  go_ret2
  exact ⟨M, cR, gs, rfl, HCR.out, HEnc.out, HB3.out⟩
set_option maxHeartbeats 2000000 in
theorem encode_bad (k r : Int) (n ca : Nat) (a : Option Addr) (w : World) (E : Nat → Addr) (hE : ErrsF w E) (hk0 : -9223372036854775808 ≤ k) (hk1 : k ≤ 9223372036854775807) (hr0 : -9223372036854775808 ≤ r) (hr1 : r ≤ 9223372036854775807) (hla : n ≤ 140737488355328) (h : encE k r n ≠ 0) :
    Calls Tryz.prog 25 #[.int .i64 k, .int .i64 r, .slice a n ca] w fun e w' => e = .returned (.tuple #[.slice none 0 0, evV E (encE k r n)]) ∧ Below w.heap.size w w' := by
  have HE : Hid (ErrsF w E) := hE
  clear hE
  by_cases hL : LegalP k r
  · obtain ⟨p, q, rfl, rfl, h1, h2, h3⟩ := legal_nat hL
    have he : encE p q n = halfE p n := by unfold encE; rw [if_pos hL]
    rw [he] at h ⊢
    have HS : Hid _ := fun u hu => split_bad p a n ca u E hu hla h
    obtain ⟨s, hs⟩ : ∃ s, evV E (halfE p n) = errAt s := ⟨E (halfE p n - 1), by unfold evV; rw [if_neg h]⟩
    rw [hs] at HS ⊢
    have HR : Hid _ := fun w s h => hrows_F p q w s h h1 h2 h3
    clear hs he h hL
    unfold errAt at HS ⊢
    go_enter Tryz.func25, Tryz.ntmps25
    go_wp2_with fail
    refine Calls.mono (HR.out _ (E 1) HE.out.2) ?_
    rintro e w1 ⟨g1, m1, rfl, hm1, hg1, hh1, hb1⟩
    have HB1 : Hid (Below w.heap.size w (w1.alloc (.cells #[.int .i64 (2 * (p + q) : Nat), .int .i64 (2 * p : Nat), .slice (some ⟨g1, 0, none⟩) m1 m1] 73))) := hb1.alloc hb1.size _
    clear hm1 hg1 hh1 hb1
    go_wp2_with fail
    refine Calls.mono (HS.out _ (errsE_below HE.out.1 HB1.out)) ?_
    rintro e w2 ⟨rfl, hb2⟩
    have HB2 : Hid (Below w.heap.size w w2) := HB1.out.trans (hb2.mono HB1.out.size)
    clear hb2
    go_wp2_with fail
    go_ret2
    exact ⟨rfl, HB2.out⟩
  · have he : encE k r n = 1 := by unfold encE; rw [if_neg hL]
    rw [he, evV_succ]
    have HR : Hid _ := fun u hu => hrows_bad k r u (E 0) hu hk0 hk1 hr0 hr1 hL
    clear he h hL
    unfold errAt at HR ⊢
    go_enter Tryz.func25, Tryz.ntmps25
    go_wp2_with fail
    refine Calls.mono (HR.out _ HE.out.1.1) ?_
    rintro e w1 ⟨rfl, hb1⟩
    have HB1 : Hid (Below w.heap.size w w1) := hb1
    clear hb1
    go_wp2_with fail
    go_ret2
    exact ⟨rfl, HB1.out.alloc HB1.out.size _⟩
end Go.Proofs.YtkoakingmnjdoaaGreatDoor

/- Shards in a block of one's own: three cells each. What Shards of package code answers, of all numbers and lists of bytes. -/
namespace Go.Proofs.YtkoakingmnjdoaaGreatDoor
open Go.RowKit Gf
set_option linter.unusedVariables false
set_option maxRecDepth 20000
abbrev Tri := Value × Value × Value
/-- three values to an element -/
def triL (T : List Tri) : List Value := T.flatMap fun t => [t.1, t.2.1, t.2.2]
def triC (T : List Tri) : Array Value := (triL T).toArray
def tri3 (t : Tri) : Nat → Value
  | 0 => t.1
  | 1 => t.2.1
  | _ => t.2.2
theorem triL_at : ∀ (T : List Tri) (j q : Nat), q < 3 → (triL T)[j * 3 + q]? = T[j]?.map fun t => tri3 t q
  | [], j, q, _ => by simp [triL]
  | t :: T, 0, q, h => by
    match q, h with
    | 0, _ => rfl
    | 1, _ => rfl
    | 2, _ => rfl
  | t :: T, j + 1, q, h => by
    have := triL_at T j q h
    rw [show (j + 1) * 3 + q = (j * 3 + q) + 3 by omega]
    exact this
theorem triL_set : ∀ (T : List Tri) (j : Nat) (a b c : Value), (((triL T).set (j * 3) a).set (j * 3 + 1) b).set (j * 3 + 2) c = triL (T.set j (a, b, c))
  | [], j, a, b, c => by simp [triL]
  | t :: T, 0, a, b, c => rfl
  | t :: T, j + 1, a, b, c => by
    have := triL_set T j a b c
    rw [show (j + 1) * 3 + 1 = (j * 3 + 1) + 3 by omega, show (j + 1) * 3 + 2 = (j * 3 + 2) + 3 by omega, show (j + 1) * 3 = (j * 3) + 3 by omega]
    show t.1 :: t.2.1 :: t.2.2 :: (((triL T).set (j * 3) a).set (j * 3 + 1) b).set (j * 3 + 2) c = _
    rw [this]; rfl
theorem triC_at {T : List Tri} {j q : Nat} {t : Tri} (h : T[j]? = some t) (hq : q < 3) : (triC T)[j * 3 + q]? = some (tri3 t q) := by
  show (triL T).toArray[j * 3 + q]? = _
  rw [List.getElem?_toArray, triL_at T j q hq, h]; rfl
theorem triC_set (T : List Tri) (j : Nat) (a b c : Value) : (((triC T).setIfInBounds (j * 3) a).setIfInBounds (j * 3 + 1) b).setIfInBounds (j * 3 + 2) c = triC (T.set j (a, b, c)) := by
  apply Array.toList_inj.1
  simp only [Array.toList_setIfInBounds, triC]
  exact triL_set T j a b c
/-- the zero of a shard -/
def zeroT : Tri := (.int .i64 0, .slice none 0 0, .slice none 0 0)
/-- shard j of a list of halves -/
def shV (vs : List Value) (j : Nat) : Tri := (.int .i64 (j : Int), vs.getD (2 * j) (.slice none 0 0), vs.getD (2 * j + 1) (.slice none 0 0))
/-- the shards made as far as j -/
def shP (vs : List Value) (m j : Nat) : List Tri := (List.range m).map fun i => if i < j then shV vs i else zeroT
theorem shP_zero (vs : List Value) (m : Nat) : List.replicate m zeroT = shP vs m 0 := by
  apply List.ext_getElem?
  intro i
  simp only [shP, List.getElem?_map, List.getElem?_replicate]
  by_cases h : i < m
  · rw [if_pos h, List.getElem?_range h]; rfl
  · rw [if_neg h, List.getElem?_eq_none (by simp; omega)]; rfl
theorem shP_full (vs : List Value) (m : Nat) : shP vs m m = (List.range m).map (shV vs) := by
  apply List.map_congr_left
  intro i hi
  rw [if_pos (by simpa using hi)]
theorem shP_set {vs : List Value} {m j : Nat} (h : j < m) : (shP vs m j).set j (shV vs j) = shP vs m (j + 1) := by
  apply List.ext_getElem?
  intro i
  rw [List.getElem?_set]
  simp only [shP, List.getElem?_map, List.length_map, List.length_range]
  by_cases hi : j = i
  · subst hi
    rw [if_pos rfl, if_pos h, List.getElem?_range h]
    simp
  · rw [if_neg hi]
    by_cases hm : i < m
    · rw [List.getElem?_range hm]
      simp only [Option.map_some]
      by_cases h2 : i < j
      · rw [if_pos h2, if_pos (by omega)]
      · rw [if_neg h2, if_neg (by omega)]
    · rw [List.getElem?_eq_none (by simp; omega)]; rfl
theorem tri_store_other {w : World} {S g j : Nat} {a b c : Value} {o : Obj} (hne : g ≠ S) (h : w.heap[g]? = some o) :
    (((w.setCell ⟨S, j * 3, none⟩ a).setCell ⟨S, j * 3 + 1, none⟩ b).setCell ⟨S, j * 3 + 2, none⟩ c).heap[g]? = some o :=
  (heap_setCell_other _ _ _ _ hne).trans ((heap_setCell_other _ _ _ _ hne).trans ((heap_setCell_other _ _ _ _ hne).trans h))
end Go.Proofs.YtkoakingmnjdoaaGreatDoor

/- Plain algebra of stage 7: where the rows of 2k halves have full rank, each unit is a combination of them, and each table of lists is the image of one and only one list of data halves. -/
namespace Go.Proofs.YtkoakingmnjdoaaGreatDoor
open Go.RowKit Gf
set_option linter.unusedVariables false
set_option maxRecDepth 20000
/-- the rows of these halves -/
def numM (k : Nat) (car : Nat → Nat) (nl : List Nat) : Mt := fun i => halfF k car (nl.getD i 0)
def unitF (v : Nat) : Nat → F := fun j => if v = j then 1 else 0
theorem var_sol {c n v : Nat} {A : Mt} {x R D : Nat → F} (hv : v < c) (h : ∀ u, u < c → unitF v u = sumF (fun l => gm (A l u) (x l)) n) (hR : ∀ l, l < n → R l = sumF (fun u => gm (A l u) (D u)) c) :
    sumF (fun l => gm (x l) (R l)) n = D v := by
  rw [sumF_congr (fun l hl => by rw [hR l hl, sumF_mul_left]), sumF_swap (fun l u => gm (x l) (gm (A l u) (D u))) c n]
  rw [sumF_congr (g := fun u => gm (unitF v u) (D u)) (fun u hu => by
    rw [h u hu, sumF_mul_right]
    exact sumF_congr fun l _ => by rw [← F.mul_assoc, F.mul_comm (x l)])]
  rw [sumF_pick _ v c hv fun u _ hne => by simp [unitF, Ne.symm hne]]
  simp [unitF]
theorem full_units {A : Mt} {n : Nat} (h : (pivL A n n).length = n) : ∀ v, v < n → Dep (tr A) n n (unitF v) := fun v hv => by
  obtain ⟨R, h1, h2, _⟩ := red_ex A n n
  obtain ⟨e, he⟩ := h2 v hv
  refine ⟨e, fun i hi => ?_⟩
  have hu := h1.full_unit h v hv i hi
  show (if v = i then (1 : F) else 0) = _
  rw [← hu, he i hi]
  exact sumF_congr fun l _ => F.mul_comm _ _
theorem full_solve {A : Mt} {n : Nat} (h : (pivL A n n).length = n) (R : Nat → F) : ∃ D : Nat → F, ∀ i, i < n → R i = sumF (fun u => gm (A i u) (D u)) n := by
  have ht : (pivL (tr A) n n).length = n := by rw [rk_tr, h]
  have hz : ∀ v : Nat, ∃ x : Nat → F, v < n → ∀ i, i < n → unitF v i = sumF (fun l => gm (A i l) (x l)) n := fun v => by
    by_cases hv : v < n
    · obtain ⟨x, hx⟩ := full_units ht v hv
      exact ⟨x, fun _ i hi => hx i hi⟩
    · exact ⟨fun _ => 0, fun h => absurd h hv⟩
  obtain ⟨Z, hZ⟩ := Classical.axiomOfChoice hz
  refine ⟨fun u => sumF (fun v => gm (Z v u) (R v)) n, fun i hi => ?_⟩
  rw [sumF_congr (g := fun u => sumF (fun v => gm (A i u) (gm (Z v u) (R v))) n) (fun u _ => sumF_mul_left _ _ _)]
  rw [sumF_swap (fun u v => gm (A i u) (gm (Z v u) (R v))) n n]
  rw [sumF_congr (g := fun v => gm (unitF v i) (R v)) (fun v hv => by
    rw [hZ v hv i hi, sumF_mul_right]
    exact sumF_congr fun u _ => (F.mul_assoc _ _ _).symm)]
  rw [sumF_pick _ i n hi fun v _ hne => by simp [unitF, hne]]
  simp [unitF]
/-- the data halves of a table of lists -/
theorem full_table {A : Mt} {n : Nat} (h : (pivL A n n).length = n) (R : Nat → Nat → F) : ∃ D : Nat → Nat → F, ∀ i, i < n → ∀ b, R i b = sumF (fun u => gm (A i u) (D u b)) n := by
  obtain ⟨Y, hY⟩ := Classical.axiomOfChoice fun b : Nat => full_solve h fun i => R i b
  exact ⟨fun u b => Y b u, fun i hi b => hY b i hi⟩
theorem full_one {A : Mt} {n : Nat} (h : (pivL A n n).length = n) {R D E : Nat → F} (hD : ∀ i, i < n → R i = sumF (fun u => gm (A i u) (D u)) n) (hE : ∀ i, i < n → R i = sumF (fun u => gm (A i u) (E u)) n) : ∀ v, v < n → D v = E v := fun v hv => by
  obtain ⟨x, hx⟩ := full_units h v hv
  have h1 : ∀ u, u < n → unitF v u = sumF (fun l => gm (A l u) (x l)) n := fun u hu => hx u hu
  have e1 := var_sol (A := A) (x := x) (R := R) (D := D) hv h1 hD
  have e2 := var_sol (A := A) (x := x) (R := R) (D := E) hv h1 hE
  exact e1.symm.trans e2
/-- the rows of both halves of k shards have full rank -/
theorem num_rank {S : List Nat} {k n : Nat} {car : Nat → Nat} (hS : S.Nodup) (hl : S.length = k) (hn : ∀ x ∈ S, x < n) (hb : n ≤ 256) : (pivL (numM k car (bothH S)) (2 * k) (2 * k)).length = 2 * k :=
  half_rank hS hl hn hb
end Go.Proofs.YtkoakingmnjdoaaGreatDoor

/- Two numbers, two lists behind a list of one's own; shards in memory: a number and two halves each. -/
namespace Go.Proofs.YtkoakingmnjdoaaGreatDoor
open Go.RowKit Gf
set_option linter.unusedVariables false
set_option maxRecDepth 20000
theorem news_two {w : World} {b : Nat} {x y : Value} (hx : w.cell? ⟨b, 0, none⟩ = some x) (hy : w.cell? ⟨b, 1, none⟩ = some y) : ∀ j u, [x, y][j]? = some u → w.cell? ((⟨b, 0, none⟩ : Addr).add j) = some u := by
  intro j u h
  match j, h with
  | 0, h => obtain rfl := Option.some.inj h; simpa [Addr.add] using hx
  | 1, h => obtain rfl := Option.some.inj h; simpa [Addr.add] using hy
theorem appendS2 {w : World} {B n b c : Nat} {v x y : Value} {xs : List Value} (ty : TypeId) (ho : w.ownsRow B 23 1 v n xs) (hx : w.cell? ⟨b, 0, none⟩ = some x) (hy : w.cell? ⟨b, 1, none⟩ = some y) (h1 : x.oneCell' = true) (h2 : y.oneCell' = true) (hn : n ≤ 4096) (hB : B ≤ w.heap.size) :
    ∃ g cap w', (Builtin.append_ #[49, 49] ty #[v, .slice (some ⟨b, 0, none⟩) 2 c]).run Tryz.prog w = .ok (.slice (some ⟨g, 0, none⟩) (n + 2) cap) w' ∧
      w'.ownsRow B 23 1 (.slice (some ⟨g, 0, none⟩) (n + 2) cap) (n + 2) (xs ++ [x, y]) ∧ w.grownBy w' v.ownBlock ∧ (v.ownBlock = some g ∨ g = w.heap.size) ∧ g < w'.heap.size := by
  obtain ⟨i, hi, h2', h3, h4⟩ := infoS
  exact run_append_lies (P := Tryz.prog) w 49 ty B 23 i _ 1 24 Tryz.underlying49 hi h4 h2' h3 rfl (by decide) v n xs ho ⟨b, 0, none⟩ 2 c [x, y] rfl (news_two hx hy) (by simp [h1, h2]) (by decide) (by simp only [maxLen]; omega) (by omega) hB _ rfl
theorem appendI2 {w : World} {B n b c : Nat} {v : Value} {x y : Int} {xs : List Value} (ty : TypeId) (ho : w.ownsRow B 3 1 v n xs) (hx : w.cell? ⟨b, 0, none⟩ = some (.int .i64 x)) (hy : w.cell? ⟨b, 1, none⟩ = some (.int .i64 y)) (hn : n ≤ 1000000) (hB : B ≤ w.heap.size) :
    ∃ g cap w', (Builtin.append_ #[22, 22] ty #[v, .slice (some ⟨b, 0, none⟩) 2 c]).run Tryz.prog w = .ok (.slice (some ⟨g, 0, none⟩) (n + 2) cap) w' ∧
      w'.ownsRow B 3 1 (.slice (some ⟨g, 0, none⟩) (n + 2) cap) (n + 2) (xs ++ [.int .i64 x, .int .i64 y]) ∧ w.grownBy w' v.ownBlock ∧ (v.ownBlock = some g ∨ g = w.heap.size) ∧ g < w'.heap.size := by
  obtain ⟨i, hi, h2, h3, h4⟩ := infoI
  exact run_append_lies (P := Tryz.prog) w 22 ty B 3 i _ 1 8 Tryz.underlying22 hi h4 h2 h3 rfl (by decide) v n xs ho ⟨b, 0, none⟩ 2 c [.int .i64 x, .int .i64 y] rfl (news_two hx hy) (by simp [Value.oneCell']) (by decide) (by simp only [maxLen]; omega) (by omega) hB _ rfl
/-- shards in memory: the number and the two halves of each -/
def Sh8 (w : World) (a : Option Addr) (S : List (Int × List F × List F)) : Prop :=
  S = [] ∨ ∃ b off, a = some ⟨b, off, none⟩ ∧ ∀ j n xs ys, S[j]? = some (n, xs, ys) → ∃ a1 c1 a2 c2, w.cell? ⟨b, off + j * 3, none⟩ = some (.int .i64 n) ∧
    w.cell? ⟨b, off + j * 3 + 1, none⟩ = some (.slice a1 xs.length c1) ∧ w.cell? ⟨b, off + j * 3 + 2, none⟩ = some (.slice a2 ys.length c2) ∧ Row8 w a1 xs ∧ Row8 w a2 ys
theorem sh8_below {w w' : World} {a : Option Addr} {S : List (Int × List F × List F)} (h : Sh8 w a S) (hb : Below w.heap.size w w') : Sh8 w' a S := by
  rcases h with rfl | ⟨b, off, rfl, h⟩
  · exact .inl rfl
  · refine .inr ⟨b, off, rfl, fun j n xs ys hj => ?_⟩
    obtain ⟨a1, c1, a2, c2, h1, h2, h3, h4, h5⟩ := h j n xs ys hj
    exact ⟨a1, c1, a2, c2, cell_later hb h1, cell_later hb h2, cell_later hb h3, row8_below h4 hb, row8_below h5 hb⟩
end Go.Proofs.YtkoakingmnjdoaaGreatDoor

/- Shards' halves in their order; lists of one's own, two places on. -/
namespace Go.Proofs.YtkoakingmnjdoaaGreatDoor
open Go.RowKit Gf
set_option linter.unusedVariables false
set_option maxRecDepth 20000
/-- the halves of shards, in their order -/
def rowsS (S : List (Int × List F × List F)) : List (List F) := S.flatMap fun s => [s.2.1, s.2.2]
theorem rowsS_len : ∀ S, (rowsS S).length = 2 * S.length
  | [] => rfl
  | s :: S => by
    have := rowsS_len S
    simp only [rowsS, List.flatMap_cons, List.length_append, List.length_cons, List.length_nil] at this ⊢
    omega
theorem rowsS_snoc {S : List (Int × List F × List F)} {j : Nat} {s : Int × List F × List F} (h : S[j]? = some s) : rowsS (S.take (j + 1)) = rowsS (S.take j) ++ [s.2.1, s.2.2] := by
  rw [List.take_add_one, h]
  simp [rowsS]
theorem bothH_next {L : List Nat} {j s : Nat} (h : L[j]? = some s) : bothH (L.take (j + 1)) = bothH (L.take j) ++ [2 * s, 2 * s + 1] := by
  rw [List.take_add_one, h]
  simp [bothH]
theorem pairs_snoc {P : List F → Value → Prop} {L : List (List F)} {vs : List Value} {xs ys : List F} {x y : Value} (hl : vs.length = L.length) (h : ∀ (i : Nat) (zs : List F), L[i]? = some zs → ∃ v, vs[i]? = some v ∧ P zs v) (hx : P xs x) (hy : P ys y) :
    ∀ (i : Nat) (zs : List F), (L ++ [xs, ys])[i]? = some zs → ∃ v, (vs ++ [x, y])[i]? = some v ∧ P zs v := fun i zs hi => by
  by_cases hlt : i < L.length
  · rw [List.getElem?_append_left hlt] at hi
    rw [List.getElem?_append_left (by omega)]
    exact h i zs hi
  · rw [List.getElem?_append_right (by omega)] at hi
    rw [List.getElem?_append_right (by omega), hl]
    generalize i - L.length = q at hi
    match q, hi with
    | 0, hi => obtain rfl := Option.some.inj hi; exact ⟨x, rfl, hx⟩
    | 1, hi => obtain rfl := Option.some.inj hi; exact ⟨y, rfl, hy⟩
theorem own_kind7 {w w' : World} {B B' s s' n n' : Nat} {v v' : Value} {e e' : TypeId} {xs xs' : List Value} (ho : w.ownsRow B e s v n xs) (h : w.grownBy w' v.ownBlock) (hq : w.ownsRow B' e' s' v' n' xs') (hne : e' ≠ e) : w'.ownsRow B' e' s' v' n' xs' :=
  ⟨hq.1, hq.2.imp id fun ⟨g, cap, cur, h1, h2, h3, h4⟩ => ⟨g, cap, cur, h1, h2, own_other ho h h3 hne, h4⟩⟩
theorem castL_two (L : List Nat) (a b : Nat) : (castL (L ++ [a, b])).map (Value.int .i64) = (castL L).map (Value.int .i64) ++ [.int .i64 (a : Int), .int .i64 (b : Int)] := by simp [castL]
end Go.Proofs.YtkoakingmnjdoaaGreatDoor

/- What slices.Contains of numbers, and haveSize, halvesOf, numbersOf of package code answer, of all numbers and shards. -/
namespace Go.Proofs.YtkoakingmnjdoaaGreatDoor
open Go.RowKit Gf
set_option linter.unusedVariables false
set_option maxRecDepth 20000
/-- the first place of a number -/
def idxI (ns : List Int) (x : Int) : Int := if x ∈ ns then ((ns.idxOf x : Nat) : Int) else -1
set_option maxHeartbeats 1000000 in
theorem index_F (l cap : Nat) (a : Option Addr) (ns : List Int) (x : Int) (w : World) (hl : l = ns.length) (hl9 : l ≤ 1000000) (hX : RowI w a ns) :
    Calls Tryz.prog 88 #[.slice a l cap, .int .i64 x] w fun e w' => ∃ y : Int, e = .returned (.int .i64 y) ∧ (0 ≤ y ↔ x ∈ ns) ∧ w = w' := by
  have HL : Hid (l = ns.length) := hl
  have HX : Hid (RowI w a ns) := hX
  clear hl hX
  go_enter Tryz.func88, Tryz.ntmps88
  go_wp2
  go_loopw [8] (fun i wr => ∃ j : Nat, j ≤ l ∧ i = .int .i64 j ∧ wr = w ∧ (∀ q, q < j → ns[q]? ≠ some x)) (fun i _ => l - (intOf i).toNat)
  case atStart => exact ⟨0, by omega, rfl, rfl, fun q h => by omega⟩
  case round =>
    obtain ⟨j, hj, rfl, rfl, hq⟩ := hrel
    have HQ : Hid (∀ q, q < j → ns[q]? ≠ some x) := hq
    clear hq
    by_cases hlt : j < l
    · obtain ⟨b, off, rfl, hb, hc⟩ := rowI_cell HX.out (show j < ns.length by rw [← HL.out]; exact hlt)
      have c1 := hc j (by rw [← HL.out]; exact hlt)
      obtain ⟨y, hy⟩ : ∃ y, y = ns.getD j 0 := ⟨_, rfl⟩
      rw [← hy] at c1
      have HY : Hid (ns[j]? = some y) := by
        show _ = _
        rw [hy, List.getD_eq_getElem?_getD, List.getElem?_eq_getElem (by rw [← HL.out]; exact hlt)]; rfl
      clear hc hy
      by_cases he : x = y
      · have he' : (x == y) = true := by simp [he]
        have HE : Hid (x = y) := he
        clear he
        go_wp2
        go_ret
        exact ⟨j, rfl, ⟨fun _ => by rw [HE.out]; exact List.mem_of_getElem? HY.out, fun _ => by omega⟩, rfl⟩
      · have he' : (x == y) = false := by simp [he]
        have HE : Hid (¬ x = y) := he
        clear he
        go_wp2
        refine ⟨⟨j + 1, by omega, by go_num, by first | rfl | trivial, fun q hq => ?_⟩, by simp [intOf]; omega⟩
        by_cases hqj : q < j
        · exact HQ.out q hqj
        · obtain rfl : q = j := by omega
          rw [HY.out]
          exact fun h => HE.out (Option.some.inj h).symm
    · obtain rfl : j = l := by omega
      go_wp2
      go_ret
      refine ⟨-1, rfl, ⟨fun h => by omega, fun h => ?_⟩, rfl⟩
      obtain ⟨q, hq⟩ := List.mem_iff_getElem?.1 h
      exact absurd hq (HQ.out q (by have := (List.getElem?_eq_some_iff.1 hq).1; rw [HL.out]; exact this))
theorem contains_F (l cap : Nat) (a : Option Addr) (ns : List Int) (x : Int) (w : World) (hl : l = ns.length) (hl9 : l ≤ 1000000) (hX : RowI w a ns) :
    Calls Tryz.prog 57 #[.slice a l cap, .int .i64 x] w fun e w' => e = .returned (.bool (decide (x ∈ ns))) ∧ w = w' := by
  have HI : Hid _ := index_F l cap a ns x w hl hl9 hX
  clear hl hX
  go_enter Tryz.func57, Tryz.ntmps57
  go_wp2_with fail
  refine Calls.mono HI.out ?_
  rintro e w1 ⟨y, rfl, hy, rfl⟩
  have hd : decide (0 ≤ y) = decide (x ∈ ns) := by simp only [hy]
  have HD : Hid _ := hd
  clear hy hd
  go_wp2
  go_ret
  exact ⟨by rw [← HD.out]; rfl, rfl⟩
end Go.Proofs.YtkoakingmnjdoaaGreatDoor

/- What Solve answers of lists of another length, and what Express answers. -/
namespace Go.Proofs.YtkoakingmnjdoaaGreatDoor
open Go.RowKit Gf
set_option linter.unusedVariables false
set_option maxRecDepth 20000
theorem SolOf.congr {A B : Mt} {r c : Nat} {v x : Nat → F} (h : SolOf A r c v x) (e : ∀ i, i < r → ∀ j, j < c → A i j = B i j) : SolOf B r c v x :=
  ⟨fun i hi => (h.sol i hi).trans (sumF_congr fun l hl => by rw [e i hi l hl]), fun l hl hn => h.off l hl (by rw [pivL_congr e]; exact hn)⟩
theorem Dep.congr {A B : Mt} {n c : Nat} {b : Nat → F} (h : Dep A n c b) (e : ∀ i, i < n → ∀ j, j < c → A i j = B i j) : Dep B n c b := by
  obtain ⟨x, hx⟩ := h
  exact ⟨x, fun i hi => (hx i hi).trans (sumF_congr fun l hl => by rw [e i hi l hl])⟩
/-- the answer of Solve or Express where the arguments don't fit -/
def noSol (s : Addr) : Value := .tuple #[.slice none 0 0, .bool false, errAt s]
theorem FormOk.nat {r c : Int} {l : Nat} (h : FormOk r c l) : ∃ r' c' : Nat, r = r' ∧ c = c' ∧ r' ≤ 64 ∧ c' ≤ 64 ∧ l = r' * c' := by
  obtain ⟨h0, h1, h2, h3, h4⟩ := h
  obtain ⟨r', rfl⟩ := Int.eq_ofNat_of_zero_le h0
  obtain ⟨c', rfl⟩ := Int.eq_ofNat_of_zero_le h2
  exact ⟨r', c', rfl, rfl, by omega, by omega, by exact_mod_cast h4⟩
theorem solve_bad (r c : Int) (l cap lv cv : Nat) (a b : Option Addr) (w : World) (s : Addr) (hs : w.cell? ⟨4, 0, none⟩ = some (errAt s)) (h : ¬ (FormOk r c l ∧ (lv : Int) = r)) :
    Calls Tryz.prog 118 #[.agg #[.int .i64 r, .int .i64 c, .slice a l cap], .slice b lv cv] w fun e w' => e = .returned (noSol s) ∧ Below w.heap.size w w' := by
  have HS : Hid _ := cell?_alloc_old (.cells #[.int .i64 r, .int .i64 c, .slice a l cap] 73) hs
  have hal := ((Below.refl w.heap.size w).alloc (Nat.le_refl _) (.cells #[.int .i64 r, .int .i64 c, .slice a l cap] 73))
  have HE : Hid (Calls Tryz.prog 126 #[.agg #[.int .i64 r, .int .i64 c, .slice a l cap], .agg #[.int .i64 lv, .int .i64 1, .slice b lv cv]] (w.alloc (.cells #[.int .i64 r, .int .i64 c, .slice a l cap] 73)) fun e w' =>
      e = .returned (.tuple #[.slice none 0 0, .slice none 0 0, errAt s]) ∧ Below (w.alloc (.cells #[.int .i64 r, .int .i64 c, .slice a l cap] 73)).heap.size (w.alloc (.cells #[.int .i64 r, .int .i64 c, .slice a l cap] 73)) w') := by
    by_cases hf : FormOk r c l
    · obtain ⟨r', c', rfl, rfl, h1, h2, h3⟩ := hf.nat
      exact eliminated_odd r' c' lv 1 l cap lv cv a b _ s HS.out h1 h2 h3 (fun e => h ⟨hf, e.symm⟩)
    · exact eliminated_bad r c lv 1 l cap lv cv a b _ s HS.out hf
  clear h hs HS
  unfold noSol
  go_enter Tryz.func118, Tryz.ntmps118
  go_wp2_with fail
  refine Calls.mono HE.out ?_
  rintro e w2 ⟨rfl, hb2⟩
  have HW2 : Hid (Below w.heap.size w w2) := hal.trans (hb2.mono (by simp))
  clear hb2 hal HE
  unfold errAt at *
  go_wp2
  refine bodyPost_ret (v := .tuple #[.slice none 0 0, .bool false, .iface 191 (.pointer (some s))]) (by simp [results, Tryz.results118, go_sem]) rfl ⟨rfl, HW2.out⟩
set_option maxHeartbeats 4000000 in
theorem express_F (r c l cap lv cv : Nat) (a b : Option Addr) (xs vs : List F) (w : World) (hr : r ≤ 64) (hc : c ≤ 64) (hl : l = r * c) (hx : xs.length = r * c) (hcap : l ≤ cap) (hX : Row8 w a xs)
    (hlv : lv = c) (hv : vs.length = c) (hcv : lv ≤ cv) (hV : Row8 w b vs) (hnb : b = none → cv = 0) :
    Calls Tryz.prog 90 #[.agg #[.int .i64 r, .int .i64 c, .slice a l cap], .slice b lv cv] w fun e w' =>
      (∃ g x, e = .returned (.tuple #[.slice (some ⟨g, 0, none⟩) r r, .bool true, .nilIface]) ∧ w.heap.size ≤ g ∧ w'.heap[g]? = some (.cells (vfs (rowF r x)) 5 (0, 0)) ∧ SolOf (tr (cellF c xs)) c r (at8 vs) x ∧ Below w.heap.size w w') ∨
      (e = .returned (.tuple #[.slice none 0 0, .bool false, .nilIface]) ∧ ¬ Dep (tr (cellF c xs)) c r (at8 vs) ∧ Below w.heap.size w w') := by
  have HL : Hid _ := hl
  have HX : Hid _ := hx
  have HV : Hid _ := hv
  have HLV : Hid _ := hlv
  have HRX : Hid (Row8 w a xs) := hX
  have HRV : Hid (Row8 w b vs) := hV
  have HNB : Hid _ := hnb
  clear hl hx hX hv hV hnb hlv
  go_enter Tryz.func90, Tryz.ntmps90
  go_wp2_with fail
  refine Calls.mono (transpose_F r c l cap a xs _ hr hc HL.out HX.out hcap (row8_alloc HRX.out _)) ?_
  rintro e w2 ⟨g, n, rfl, hn, hg, hh, hb2⟩
  have HW2 : Hid (Below w.heap.size w w2) := ((Below.refl w.heap.size w).alloc (Nat.le_refl _) _).trans (hb2.mono (by simp))
  have HN : Hid _ := hn
  have hA := holds_new (holds_cons (holds_nil w2) hh) #[.int .i64 c, .int .i64 r, .slice (some ⟨g, 0, none⟩) n n] 73
  have c1 := cellAt (holds_at hA 0 rfl) 0 _ rfl
  have c2 := cellAt (holds_at hA 0 rfl) 1 _ rfl
  have c3 := cellAt (holds_at hA 0 rfl) 2 _ rfl
  have HA : Hid _ := hA
  have HW3 : Hid (Below w.heap.size w (w2.alloc (.cells #[.int .i64 c, .int .i64 r, .slice (some ⟨g, 0, none⟩) n n] 73))) := HW2.out.alloc HW2.out.size _
  clear hn hh hb2 hA HW2
  go_wp2_with fail
  refine Calls.mono (solve_F c r n n lv cv (some ⟨g, 0, none⟩) b (trM r c xs) vs _ hc hr HN.out (by simp [trM, grid_len]) (Nat.le_refl _) (holds_row HA.out 1 rfl) (fun h => by cases h) HLV.out HV.out hcv (row8_below HRV.out HW3.out) HNB.out) ?_
  rintro e w3 (⟨g3, x, rfl, hg3, hh3, hsol, hb3⟩ | ⟨rfl, hno, hb3⟩)
  · have HW4 : Hid (Below w.heap.size w w3) := HW3.out.trans (hb3.mono HW3.out.size)
    have HSOL : Hid _ := hsol.congr cellF_tr
    have HH3 : Hid _ := hh3
    have hgg : w.heap.size ≤ g3 := Nat.le_trans HW3.out.size hg3
    clear hb3 hsol hh3 hg3
    go_wp2
    exact bodyPost_ret (v := .tuple #[.slice (some ⟨g3, 0, none⟩) r r, .bool true, .nilIface]) (by simp [results, Tryz.results90, go_sem]) rfl (.inl ⟨g3, x, rfl, hgg, HH3.out, HSOL.out, HW4.out⟩)
  · have HW4 : Hid (Below w.heap.size w w3) := HW3.out.trans (hb3.mono HW3.out.size)
    have HNO : Hid (¬ Dep (tr (cellF c xs)) c r (at8 vs)) := fun hd => hno (hd.congr fun i hi j hj => (cellF_tr i hi j hj).symm)
    clear hb3 hno
    go_wp2
    exact bodyPost_ret (v := .tuple #[.slice none 0 0, .bool false, .nilIface]) (by simp [results, Tryz.results90, go_sem]) rfl (.inr ⟨rfl, HNO.out, HW4.out⟩)
set_option maxHeartbeats 2000000 in
theorem express_bad (r c : Int) (l cap lv cv : Nat) (a b : Option Addr) (w : World) (s : Addr) (hs : w.cell? ⟨4, 0, none⟩ = some (errAt s)) (h : ¬ FormOk r c l) :
    Calls Tryz.prog 90 #[.agg #[.int .i64 r, .int .i64 c, .slice a l cap], .slice b lv cv] w fun e w' => e = .returned (noSol s) ∧ Below w.heap.size w w' := by
  have H : Hid _ := h
  have HS : Hid _ := cell?_alloc_old (.cells #[.int .i64 r, .int .i64 c, .slice a l cap] 73) hs
  clear h hs
  unfold noSol
  go_enter Tryz.func90, Tryz.ntmps90
  go_wp2_with fail
  refine Calls.mono (transpose_bad r c a l cap _ s HS.out H.out) ?_
  rintro e w2 ⟨rfl, hb2⟩
  have HW2 : Hid (Below w.heap.size w w2) := ((Below.refl w.heap.size w).alloc (Nat.le_refl _) _).trans (hb2.mono (by simp))
  unfold errAt at *
  clear hb2
  go_wp2
  exact bodyPost_ret (v := .tuple #[.slice none 0 0, .bool false, .iface 191 (.pointer (some s))]) (by simp [results, Tryz.results90, go_sem]) rfl ⟨rfl, HW2.out.alloc HW2.out.size _⟩
set_option maxHeartbeats 2000000 in
theorem express_odd (r c l cap lv cv : Nat) (a b : Option Addr) (xs : List F) (w : World) (s : Addr) (hs : w.cell? ⟨4, 0, none⟩ = some (errAt s)) (hr : r ≤ 64) (hc : c ≤ 64) (hl : l = r * c) (hx : xs.length = r * c) (hcap : l ≤ cap) (hX : Row8 w a xs) (h : lv ≠ c) :
    Calls Tryz.prog 90 #[.agg #[.int .i64 r, .int .i64 c, .slice a l cap], .slice b lv cv] w fun e w' => e = .returned (noSol s) ∧ Below w.heap.size w w' := by
  have HS : Hid _ := hs
  have HL : Hid _ := hl
  have HX : Hid _ := hx
  have HRX : Hid (Row8 w a xs) := hX
  clear hs hl hx hX
  unfold noSol
  go_enter Tryz.func90, Tryz.ntmps90
  go_wp2_with fail
  refine Calls.mono (transpose_F r c l cap a xs _ hr hc HL.out HX.out hcap (row8_alloc HRX.out _)) ?_
  rintro e w2 ⟨g, n, rfl, hn, hg, hh, hb2⟩
  have HW2 : Hid (Below w.heap.size w w2) := ((Below.refl w.heap.size w).alloc (Nat.le_refl _) _).trans (hb2.mono (by simp))
  have hA := holds_new (holds_cons (holds_nil w2) hh) #[.int .i64 c, .int .i64 r, .slice (some ⟨g, 0, none⟩) n n] 73
  have c1 := cellAt (holds_at hA 0 rfl) 0 _ rfl
  have c2 := cellAt (holds_at hA 0 rfl) 1 _ rfl
  have c3 := cellAt (holds_at hA 0 rfl) 2 _ rfl
  have HW3 : Hid (Below w.heap.size w (w2.alloc (.cells #[.int .i64 c, .int .i64 r, .slice (some ⟨g, 0, none⟩) n n] 73))) := HW2.out.alloc HW2.out.size _
  clear hn hh hb2 hA HW2
  go_wp2_with fail
  refine Calls.mono (solve_bad c r n n lv cv (some ⟨g, 0, none⟩) b _ s (cell_later HW3.out HS.out) (fun hh => h (by omega))) ?_
  rintro e w3 ⟨he3, hb3⟩
  unfold noSol at he3
  subst he3
  have HW4 : Hid (Below w.heap.size w w3) := HW3.out.trans (hb3.mono HW3.out.size)
  unfold errAt at *
  clear hb3
  go_wp2
  refine bodyPost_ret (v := .tuple #[.slice none 0 0, .bool false, .iface 191 (.pointer (some s))]) (by simp [results, Tryz.results90, go_sem]) rfl ?_
  exact ⟨rfl, HW4.out⟩
end Go.Proofs.YtkoakingmnjdoaaGreatDoor

/- What rises and Check of package damage answer, of all numbers; nothing that was there turns. -/
namespace Go.Proofs.YtkoakingmnjdoaaGreatDoor
open Go.RowKit Gf
set_option linter.unusedVariables false
set_option maxRecDepth 20000
theorem rises_F (l cap : Nat) (a : Option Addr) (ns : List Int) (x : Int) (w : World) (hl : l = ns.length) (hl9 : l ≤ 4611686018427387904) (hX : RowI w a ns) :
    Calls Tryz.prog 87 #[.slice a l cap, .int .i64 x] w fun e w' => e = .returned (.bool (decide (ns = [] ∨ ns.getD (ns.length - 1) 0 < x))) ∧ w = w' := by
  by_cases h0 : ns = []
  · subst h0
    obtain rfl : l = 0 := hl
    go_enter Tryz.func87, Tryz.ntmps87
    go_wp2
    go_ret
    exact ⟨rfl, rfl⟩
  · have hp := List.length_pos_iff.2 h0
    obtain ⟨m, hm⟩ : ∃ m, ns.length = m + 1 := ⟨ns.length - 1, by omega⟩
    rw [hm] at hl
    subst hl
    obtain ⟨b, off, rfl, hb, hc⟩ := rowI_cell hX (show m < ns.length by omega)
    have c1 := hc m (by omega)
    have e2 : decide (ns = [] ∨ ns.getD (ns.length - 1) 0 < x) = decide (ns.getD m 0 < x) := by
      rw [hm]; simp [h0]
    rw [e2]
    generalize ns.getD m 0 = y at c1 ⊢
    clear hc hX hm h0 hp e2
    go_enter Tryz.func87, Tryz.ntmps87
    go_wp2
    go_ret
    exact ⟨rfl, rfl⟩
/-- the error of a number -/
def evH (E : Nat → Addr) (n : Nat) : Value := if n = 0 then .nilIface else errAt (E (n - 1))
/-- the error of a list of lost halves -/
noncomputable def chkE (k r : Int) (xs : List Int) : Nat := open Classical in if LegalP k r then (if GoodH (2 * (k + r)).toNat xs then 0 else 4) else 1
theorem chkE_ok {k r : Nat} {xs : List Int} (h1 : 1 ≤ k) (h2 : 2 ≤ r) (h3 : k + r ≤ 16) (h : GoodH (2 * (k + r)) xs) : chkE k r xs = 0 := by
  unfold chkE
  rw [if_pos (show LegalP (k : Int) r by unfold LegalP; omega), if_pos (show GoodH (2 * ((k : Int) + r)).toNat xs by rw [show (2 * ((k : Int) + r)).toNat = 2 * (k + r) by omega]; exact h)]
theorem chkE_no {k r : Nat} {xs : List Int} (h1 : 1 ≤ k) (h2 : 2 ≤ r) (h3 : k + r ≤ 16) (h : ¬ GoodH (2 * (k + r)) xs) : chkE k r xs = 4 := by
  unfold chkE
  rw [if_pos (show LegalP (k : Int) r by unfold LegalP; omega), if_neg (show ¬ GoodH (2 * ((k : Int) + r)).toNat xs by rw [show (2 * ((k : Int) + r)).toNat = 2 * (k + r) by omega]; exact h)]
theorem chkE_bad {k r : Int} {xs : List Int} (h : ¬ LegalP k r) : chkE k r xs = 1 := by
  unfold chkE; rw [if_neg h]
/-- what Check names -/
def ErrsH (w : World) (E : Nat → Addr) : Prop := w.cell? ⟨0, 0, none⟩ = some (errAt (E 0)) ∧ w.cell? ⟨1, 0, none⟩ = some (errAt (E 3))
theorem errsH_below {w w' : World} {E : Nat → Addr} (h : ErrsH w E) (hb : Below w.heap.size w w') : ErrsH w' E := ⟨cell_later hb h.1, cell_later hb h.2⟩
theorem rowI_take {w : World} {a : Option Addr} {ns : List Int} (h : RowI w a ns) (j : Nat) : RowI w a (ns.take j) := by
  rcases h with h | ⟨b, off, e, h⟩
  · exact .inl (by rw [h, List.take_nil])
  · refine .inr ⟨b, off, e, fun q n hq => h q n ?_⟩
    rw [List.getElem?_take] at hq
    split at hq
    · exact hq
    · cases hq
set_option maxHeartbeats 2000000 in
theorem dcheck_legal (k r l cap : Nat) (a : Option Addr) (xs : List Int) (w : World) (E : Nat → Addr) (hE : ErrsH w E) (h1 : 1 ≤ k) (h2 : 2 ≤ r) (h3 : k + r ≤ 16) (hl : l = xs.length) (hl9 : l ≤ 4611686018427387904) (hcap : l ≤ cap) (hX : RowI w a xs) :
    Calls Tryz.prog 56 #[.int .i64 k, .int .i64 r, .slice a l cap] w fun e w' => e = .returned (evH E (chkE k r xs)) ∧ Below w.heap.size w w' := by
  have HE : Hid _ := hE
  have HL : Hid (l = xs.length) := hl
  have HX : Hid (RowI w a xs) := hX
  have HOK : Hid (GoodH (2 * (k + r)) xs → chkE k r xs = 0) := fun h => chkE_ok h1 h2 h3 h
  have HNO : Hid (¬ GoodH (2 * (k + r)) xs → chkE k r xs = 4) := fun h => chkE_no h1 h2 h3 h
  clear hE hl hX
  go_enter Tryz.func56, Tryz.ntmps56
  go_wp2_with fail
  refine (bcheck_ok _ _ _ h1 h2 h3).mono ?_
  rintro e w' ⟨rfl, rfl⟩
  go_wp2
  go_loopw [21] (fun i wr => ∃ j : Nat, j ≤ l ∧ i = .int .i64 j ∧ Below w.heap.size w wr ∧ GoodH (2 * (k + r)) (xs.take j)) (fun i _ => l - (intOf i).toNat)
  case atStart => exact ⟨0, by omega, rfl, Below.refl _ _, by rw [List.take_zero]; exact goodH_nil _⟩
  case round =>
    obtain ⟨j, hj, rfl, hb, hg⟩ := hrel
    have HB : Hid _ := hb
    have HG : Hid (GoodH (2 * (k + r)) (xs.take j)) := hg
    clear hb hg
    by_cases hlt : j < l
    · have hjx : j < xs.length := by rw [← HL.out]; exact hlt
      have HS := goodH_step hjx HG.out
      obtain ⟨b, off, hab, hbl, hc⟩ := rowI_cell (rowI_below HX.out HB.out) hjx
      have c1 := hc j hjx
      rw [show xs.getD j 0 = xs[j] by simp [List.getD, hjx]] at c1
      have HR : Hid (∀ w', Below w.heap.size w w' → Calls Tryz.prog 87 #[.slice a j cap, .int .i64 xs[j]] w' fun e w2 => e = .returned (.bool (decide (xs.take j = [] ∨ (xs.take j).getD ((xs.take j).length - 1) 0 < xs[j]))) ∧ w' = w2) := fun w' hb =>
        rises_F j cap a (xs.take j) xs[j] w' (by rw [List.length_take]; omega) (by omega) (rowI_take (rowI_below HX.out hb) j)
      have HNG : Hid (¬ GoodH (2 * (k + r)) (xs.take (j + 1)) → ¬ GoodH (2 * (k + r)) xs) := fun h h2 => h (goodH_take h2 _)
      have HQ : Hid (decide (xs.take j = [] ∨ (xs.take j).getD ((xs.take j).length - 1) 0 < xs[j]) = false → ¬ GoodH (2 * (k + r)) (xs.take (j + 1))) := fun h h2 => of_decide_eq_false h (HS.1 h2).2
      have HQ2 : Hid (decide (xs.take j = [] ∨ (xs.take j).getD ((xs.take j).length - 1) 0 < xs[j]) = true → (0 ≤ xs[j] ∧ xs[j] < ((2 * (k + r) : Nat) : Int)) → GoodH (2 * (k + r)) (xs.take (j + 1))) := fun h h2 => HS.2 ⟨h2, of_decide_eq_true h⟩
      have HQ3 : Hid (¬ (0 ≤ xs[j] ∧ xs[j] < ((2 * (k + r) : Nat) : Int)) → ¬ GoodH (2 * (k + r)) (xs.take (j + 1))) := fun h h2 => h (HS.1 h2).1
      generalize decide (xs.take j = [] ∨ (xs.take j).getD ((xs.take j).length - 1) 0 < xs[j]) = q at *
      generalize hx : xs[j] = x at *
      clear hx hc HS hjx
      subst hab
      by_cases hin : 0 ≤ x ∧ x < ((2 * (k + r) : Nat) : Int)
      · obtain ⟨s, p, hp, hs, en⟩ : ∃ s p : Nat, p < 2 ∧ s < k + r ∧ x = ((2 * s + p : Nat) : Int) := ⟨x.toNat / 2, x.toNat % 2, by omega, by omega, by omega⟩
        have HIN : Hid _ := HQ2.out
        have HT : Hid (q = true → GoodH (2 * (k + r)) (xs.take (j + 1))) := fun h => HQ2.out h hin
        clear HIN HQ2 HQ3 hin
        subst en
        go_wp2_with fail
        refine Calls.mono (hsplit_ok k r _ s p _ h1 h2 h3 rfl hp hs) ?_
        rintro e w2 ⟨rfl, hb2⟩
        have HB2 : Hid _ := HB.out.trans (hb2.mono HB.out.size)
        clear hb2
        go_wp2_with fail
        refine Calls.mono (HR.out _ HB2.out) ?_
        rintro e w3 ⟨rfl, rfl⟩
        cases hq : q
        · have HBAD : Hid _ := HNO.out (HNG.out (HQ.out hq))
          have c3 := (errsH_below HE.out HB2.out).2
          clear hq HQ HT
          unfold errAt at c3
          go_wp2
          go_ret
          exact ⟨by rw [HBAD.out]; rfl, HB2.out⟩
        · have HGO : Hid _ := HT.out hq
          clear hq HQ HT
          go_wp2
          exact ⟨⟨j + 1, by omega, by go_num, HB2.out, HGO.out⟩, by simp [intOf]; omega⟩
      · have HBAD : Hid _ := HNO.out (HNG.out (HQ3.out hin))
        have HSP : Hid _ := hsplit_no k r x
        have HIN : Hid _ := hin
        clear hin HQ HQ2 HQ3 HNG
        go_wp2_with fail
        refine Calls.mono (HSP.out _ (E 3) (errsH_below HE.out HB.out).2 h1 h2 h3 (fun h => HIN.out (by omega))) ?_
        unfold errAt
        rintro e w2 ⟨rfl, hb2⟩
        have HB2 : Hid _ := HB.out.trans (hb2.mono HB.out.size)
        clear hb2
        go_wp2
        go_ret
        exact ⟨by rw [HBAD.out]; rfl, HB2.out⟩
    · obtain rfl : j = l := by omega
      have HF : Hid (GoodH (2 * (k + r)) xs) := by have := HG.out; rwa [HL.out, List.take_length] at this
      go_wp2
      go_ret
      exact ⟨by rw [HOK.out HF.out]; rfl, HB.out⟩
theorem dcheck_F (k r : Int) (l cap : Nat) (a : Option Addr) (xs : List Int) (w : World) (E : Nat → Addr) (hE : ErrsH w E) (hk0 : -9223372036854775808 ≤ k) (hk1 : k ≤ 9223372036854775807) (hr0 : -9223372036854775808 ≤ r) (hr1 : r ≤ 9223372036854775807)
    (hl : l = xs.length) (hl9 : l ≤ 4611686018427387904) (hcap : l ≤ cap) (hX : RowI w a xs) :
    Calls Tryz.prog 56 #[.int .i64 k, .int .i64 r, .slice a l cap] w fun e w' => e = .returned (evH E (chkE k r xs)) ∧ Below w.heap.size w w' := by
  by_cases hL : LegalP k r
  · obtain ⟨a1, b1, rfl, rfl, h1, h2, h3⟩ := legal_nat hL
    exact dcheck_legal a1 b1 l cap a xs w E hE h1 h2 h3 hl hl9 hcap hX
  · rw [chkE_bad hL]
    have HS : Hid _ := hE.1
    clear hE hl hX hcap hl9
    go_enter Tryz.func56, Tryz.ntmps56
    go_wp2_with fail
    refine Calls.mono (bcheck_bad k r _ (E 0) HS.out hk0 hk1 hr0 hr1 hL) ?_
    rintro e w' ⟨rfl, rfl⟩
    unfold errAt
    go_wp2
    go_ret
    exact ⟨rfl, Below.refl _ _⟩
end Go.Proofs.YtkoakingmnjdoaaGreatDoor

/- The library's contracts that stage 8 leans on, laid at this program in plain words. -/
namespace Go.Proofs.YtkoakingmnjdoaaGreatDoor
open Go.Shelf
set_option linter.unusedVariables false
set_option maxRecDepth 20000
def Tryz.keysA_ren : Go.Shelf.Ren := ⟨fun | 7 => 200 | 10 => 203 | n => n, fun | 23 => 213 | 26 => 3 | 3 => 96 | 28 => 242 | 0 => 0 | 27 => 241 | 33 => 157 | 4 => 4 | n => n, fun | n => n⟩
theorem Tryz.keysA : Go.Proofs.SlLaysZI.n7 Tryz.prog Tryz.keysA_ren := {
  mixed := by kernel_rfl
  f7 := ⟨Tryz.f200.name, by decide, Tryz.func200.trans (congrArg some (by kernel_rfl))⟩
  f10 := ⟨Tryz.f203.name, by decide, Tryz.func203.trans (congrArg some (by kernel_rfl))⟩
  t0 := Tryz.underlying0
  a0 := Tryz.isAgg0
  z0 := Tryz.sizeOf0
  v0 := Tryz.zeroValue0
  t4 := Tryz.underlying4
  a4 := Tryz.isAgg4
  z4 := Tryz.sizeOf4
  v4 := Tryz.zeroValue4
  t23 := Tryz.underlying213
  a23 := Tryz.isAgg213
  z23 := Tryz.sizeOf213
  v23 := Tryz.zeroValue213
  t26 := Tryz.underlying3
  a26 := Tryz.isAgg3
  z26 := Tryz.sizeOf3
  v26 := Tryz.zeroValue3
  t27 := Tryz.underlying241
  a27 := Tryz.isAgg241
  z27 := Tryz.sizeOf241
  v27 := Tryz.zeroValue241
  t28 := Tryz.underlying242
  a28 := Tryz.isAgg242
  z28 := Tryz.sizeOf242
  v28 := Tryz.zeroValue242
  t33 := Tryz.underlying157
  a33 := Tryz.isAgg157
  z33 := Tryz.sizeOf157
  v33 := Tryz.zeroValue157 }
def Tryz.sortedA_ren : Go.Shelf.Ren := ⟨fun | 6 => 199 | 8 => 202 | 9 => 173 | 11 => 204 | 13 => 176 | 12 => 175 | 23 => 186 | 24 => 187 | 14 => 177 | 15 => 178 | 16 => 179 | 17 => 180 | 18 => 181 | 19 => 182 | 20 => 183 | 21 => 184 | 22 => 185 | 25 => 188 | 26 => 189 | 27 => 190 | 28 => 191 | 29 => 192 | 30 => 193 | 31 => 194 | n => n, fun | 26 => 3 | 28 => 242 | 24 => 22 | 0 => 0 | 3 => 3 | 37 => 183 | 48 => 199 | 50 => 228 | 4 => 4 | 40 => 220 | 39 => 219 | 45 => 224 | 5 => 5 | 9 => 9 | 51 => 229 | 55 => 233 | 57 => 235 | 58 => 58 | 33 => 157 | n => n, fun | n => n⟩
theorem Tryz.sortedA : Go.Proofs.SlLaysZI.n6 Tryz.prog Tryz.sortedA_ren := {
  mixed := by kernel_rfl
  f6 := ⟨Tryz.f199.name, by decide, Tryz.func199.trans (congrArg some (by kernel_rfl))⟩
  f8 := ⟨Tryz.f202.name, by decide, Tryz.func202.trans (congrArg some (by kernel_rfl))⟩
  f11 := ⟨Tryz.f204.name, by decide, Tryz.func204.trans (congrArg some (by kernel_rfl))⟩
  t0 := Tryz.underlying0
  a0 := Tryz.isAgg0
  z0 := Tryz.sizeOf0
  v0 := Tryz.zeroValue0
  t24 := Tryz.underlying22
  a24 := Tryz.isAgg22
  z24 := Tryz.sizeOf22
  v24 := Tryz.zeroValue22
  t26 := Tryz.underlying3
  a26 := Tryz.isAgg3
  z26 := Tryz.sizeOf3
  v26 := Tryz.zeroValue3
  t28 := Tryz.underlying242
  a28 := Tryz.isAgg242
  z28 := Tryz.sizeOf242
  v28 := Tryz.zeroValue242
  i26 := by kernel_rfl }
def Tryz.sortA_ren : Go.Shelf.Ren := ⟨fun | 5 => 173 | 8 => 176 | 7 => 175 | 19 => 186 | 20 => 187 | 10 => 177 | 11 => 178 | 12 => 179 | 13 => 180 | 14 => 181 | 15 => 182 | 16 => 183 | 17 => 184 | 18 => 185 | 30 => 188 | 31 => 189 | 32 => 190 | 33 => 191 | 34 => 192 | 35 => 193 | 40 => 194 | n => n, fun | 23 => 22 | 25 => 3 | 3 => 3 | 32 => 183 | 22 => 22 | 0 => 0 | 44 => 199 | 46 => 228 | 4 => 4 | 36 => 220 | 35 => 219 | 41 => 224 | 5 => 5 | 9 => 9 | 53 => 229 | 57 => 233 | 63 => 235 | 64 => 58 | n => n, fun | n => n⟩
theorem Tryz.sortA : Go.Proofs.SlLaysM.n5 Tryz.prog Tryz.sortA_ren := {
  mixed := by kernel_rfl
  f5 := ⟨Tryz.f173.name, by decide, Tryz.func173.trans (congrArg some (by kernel_rfl))⟩
  f7 := ⟨Tryz.f175.name, by decide, Tryz.func175.trans (congrArg some (by kernel_rfl))⟩
  f8 := Tryz.func176.trans (congrArg some (by kernel_rfl))
  f10 := ⟨Tryz.f177.name, by decide, Tryz.func177.trans (congrArg some (by kernel_rfl))⟩
  f11 := ⟨Tryz.f178.name, by decide, Tryz.func178.trans (congrArg some (by kernel_rfl))⟩
  f12 := ⟨Tryz.f179.name, by decide, Tryz.func179.trans (congrArg some (by kernel_rfl))⟩
  f13 := ⟨Tryz.f180.name, by decide, Tryz.func180.trans (congrArg some (by kernel_rfl))⟩
  f14 := ⟨Tryz.f181.name, by decide, Tryz.func181.trans (congrArg some (by kernel_rfl))⟩
  f15 := ⟨Tryz.f182.name, by decide, Tryz.func182.trans (congrArg some (by kernel_rfl))⟩
  f16 := ⟨Tryz.f183.name, by decide, Tryz.func183.trans (congrArg some (by kernel_rfl))⟩
  f17 := ⟨Tryz.f184.name, by decide, Tryz.func184.trans (congrArg some (by kernel_rfl))⟩
  f18 := ⟨Tryz.f185.name, by decide, Tryz.func185.trans (congrArg some (by kernel_rfl))⟩
  f19 := Tryz.func186.trans (congrArg some (by kernel_rfl))
  f20 := Tryz.func187.trans (congrArg some (by kernel_rfl))
  f30 := ⟨Tryz.f188.name, by decide, Tryz.func188.trans (congrArg some (by kernel_rfl))⟩
  f31 := Tryz.func189.trans (congrArg some (by kernel_rfl))
  f32 := Tryz.func190.trans (congrArg some (by kernel_rfl))
  f33 := ⟨Tryz.f191.name, by decide, Tryz.func191.trans (congrArg some (by kernel_rfl))⟩
  f34 := ⟨Tryz.f192.name, by decide, Tryz.func192.trans (congrArg some (by kernel_rfl))⟩
  f35 := ⟨Tryz.f193.name, by decide, Tryz.func193.trans (congrArg some (by kernel_rfl))⟩
  f40 := ⟨Tryz.f194.name, by decide, Tryz.func194.trans (congrArg some (by kernel_rfl))⟩
  t0 := Tryz.underlying0
  a0 := Tryz.isAgg0
  z0 := Tryz.sizeOf0
  v0 := Tryz.zeroValue0
  t3 := Tryz.underlying3
  a3 := Tryz.isAgg3
  z3 := Tryz.sizeOf3
  v3 := Tryz.zeroValue3
  t4 := Tryz.underlying4
  a4 := Tryz.isAgg4
  z4 := Tryz.sizeOf4
  v4 := Tryz.zeroValue4
  t5 := Tryz.underlying5
  a5 := Tryz.isAgg5
  z5 := Tryz.sizeOf5
  v5 := Tryz.zeroValue5
  t9 := Tryz.underlying9
  a9 := Tryz.isAgg9
  z9 := Tryz.sizeOf9
  v9 := Tryz.zeroValue9
  t22 := Tryz.underlying22
  a22 := Tryz.isAgg22
  z22 := Tryz.sizeOf22
  v22 := Tryz.zeroValue22
  t23 := Tryz.underlying22
  a23 := Tryz.isAgg22
  z23 := Tryz.sizeOf22
  v23 := Tryz.zeroValue22
  t25 := Tryz.underlying3
  a25 := Tryz.isAgg3
  z25 := Tryz.sizeOf3
  v25 := Tryz.zeroValue3
  t32 := Tryz.underlying183
  a32 := Tryz.isAgg183
  z32 := Tryz.sizeOf183
  v32 := Tryz.zeroValue183
  t35 := Tryz.underlying219
  a35 := Tryz.isAgg219
  z35 := Tryz.sizeOf219
  v35 := Tryz.zeroValue219
  t36 := Tryz.underlying220
  a36 := Tryz.isAgg220
  z36 := Tryz.sizeOf220
  v36 := Tryz.zeroValue220
  t41 := Tryz.underlying224
  a41 := Tryz.isAgg224
  z41 := Tryz.sizeOf224
  v41 := Tryz.zeroValue224
  t44 := Tryz.underlying199
  a44 := Tryz.isAgg199
  z44 := Tryz.sizeOf199
  v44 := Tryz.zeroValue199
  t46 := Tryz.underlying228
  a46 := Tryz.isAgg228
  z46 := Tryz.sizeOf228
  v46 := Tryz.zeroValue228
  t53 := Tryz.underlying229
  a53 := Tryz.isAgg229
  z53 := Tryz.sizeOf229
  v53 := Tryz.zeroValue229
  t57 := Tryz.underlying233
  a57 := Tryz.isAgg233
  z57 := Tryz.sizeOf233
  v57 := Tryz.zeroValue233
  t63 := Tryz.underlying235
  a63 := Tryz.isAgg235
  z63 := Tryz.sizeOf235
  v63 := Tryz.zeroValue235
  t64 := Tryz.underlying58
  a64 := Tryz.isAgg58
  z64 := Tryz.sizeOf58
  v64 := Tryz.zeroValue58 }
end Go.Proofs.YtkoakingmnjdoaaGreatDoor

/- The library's calls of stage 8: the keys of a map of numbers, sorted; texts joined; where a byte first stands in a text. -/
namespace Go.Proofs.YtkoakingmnjdoaaGreatDoor
open Go.RowKit Go.Maps Go.Sort Go.Shelf Gf
set_option linter.unusedVariables false
set_option maxRecDepth 20000
/-- the two contracts of slices.Sort at this program -/
theorem sortsA (m : Nat) : AnyZI.SortsIn Tryz.prog Tryz.sortedA_ren Fence.wide m :=
  ⟨fun blk off cap ss W hH hblk hsz => callsIn_wide.2 (AnyM.slices_Sort_int Tryz.sortA blk off cap ss W hH hblk hsz),
   fun p cap W => callsIn_wide.2 (AnyM.slices_Sort_int_none Tryz.sortA p cap W)⟩
theorem keys_F (mb : Value) (b : Option Nat) (hm : mb = .map b) (w : World) : Calls Tryz.prog 200 #[mb] w fun e w' =>
    e = .returned (.func (.func 203) #[] #[.pointer (some ⟨w.heap.size, 0, none⟩)]) ∧ w' = w.alloc (.cells #[mb] 213) := by
  subst hm
  exact (callsIn_wide (n := 5)).1 (AnyZI.keys_in Tryz.keysA Fence.wide 5 trivial rfl b w)
/-- the keys of a map that lies in a block of one cell: a new slice of them, rising -/
theorem sorted_F {H : Type} (b nn g : Nat) (D0 : DataW H) (R : Value → Option (DataW H × List MemPlace)) (w : World) (hown : w.ownsMap Tryz.prog 3 R b nn D0) (hg : w.heap[g]? = some (.cells #[.map (some b)] 213 (0, 0)))
    (hmax : Maps.size D0 ≤ maxLen) (hbytes : Maps.size D0 * 8 ≤ 140737488355328) :
    Calls Tryz.prog 199 #[.func (.func 203) #[] #[.pointer (some ⟨g, 0, none⟩)]] w fun e w' => ∃ (v : Value) (ss : List Int), e = .returned v ∧ ss.Perm (intKeys D0) ∧
      w'.ownsRow w.heap.size 3 1 v ss.length ((ss.mergeSort (fun x y => decide (x ≤ y))).map (Value.int .i64)) ∧ (v = .slice none 0 0 ↔ ss = []) ∧ Below w.heap.size w w' := by
  have hgl : g < w.heap.size := ltHeap hg
  have c1 := cellAt hg 0 _ rfl
  have hseq : SeqGives Fence.wide 2 Tryz.prog 203 #[.pointer (some ⟨g, 0, none⟩)] encZ (fun ss => ss.Perm (intKeys D0)) (Maps.size D0) w :=
    AnyZI.keys_gives (ρ := Tryz.keysA_ren) { Tryz.keysA with } Fence.wide _ trivial rfl (by omega) g b nn D0 _ hgl c1 hown
  refine (callsIn_wide (n := 5)).1 ?_
  exact AnyZI.sorted_in Tryz.sortedA Fence.wide 5 trivial trivial trivial trivial rfl (by omega) (sortsA _) (enters_of Tryz.func173 (by kernel_rfl) rfl) 203 #[.pointer (some ⟨g, 0, none⟩)] trivial (enters_of Tryz.func203 (by kernel_rfl) rfl) _ _ hmax hbytes _ hseq
end Go.Proofs.YtkoakingmnjdoaaGreatDoor

/- What leftOf of package damage answers: a map of its own whose keys are what is left; nothing that was there turns. -/
namespace Go.Proofs.YtkoakingmnjdoaaGreatDoor
open Go.RowKit Go.Maps Gf
set_option linter.unusedVariables false
set_option maxRecDepth 20000
theorem lawI : Keyed Tryz.prog 3 := int_keyed Tryz.underlying3
/-- the numbers that are keys of a map -/
def SetF (D : DataW Unit) (p : Int → Prop) : Prop := ∀ x : Int, has D (.int .i64 x) = true ↔ p x
theorem setF_put {D : DataW Unit} {p q : Int → Prop} {y : Int} {d : DataW Unit} (h : SetF D p) (hD : IsMap D) (hk : keyOf Tryz.prog 3 (.int .i64 y) = some (.int .i64 y)) (hq : ∀ x, q x ↔ p x ∨ x = y) : SetF (D.put (.int .i64 y) d) q := fun x => by
  rw [hq]
  by_cases e : x = y
  · subst e
    exact ⟨fun _ => .inr rfl, fun _ => has_put_same hD (lawI.key hk) d⟩
  · rw [has_put_other (fun h => e (by injection h)) d, h x]
    exact ⟨.inl, fun hh => hh.resolve_right e⟩
theorem setF_del {D : DataW Unit} {p q : Int → Prop} {y : Int} (h : SetF D p) (hq : ∀ x, q x ↔ p x ∧ x ≠ y) : SetF (D.del (.int .i64 y)) q := fun x => by
  rw [hq]
  by_cases e : x = y
  · subst e
    rw [has_del_same]
    exact ⟨fun h => (by cases h), fun h => absurd rfl h.2⟩
  · rw [has_del_other (fun h => e (by injection h)), h x]
    exact ⟨fun h => ⟨h, e⟩, fun h => h.1⟩
theorem setF_empty : SetF (.map []) (fun x => 0 ≤ x ∧ x < ((0 : Nat) : Int)) := fun x => ⟨fun h => by simp [has_eq] at h, fun h => by omega⟩
theorem key_i64 {x : Int} (h : -9223372036854775808 ≤ x ∧ x ≤ 9223372036854775807) : keyOf Tryz.prog 3 (.int .i64 x) = some (.int .i64 x) := keyOf_int_mk Tryz.underlying3 (WalkArith.wf_i64 (by omega))
theorem setF_perm {w : World} {b n : Nat} {D : DataW Unit} {L ss : List Int} (hown : w.ownsMap Tryz.prog 3 (unitElem (H := Unit)) b n D) (h : SetF D (· ∈ L)) (hn : L.Nodup) (hs : ss.Perm (intKeys D)) : ss.Perm L := by
  obtain ⟨es, hD, hpw, _⟩ := hown.entries lawI
  obtain ⟨es', hD', hko⟩ := hown.keysOf
  obtain rfl : es = es' := by rw [hD] at hD'; simpa using hD'
  subst hD
  exact hs.trans (perm_intKeys hpw (fun p hp => by obtain ⟨v, hv⟩ := hko p hp; obtain ⟨x, _, hx, _⟩ := Maps.keyOf_i64 Tryz.underlying3 hv; exact ⟨x, hx⟩) hn (fun x => (h x).symm)).symm
set_option maxHeartbeats 2000000 in
theorem leftOf_F (k r l cap : Nat) (a : Option Addr) (ns : List Nat) (w : World) (h3 : k + r ≤ 16) (hl : l = ns.length) (hcap : l ≤ cap) (hX : RowI w a (natJ8 ns)) (hr : ∀ x ∈ ns, x < 2 * (k + r)) (hl9 : l ≤ 32) :
    Calls Tryz.prog 174 #[.int .i64 k, .int .i64 r, .slice a l cap] w fun e w' => ∃ D : DataW Unit, e = .returned (.map (some w.heap.size)) ∧ w'.ownsMap Tryz.prog 3 (unitElem (H := Unit)) w.heap.size 32 D ∧
      SetF D (fun x => x ∈ natJ8 (leftL (2 * (k + r)) ns)) ∧ Below w.heap.size w w' := by
  have HL : Hid (l = ns.length) := hl
  have HX : Hid (RowI w a (natJ8 ns)) := hX
  have HR : Hid (∀ x ∈ ns, x < 2 * (k + r)) := hr
  clear hl hX hr
  have hmm := @run_makeMap Tryz.prog
  go_enter Tryz.func174, Tryz.ntmps174
  go_wp2
  go_loopw [16] (fun i wr => ∃ j : Nat, j ≤ 2 * (k + r) ∧ i = .int .i64 j ∧ Below w.heap.size w wr ∧ ∃ D : DataW Unit, wr.ownsMap Tryz.prog 3 (unitElem (H := Unit)) w.heap.size j D ∧ SetF D (fun x => 0 ≤ x ∧ x < (j : Int))) (fun i _ => 2 * (k + r) - (intOf i).toNat)
  case atStart => exact ⟨0, by omega, rfl, (Below.refl _ _).alloc (Nat.le_refl _) _, _, World.ownsMap_made _ _ _ _, setF_empty⟩
  case round =>
    obtain ⟨j, hj, rfl, hb, D, hown, hset⟩ := hrel
    have HB : Hid _ := hb
    have HSET : Hid _ := hset
    clear hb hset
    by_cases hlt : j < 2 * (k + r)
    · have hkey := key_i64 (x := (j : Int)) (by omega)
      go_wp2_with (at_mapUpdate; refine wpList_mapUpdate_own _ rfl _ _ _ 213 rfl 3 96 lawI Tryz.underlying213 (unitElem (H := Unit)) w.heap.size j D rfl hown (by unfold maxLen; omega) _ _ _ rfl rfl hkey _ [] unitElem_mk ?_; intro w1 hown1 hgrow1)
      exact ⟨⟨j + 1, by omega, by go_num, HB.out.grown hgrow1 HB.out.size (fun j hj => by cases hj; exact Nat.le_refl _), _, hown1, setF_put HSET.out hown.isMap hkey (fun x => by omega)⟩, by simp [intOf]; omega⟩
    · obtain rfl : j = 2 * (k + r) := by omega
      have HS0 : Hid (SetF D (fun x => x ∈ natJ8 (leftL (2 * (k + r)) (ns.take 0)))) := fun x => by
        rw [HSET.out x, natJ8]
        simp only [List.mem_map, mem_leftL, List.take_zero]
        constructor
        · intro h; exact ⟨x.toNat, ⟨by omega, by simp⟩, by omega⟩
        · rintro ⟨y, ⟨h, _⟩, rfl⟩; omega
      clear HSET
      have hown0 := hown.mono (show 2 * (k + r) ≤ 32 by omega)
      clear hown
      go_wp2
      go_loopw [25] (fun i wq => ∃ j : Nat, j ≤ l ∧ i = .int .i64 j ∧ Below w.heap.size w wq ∧ ∃ D : DataW Unit, wq.ownsMap Tryz.prog 3 (unitElem (H := Unit)) w.heap.size 32 D ∧ SetF D (fun x => x ∈ natJ8 (leftL (2 * (k + r)) (ns.take j)))) (fun i _ => l - (intOf i).toNat)
      case atStart => exact ⟨0, by omega, rfl, HB.out, _, hown0, HS0.out⟩
      case round =>
        obtain ⟨i, hi, rfl, hb, D2, hown, hset⟩ := hrel
        have HB2 : Hid _ := hb
        have HSET : Hid _ := hset
        clear hb hset hown0
        by_cases hlt : i < l
        · have hin : i < ns.length := by rw [← HL.out]; exact hlt
          obtain ⟨b, off, hab, hbl, hc⟩ := rowI_cell (rowI_below HX.out HB2.out) (show i < (natJ8 ns).length by rw [natJ8_len]; exact hin)
          have c1 := hc i (by rw [natJ8_len]; exact hin)
          rw [show (natJ8 ns).getD i 0 = ((ns[i] : Nat) : Int) by simp [natJ8, List.getD, hin]] at c1
          have hx9 := HR.out _ (List.getElem_mem hin)
          have HT : Hid (ns.take (i + 1) = ns.take i ++ [ns[i]]) := List.take_succ_eq_append_getElem hin
          generalize ns[i] = x at *
          clear hc
          subst hab
          have hkey := key_i64 (x := (x : Int)) (by omega)
          go_wp2_with (at_delete; refine wpList_delete_own _ rfl _ _ 213 3 rfl 96 lawI Tryz.underlying213 _ w.heap.size 32 D2 rfl hown _ _ rfl hkey ?_; intro w1 hown1 hturn1)
          refine ⟨⟨i + 1, by omega, by go_num, HB2.out.grown hturn1.grown HB2.out.size (fun j hj => by cases hj; exact Nat.le_refl _), _, hown1, setF_del HSET.out (fun y => ?_)⟩, by simp [intOf]; omega⟩
          rw [HT.out]
          simp only [natJ8, List.mem_map, mem_leftL, List.mem_append, List.mem_singleton, not_or]
          constructor
          · rintro ⟨z, ⟨h1, h2, h3⟩, rfl⟩; exact ⟨⟨z, ⟨h1, h2⟩, rfl⟩, by omega⟩
          · rintro ⟨⟨z, ⟨h1, h2⟩, rfl⟩, h3⟩; exact ⟨z, ⟨h1, h2, by omega⟩, rfl⟩
        · obtain rfl : i = l := by omega
          have hf := HSET.out
          rw [show ns.take i = ns by rw [HL.out, List.take_length]] at hf
          have HF : Hid _ := hf
          clear hf HSET
          go_wp2
          go_ret
          exact ⟨rfl, D2, hown, HF.out, HB2.out⟩
end Go.Proofs.YtkoakingmnjdoaaGreatDoor

/- What Left, Whole, Kind and Gone of package damage answer, of all arguments; nothing that was there turns. -/
namespace Go.Proofs.YtkoakingmnjdoaaGreatDoor
open Go.RowKit Go.Maps Gf
set_option linter.unusedVariables false
set_option maxRecDepth 20000
theorem natJ8_sort {L : List Nat} {ss : List Int} (h : L.Pairwise (· < ·)) (hp : ss.Perm (natJ8 L)) : ss.mergeSort (fun x y => decide (x ≤ y)) = natJ8 L := by
  have e := mergeSort_of_perm_i hp
  have hs : (natJ8 L).Pairwise (fun x y => leI x y = true) := by
    rw [natJ8, List.pairwise_map]
    exact h.imp fun h => decide_eq_true (by omega)
  rw [List.mergeSort_of_pairwise hs] at e
  exact e
theorem natJ8_nodup {L : List Nat} (h : L.Pairwise (· < ·)) : (natJ8 L).Nodup := by
  show (natJ8 L).Pairwise (· ≠ ·)
  rw [natJ8, List.pairwise_map]
  exact h.imp fun h => by omega
/-- a list that a call answers: the call's own, or none -/
def ListOf (w' : World) (B : Nat) (v : Value) (L : List Nat) : Prop := ∃ a cap, v = .slice a L.length cap ∧ L.length ≤ cap ∧ cap ≤ maxLen ∧ (a = none → cap = 0) ∧ RowI w' a (natJ8 L) ∧ (∀ p, a = some p → B ≤ p.block)
theorem listOf_own {w' : World} {B0 B n : Nat} {v : Value} {L : List Nat} (h0 : B0 ≤ B) (hn : n = L.length) (ho : w'.ownsRow B 3 1 v n ((natJ8 L).map (Value.int .i64))) : ListOf w' B0 v L := by
  subst hn
  rcases ho.2 with ⟨rfl, hz⟩ | ⟨g, cap, cur, rfl, hg, hb, h1, h2, h3, h4⟩
  · have e : L = [] := List.eq_nil_of_length_eq_zero hz
    subst e
    exact ⟨none, 0, rfl, Nat.le_refl _, Nat.zero_le _, fun _ => rfl, .inl rfl, fun p h => (by cases h)⟩
  · exact ⟨_, cap, rfl, h1, h2, fun h => (by cases h), rowI_own ho, fun p h => (by cases h; exact Nat.le_trans h0 hg)⟩
theorem listOf_below {w w' : World} {B : Nat} {v : Value} {L : List Nat} (h : ListOf w B v L) (hb : Below w.heap.size w w') : ListOf w' B v L := by
  obtain ⟨a, cap, e, h1, h2, h3, h4, h5⟩ := h
  exact ⟨a, cap, e, h1, h2, h3, rowI_below h4 hb, h5⟩
set_option maxHeartbeats 2000000 in
theorem left_legal (k r l cap : Nat) (a : Option Addr) (ns : List Nat) (w : World) (E : Nat → Addr) (hE : ErrsH w E) (h1 : 1 ≤ k) (h2 : 2 ≤ r) (h3 : k + r ≤ 16) (hl : l = ns.length) (hcap : l ≤ cap) (hX : RowI w a (natJ8 ns)) (hu : ns.Pairwise (· < ·)) (hr : ∀ x ∈ ns, x < 2 * (k + r)) :
    Calls Tryz.prog 197 #[.int .i64 k, .int .i64 r, .slice a l cap] w fun e w' => ∃ v, e = .returned (.tuple #[v, .nilIface]) ∧ ListOf w' w.heap.size v (leftL (2 * (k + r)) ns) ∧ Below w.heap.size w w' := by
  have hlen : l ≤ 32 := by have := pair_len hu hr; omega
  have HC : Hid _ := dcheck_legal k r l cap a (natJ8 ns) w E hE h1 h2 h3 (by rw [natJ8_len]; exact hl) (by omega) hcap hX
  have HZ : Hid _ := chkE_ok h1 h2 h3 (goodH_of hu hr)
  have HL : Hid (l = ns.length) := hl
  have HX : Hid (RowI w a (natJ8 ns)) := hX
  have HR : Hid (∀ x ∈ ns, x < 2 * (k + r)) := hr
  clear hl hX hr hu hE
  go_enter Tryz.func197, Tryz.ntmps197
  go_wp2_with fail
  refine Calls.mono HC.out ?_
  rw [HZ.out]
  rintro e w1 ⟨rfl, hb1⟩
  have HB1 : Hid _ := hb1
  clear hb1
  rw [show evH E 0 = Value.nilIface from rfl]
  go_wp2_with fail
  refine Calls.mono (leftOf_F k r l cap a ns w1 h3 HL.out hcap (rowI_below HX.out HB1.out) HR.out hlen) ?_
  rintro e w2 ⟨D, rfl, hown, hset, hb2⟩
  have HB2 : Hid _ := HB1.out.trans (hb2.mono HB1.out.size)
  have HSZ : Hid _ := hown.size_le
  have HSP : Hid (∀ ss : List Int, ss.Perm (intKeys D) → ss.Perm (natJ8 (leftL (2 * (k + r)) ns))) := fun ss h => setF_perm hown hset (natJ8_nodup (leftL_up _ _)) h
  have HOWN : Hid (w2.ownsMap Tryz.prog 3 (unitElem (H := Unit)) w1.heap.size 32 D) := hown
  have HB3 : Hid _ := HB2.out.alloc HB2.out.size (.cells #[.map (some w1.heap.size)] 213)
  clear hb2 hown hset
  go_wp2_with fail
  refine Calls.mono (keys_F _ _ rfl _) ?_
  rintro e w3 ⟨rfl, hw3⟩
  subst hw3
  go_wp2_with fail
  refine Calls.mono (sorted_F w1.heap.size 32 w2.heap.size D (unitElem (H := Unit)) _ (HOWN.out.alloc _) (holds_at (holds_new (holds_nil w2) #[.map (some w1.heap.size)] 213) 0 rfl) (by have := HSZ.out; unfold maxLen; omega) (by have := HSZ.out; omega)) ?_
  rintro e w4 ⟨v, ss, rfl, hperm, hrow, hnil, hb4⟩
  have e9 := natJ8_sort (leftL_up _ _) (HSP.out ss hperm)
  have hlen9 : ss.length = (leftL (2 * (k + r)) ns).length := by rw [(HSP.out ss hperm).length_eq, natJ8_len]
  rw [e9, hlen9] at hrow
  have HV : Hid (ListOf w4 w.heap.size v (leftL (2 * (k + r)) ns)) := listOf_own HB3.out.size rfl hrow
  have HB4 : Hid _ := HB3.out.trans (hb4.mono HB3.out.size)
  clear hb4 hrow hnil hperm e9 hlen9
  go_wp2
  go_ret2
  exact ⟨v, rfl, HV.out, HB4.out⟩
end Go.Proofs.YtkoakingmnjdoaaGreatDoor

/- What Gone of package damage answers of legal arguments: by the rank of the rows that are left. -/
namespace Go.Proofs.YtkoakingmnjdoaaGreatDoor
open Go.RowKit Go.Maps Gf
set_option linter.unusedVariables false
set_option maxRecDepth 20000
theorem take_grid8 {k n : Nat} {xs : List F} {A : Nat → Nat → F} {L : List Nat} (hn : ∀ x ∈ L, x < n) (hx : xs = grid k A n) : (takeM k xs (natJ8 L)).flatten = grid k (fun i j => A (L.getD i 0) j) L.length := by
  subst hx
  rw [grid_flat k (fun i j => A (L.getD i 0) j)]
  congr 1
  apply List.ext_getElem
  · simp [takeM, natJ8]
  · intro i h1 h2
    have hi : i < L.length := by simpa [takeM, natJ8] using h1
    have e : L.getD i 0 = L[i] := by simp [List.getD, hi]
    simp only [takeM, natJ8, List.getElem_map, List.getElem_range, Int.toNat_natCast]
    rw [rowAt_grid (hn _ (List.getElem_mem hi)), e]
theorem take_rank8 {k r : Nat} {L : List Nat} (hn : ∀ x ∈ L, x < 2 * (k + r)) :
    (pivL (cellF (2 * k) (takeM (2 * k) (halfM k r) (natJ8 L)).flatten) L.length (2 * k)).length = rankL k (carN (groupN k r)) L := by
  rw [take_grid8 (xs := halfM k r) (A := halfF k (carN (groupN k r))) hn rfl]
  exact congrArg List.length (pivL_congr fun i hi j hj => at8_grid hi hj)
theorem take_len8 {k r : Nat} {L : List Nat} (hn : ∀ x ∈ L, x < 2 * (k + r)) : (takeM (2 * k) (halfM k r) (natJ8 L)).flatten.length = L.length * (2 * k) := by
  rw [take_grid8 (xs := halfM k r) (A := halfF k (carN (groupN k r))) hn rfl, grid_len]
/-- what Gone names -/
def ErrsG (w : World) (E : Nat → Addr) : Prop := ErrsH w E ∧ w.cell? ⟨4, 0, none⟩ = some (errAt (E 1)) ∧ w.cell? ⟨3, 0, none⟩ = some (errAt (E 11))
theorem errsG_below {w w' : World} {E : Nat → Addr} (h : ErrsG w E) (hb : Below w.heap.size w w') : ErrsG w' E := ⟨errsH_below h.1 hb, cell_later hb h.2.1, cell_later hb h.2.2⟩
set_option maxHeartbeats 4000000 in
theorem gone_legal (k r l cap : Nat) (a : Option Addr) (ns : List Nat) (w : World) (E : Nat → Addr) (hE : ErrsG w E) (h1 : 1 ≤ k) (h2 : 2 ≤ r) (h3 : k + r ≤ 16) (hl : l = ns.length) (hcap : l ≤ cap) (hX : RowI w a (natJ8 ns)) (hu : ns.Pairwise (· < ·)) (hr : ∀ x ∈ ns, x < 2 * (k + r)) :
    Calls Tryz.prog 196 #[.int .i64 k, .int .i64 r, .slice a l cap] w fun e w' => e = .returned (.tuple #[.bool (goneB k (2 * (k + r)) (carN (groupN k r)) ns), .nilIface]) ∧ Below w.heap.size w w' := by
  have HW : Hid _ := left_legal k r l cap a ns w E hE.1 h1 h2 h3 hl hcap hX hu hr
  have HE : Hid _ := hE
  have HV : Hid _ := fun w s hs => hrows_F k r w s hs h1 h2 h3
  have hml := halfM_len k r
  have HML : Hid _ := hml
  have hlin : ∀ x ∈ leftL (2 * (k + r)) ns, x < 2 * (k + r) := fun x hx => (mem_leftL.1 hx).1
  have HRK : Hid _ := take_rank8 hlin
  have HTL : Hid _ := take_len8 hlin
  have HG : Hid (goneB k (2 * (k + r)) (carN (groupN k r)) ns = decide (rankL k (carN (groupN k r)) (leftL (2 * (k + r)) ns) < 2 * k)) := rfl
  have HLE : Hid _ := leftL_le (2 * (k + r)) ns
  have HLIN : Hid _ := hlin
  clear hl hX hr hu hE hml hlin
  rw [HG.out]
  clear HG
  generalize leftL (2 * (k + r)) ns = lf at *
  obtain ⟨n, hn⟩ : ∃ n, n = 2 * (k + r) := ⟨_, rfl⟩
  obtain ⟨c, hc⟩ : ∃ c, c = 2 * k := ⟨_, rfl⟩
  rw [← hn, ← hc] at HV HML
  rw [← hn] at HLE HLIN
  rw [← hc] at HRK HTL
  rw [← hc]
  have hn32 : n ≤ 32 := by omega
  have hc32 : c ≤ 32 := by omega
  clear hn hc
  go_enter Tryz.func196, Tryz.ntmps196
  go_wp2_with fail
  refine Calls.mono HW.out ?_
  rintro e w1 ⟨v, rfl, ⟨av, cv, rfl, hl9, hm9, hn9, hx9, hf9⟩, hb1⟩
  have HB1 : Hid _ := hb1
  have HX9 : Hid _ := hx9
  clear hb1 hx9 hf9 hn9
  go_wp2_with fail
  refine Calls.mono (HV.out _ (E 1) (errsG_below HE.out HB1.out).2.1) ?_
  rintro e w2 ⟨g2, m2, rfl, hm2, hg2, hh2, hb2⟩
  have HM2 : Hid _ := hm2
  have HA2 : Hid _ := holds_new (holds_cons (holds_nil w2) hh2) #[.int .i64 n, .int .i64 c, .slice (some ⟨g2, 0, none⟩) m2 m2] 73
  have hB2 := HB1.out.trans (hb2.mono HB1.out.size)
  have HX2 : Hid _ := rowI_alloc (rowI_below HX9.out hb2) (.cells #[.int .i64 n, .int .i64 c, .slice (some ⟨g2, 0, none⟩) m2 m2] 73)
  have HB2 : Hid _ := hB2.alloc hB2.size (.cells #[.int .i64 n, .int .i64 c, .slice (some ⟨g2, 0, none⟩) m2 m2] 73)
  clear hb2 hh2 hm2 hB2
  have c1 := cellAt (holds_at HA2.out 0 rfl) 0 _ rfl
  have c2 := cellAt (holds_at HA2.out 0 rfl) 1 _ rfl
  have c3 := cellAt (holds_at HA2.out 0 rfl) 2 _ rfl
  have z3 := ltHeap (holds_at HA2.out 0 rfl)
  go_wp2_with fail
  refine Calls.mono (take_F n c m2 m2 lf.length cv (some ⟨g2, 0, none⟩) av (halfM k r) (natJ8 lf) _ (by omega) (by omega) HM2.out HML.out (Nat.le_refl _) (holds_row HA2.out 1 rfl) (fun h => by cases h) (natJ8_len _).symm (by have := HLE.out; omega) HX2.out (E 11) (errsG_below HE.out HB2.out).2.2) ?_
  rintro e w3 (⟨_, g3, m3, rfl, hm3, hg3, hh3, hb3⟩ | ⟨hno, _⟩)
  · have HM3 : Hid _ := hm3
    have HA3 : Hid _ := holds_new (holds_cons (holds_later HA2.out hb3) hh3) #[.int .i64 lf.length, .int .i64 c, .slice (some ⟨g3, 0, none⟩) m3 m3] 73
    have hB3 := HB2.out.trans (hb3.mono HB2.out.size)
    have HB3 : Hid _ := hB3.alloc hB3.size (.cells #[.int .i64 lf.length, .int .i64 c, .slice (some ⟨g3, 0, none⟩) m3 m3] 73)
    clear hb3 hh3 hm3 hB3 c1 c2 c3 z3
    have c1 := cellAt (holds_at HA3.out 0 rfl) 0 _ rfl
    have c2 := cellAt (holds_at HA3.out 0 rfl) 1 _ rfl
    have c3 := cellAt (holds_at HA3.out 0 rfl) 2 _ rfl
    have z3 := ltHeap (holds_at HA3.out 0 rfl)
    have hlf : lf.length ≤ 32 := by have := HLE.out; omega
    go_wp2_with fail
    refine Calls.mono (rank_F lf.length c m3 m3 (some ⟨g3, 0, none⟩) (takeM c (halfM k r) (natJ8 lf)).flatten _ (by omega) (by omega) HM3.out HTL.out (Nat.le_refl _) (holds_row HA3.out 1 rfl) (fun h => by cases h)) ?_
    rw [HRK.out]
    rintro e w4 ⟨rfl, hb4⟩
    have HB4 : Hid _ := HB3.out.trans (hb4.mono HB3.out.size)
    have h9 := holds_later HA3.out hb4
    have HCOL : Hid _ := holds_at h9 2 rfl
    clear hb4 c1 c2 c3 z3
    have c1 := cellAt HCOL.out 1 _ rfl
    go_wp2
    go_ret2
    exact ⟨rfl, HB4.out⟩
  · exact absurd (fun x hx => by
      obtain ⟨y, hy, rfl⟩ := List.mem_map.1 hx
      have := HLIN.out y hy
      omega) hno
end Go.Proofs.YtkoakingmnjdoaaGreatDoor

/- What the loss's factors and program of package plan answer: how often each source is in each wanted half, and the program of these sources. -/
namespace Go.Proofs.YtkoakingmnjdoaaGreatDoor
open Go.RowKit Gf
set_option linter.unusedVariables false
set_option maxRecDepth 20000
set_option linter.unusedSimpArgs false
/-- x is how often each of the halves L is in half h: nothing of what is no pivot -/
def Comb (k : Nat) (car : Nat → Nat) (L : List Nat) (h : Nat) (x : Nat → F) : Prop :=
  (∀ j, j < 2 * k → halfF k car h j = sumF (fun l => gm (x l) (halfF k car (L.getD l 0) j)) L.length) ∧ ∀ l, l < L.length → l ∉ pivL (tr fun i j => halfF k car (L.getD i 0) j) (2 * k) L.length → x l = 0
theorem comb_sol {k c n : Nat} {car : Nat → Nat} {L : List Nat} {h : Nat} {xs vs : List F} {x : Nat → F} (hc : c = 2 * k) (hn : n = L.length) (hx : xs = grid (2 * k) (fun i j => halfF k car (L.getD i 0) j) L.length) (hv : vs = rowF (2 * k) (halfF k car h)) (hs : SolOf (tr (cellF c xs)) c n (at8 vs) x) : Comb k car L h x := by
  subst hc hn hx hv
  have hs2 := hs.congr (B := tr fun i j => halfF k car (L.getD i 0) j) fun i hi j hj => at8_grid hj hi
  refine ⟨fun j hj => ?_, hs2.off⟩
  have := hs2.sol j hj
  rw [at8_rowF hj] at this
  rw [this]
  exact sumF_congr fun l _ => F.mul_comm _ _
theorem dep_cells {k c n : Nat} {car : Nat → Nat} {L : List Nat} {h : Nat} {xs vs : List F} (hc : c = 2 * k) (hn : n = L.length) (hx : xs = grid (2 * k) (fun i j => halfF k car (L.getD i 0) j) L.length) (hv : vs = rowF (2 * k) (halfF k car h)) (hd : NullsIn k car L h) : Dep (tr (cellF c xs)) c n (at8 vs) := by
  subst hc hn hx hv
  obtain ⟨x, hx⟩ := nulls_dep hd
  refine ⟨x, fun i hi => ?_⟩
  rw [at8_rowF hi, hx i hi]
  refine sumF_congr fun l hl => ?_
  show gm (halfF k car (L.getD l 0) i) (x l) = gm (at8 _ (l * (2 * k) + i)) (x l)
  rw [at8_grid hl hi]
set_option maxRecDepth 100000 in
set_option maxHeartbeats 16000000 in
theorem pfactors_F (k r ll lc sl sc wl wc : Nat) (la sa wa : Option Addr) (L W : List Nat) (w : World) (E : Nat → Addr) (hE : ErrsG w E) (h1 : 1 ≤ k) (h2 : 2 ≤ r) (h3 : k + r ≤ 16) (hsl : sl = L.length) (h32 : sl ≤ 32) (hwl : wl = W.length) (hw32 : wl ≤ 32) (hL : RowI w sa (natJ8 L)) (hW : RowI w wa (natJ8 W)) (hLr : ∀ x ∈ L, x < 2 * (k + r)) (hWr : ∀ x ∈ W, x < 2 * (k + r))
    (hN : ∀ x ∈ W, NullsIn k (carN (groupN k r)) L x) :
    Calls Tryz.prog 58 #[.agg #[.int .i64 k, .int .i64 r, .slice la ll lc], .slice sa sl sc, .slice wa wl wc] w fun e w' => ∃ (M : Nat) (X : Nat → Nat → F), e = .returned (.tuple #[.slice (some ⟨M, 0, none⟩) wl wl, .nilIface]) ∧ Rows8 w' (some ⟨M, 0, none⟩) ((List.range wl).map fun o => rowF sl (X o)) ∧ (∀ o, o < wl → Comb k (carN (groupN k r)) L (W.getD o 0) (X o)) ∧ Below w.heap.size w w' := by
  have HE : Hid (ErrsG w E) := hE
  have HSL : Hid (sl = L.length) := hsl
  have HWL : Hid (wl = W.length) := hwl
  have HL : Hid (RowI w sa (natJ8 L)) := hL
  have HW : Hid (RowI w wa (natJ8 W)) := hW
  have HLR : Hid (∀ x ∈ L, x < 2 * (k + r)) := hLr
  have HWR : Hid (∀ x ∈ W, x < 2 * (k + r)) := hWr
  have HNU : Hid (∀ x ∈ W, NullsIn k (carN (groupN k r)) L x) := hN
  have HV : Hid _ := fun w s hs => hrows_F k r w s hs h1 h2 h3
  have hml := halfM_len k r
  obtain ⟨n, hn⟩ : ∃ n, n = 2 * (k + r) := ⟨_, rfl⟩
  obtain ⟨c, hc⟩ : ∃ c, c = 2 * k := ⟨_, rfl⟩
  rw [← hn, ← hc] at HV hml
  have HML : Hid ((halfM k r).length = n * c) := hml
  have HN : Hid (n = 2 * (k + r)) := hn
  have HC : Hid (c = 2 * k) := hc
  have hn32 : n ≤ 32 := by omega
  have hc32 : c ≤ 32 := by omega
  have hX0 : (w.alloc (.cells #[.int .i64 k, .int .i64 r, .slice la ll lc] 63)).heap[w.heap.size]? = some (.cells #[.int .i64 k, .int .i64 r, .slice la ll lc] 63 (0, 0)) := heap_alloc_last _ _
  have HB0 : Hid (Below w.heap.size w (w.alloc (.cells #[.int .i64 k, .int .i64 r, .slice la ll lc] 63))) := (Below.refl _ _).alloc (Nat.le_refl _) _
  clear hE hsl hwl hL hW hLr hWr hN hml hn hc hX0
  go_enter Tryz.func58, Tryz.ntmps58
  go_wp2_with fail
  refine Calls.mono (HV.out _ (E 1) (errsG_below HE.out HB0.out).2.1) ?_
  rintro e w2 ⟨g2, m2, rfl, hm2, hg2, hh2, hb2⟩
  have HM2 : Hid (m2 = n * c) := hm2
  have HA2 : Hid _ := holds_new (holds_cons (holds_nil w2) hh2) #[.int .i64 n, .int .i64 c, .slice (some ⟨g2, 0, none⟩) m2 m2] 73
  have hB2 := HB0.out.trans (hb2.mono HB0.out.size)
  have HB2 : Hid _ := hB2.alloc hB2.size (.cells #[.int .i64 n, .int .i64 c, .slice (some ⟨g2, 0, none⟩) m2 m2] 73)
  clear hb2 hh2 hm2 hB2
  have c1 := cellAt (holds_at HA2.out 0 rfl) 0 _ rfl
  have c2 := cellAt (holds_at HA2.out 0 rfl) 1 _ rfl
  have c3 := cellAt (holds_at HA2.out 0 rfl) 2 _ rfl
  have z3 := ltHeap (holds_at HA2.out 0 rfl)
  go_wp2_with fail
  refine Calls.mono (take_F n c m2 m2 sl sc (some ⟨g2, 0, none⟩) sa (halfM k r) (natJ8 L) _ (by omega) (by omega) HM2.out HML.out (Nat.le_refl _) (holds_row HA2.out 1 rfl) (fun h => by cases h) (by rw [natJ8_len]; exact HSL.out) (by omega) (rowI_below HL.out HB2.out) (E 11) (errsG_below HE.out HB2.out).2.2) ?_
  rintro e w3 (⟨_, g3, m3, rfl, hm3, hg3, hh3, hb3⟩ | ⟨hno, _⟩)
  rotate_left
  · exact absurd (fun x hx => by
      obtain ⟨y, hy, rfl⟩ := List.mem_map.1 hx
      have h9 := HLR.out y hy
      rw [← HN.out] at h9
      omega) hno
  have HM3 : Hid (m3 = sl * c) := hm3
  obtain ⟨xs, hxs⟩ : ∃ xs, xs = (takeM c (halfM k r) (natJ8 L)).flatten := ⟨_, rfl⟩
  rw [← hxs] at hh3
  have HXG : Hid (xs = grid (2 * k) (fun i j => halfF k (carN (groupN k r)) (L.getD i 0) j) L.length) := by show _ = _; rw [hxs, HC.out]; exact take_grid8 HLR.out rfl
  have HXL : Hid (xs.length = sl * c) := by show _ = _; rw [HXG.out, grid_len, HSL.out, HC.out]
  have HA3 : Hid _ := holds_new (holds_cons (holds_later HA2.out hb3) hh3) #[.int .i64 sl, .int .i64 c, .slice (some ⟨g3, 0, none⟩) m3 m3] 73
  have hB3 := HB2.out.trans (hb3.mono HB2.out.size)
  have HB3 : Hid _ := hB3.alloc hB3.size (.cells #[.int .i64 sl, .int .i64 c, .slice (some ⟨g3, 0, none⟩) m3 m3] 73)
  clear hb3 hh3 hm3 hB3 c1 c2 c3 z3 hxs
  have hmk := run_makeS wl (by omega)
  go_upto_region 7 with fail
  obtain ⟨V0, hV0⟩ : ∃ V0, V0 = w3.alloc (.cells #[.int .i64 sl, .int .i64 c, .slice (some ⟨g3, 0, none⟩) m3 m3] 73) := ⟨_, rfl⟩
  rw [← hV0] at HA3 HB3 ⊢
  have HG2 : Hid _ := holds_at HA3.out 3 rfl
  have HG3 : Hid _ := holds_at HA3.out 1 rfl
  have HN8 : Hid _ := holds_at HA3.out 2 rfl
  have HN10 : Hid _ := holds_at HA3.out 0 rfl
  obtain ⟨M, hM⟩ : ∃ M, M = V0.heap.size := ⟨_, rfl⟩
  obtain ⟨V, hV⟩ : ∃ V, V = V0.alloc (.cells (slV 0 [] wl) 23) := ⟨_, rfl⟩
  have hbV : Below V0.heap.size V0 V := by rw [hV]; exact (Below.refl _ _).alloc (Nat.le_refl _) _
  have HMV : Hid (V.heap[M]? = some (.cells (slV sl [] wl) 23 (0, 0))) := by show _ = _; rw [hV, hM]; exact heap_alloc_last _ _
  have HBV : Hid (Below V0.heap.size V0 V) := hbV
  have HMV0 : Hid (V0.heap.size ≤ M) := by show _ ≤ _; omega
  have HWV : Hid (Below w.heap.size w V) := HB3.out.trans (hbV.mono HB3.out.size)
  have HWM : Hid (w.heap.size ≤ M) := Nat.le_trans HB3.out.size HMV0.out
  have HVE : Hid (V = V0.alloc (.cells (slV 0 [] wl) 23)) := hV
  have HME : Hid (M = V0.heap.size) := hM
  clear hV0 hV hbV hM HA2 HA3
  go_upto_region 8 with fail
  rw [← HVE.out, ← HME.out]
  clear HVE HME hmk
  go_wp2
  go_loopw [43] (fun t wr => ∃ (gs : List Nat) (X : Nat → Nat → F), gs.length ≤ wl ∧ t = .int .i64 (gs.length : Nat) ∧ wr.heap[M]? = some (.cells (slV sl gs wl) 23 (0, 0)) ∧ (∀ (i g : Nat), gs[i]? = some g → wr.heap[g]? = some (.cells (vfs (rowF sl (X i))) 5 (0, 0))) ∧ (∀ i, i < gs.length → Comb k (carN (groupN k r)) L (W.getD i 0) (X i)) ∧ Below V0.heap.size V0 wr) (fun t _ => wl - (intOf t).toNat)
  case atStart => exact ⟨[], fun _ _ => 0, Nat.zero_le _, rfl, HMV.out, fun i g h => by simp at h, fun i h => absurd h (Nat.not_lt_zero _), HBV.out⟩
  case round =>
    obtain ⟨gs, X, hgl, rfl, hmw, hgr, hcb, hb⟩ := hrel
    have HMW : Hid (wr.heap[M]? = some (.cells (slV sl gs wl) 23 (0, 0))) := hmw
    have HGR : Hid (∀ (i g : Nat), gs[i]? = some g → wr.heap[g]? = some (.cells (vfs (rowF sl (X i))) 5 (0, 0))) := hgr
    have HCB : Hid (∀ i, i < gs.length → Comb k (carN (groupN k r)) L (W.getD i 0) (X i)) := hcb
    have HB : Hid (Below V0.heap.size V0 wr) := hb
    clear hmw hgr hcb hb HMV HBV
    generalize wr = Y at *
    have HWY : Hid (Below w.heap.size w Y) := HB3.out.trans (HB.out.mono HB3.out.size)
    obtain ⟨o, ho⟩ : ∃ o, o = gs.length := ⟨_, rfl⟩
    have HOL : Hid (o = gs.length) := ho
    rw [← ho] at hgl
    rw [← ho]
    clear ho
    by_cases hlt : o < wl
    · have hoW : o < W.length := by rw [← HWL.out]; exact hlt
      obtain ⟨h, hh⟩ : ∃ h, W[o]? = some h := ⟨_, List.getElem?_eq_getElem hoW⟩
      have hhW := List.mem_of_getElem? hh
      have hhr := HWR.out h hhW
      rcases HW.out with e0 | ⟨b, off, rfl, hrows⟩
      · have := congrArg List.length e0
        rw [natJ8_len, List.length_nil] at this
        omega
      have cw := cell_later HWY.out (hrows o (h : Int) (by simp [natJ8, hh]))
      have HWO : Hid (W.getD o 0 = h) := by show _ = _; rw [List.getD_eq_getElem?_getD, hh]; rfl
      have HDE : Hid (NullsIn k (carN (groupN k r)) L h) := HNU.out h hhW
      have HHR : Hid (h < 2 * (k + r)) := hhr
      have hn8 := heap_later HN8.out HB.out
      have hn10 := heap_later HN10.out HB.out
      have c1 := cellAt hn8 0 _ rfl
      have c2 := cellAt hn8 1 _ rfl
      have c3 := cellAt hn8 2 _ rfl
      have z3 := ltHeap hn8
      clear hoW hh hhW hhr hrows
      go_wp2_with fail
      refine Calls.mono (row_F n c m2 m2 h (some ⟨g2, 0, none⟩) (halfM k r) Y (by omega) (by omega) HM2.out HML.out (Nat.le_refl _) (row8_own (heap_later HG2.out HB.out)) (fun h => by cases h) (by rw [HN.out]; exact HHR.out)) ?_
      rintro e Y1 ⟨ar, cr, rfl, hrr, hnr, hxr, hy1⟩
      obtain ⟨gr, rfl, hgr2, h8r⟩ := hxr (by simp)
      have HRO : Hid (Row8 Y1 (some ⟨gr, 0, none⟩) (rowAt c (halfM k r) h)) := hrr
      have HRE : Hid (rowAt c (halfM k r) h = rowF (2 * k) (halfF k (carN (groupN k r)) h)) := by show _ = _; rw [HC.out]; exact rowAt_half HHR.out
      have HRL : Hid ((rowAt c (halfM k r) h).length = c) := by show _ = _; rw [HRE.out, rowF_len, HC.out]
      have HCR : Hid (c ≤ cr) := by
        obtain ⟨cur, q1, q2, q3, q4, q5⟩ := h8r
        show _ ≤ _
        have := HRL.out
        omega
      have HB1 : Hid (Below V0.heap.size V0 Y1) := HB.out.trans (hy1.mono HB.out.size)
      have HMW1 : Hid _ := heap_later HMW.out hy1
      have HGR1 : Hid (∀ (i g : Nat), gs[i]? = some g → Y1.heap[g]? = some (.cells (vfs (rowF sl (X i))) 5 (0, 0))) := fun i g h => heap_later (HGR.out i g h) hy1
      have HN10b : Hid _ := heap_later hn10 hy1
      clear hrr hnr hxr hy1 hgr2 h8r hn8 hn10 c1 c2 c3 z3 cw
      have c1 := cellAt HN10b.out 0 _ rfl
      have c2 := cellAt HN10b.out 1 _ rfl
      have c3 := cellAt HN10b.out 2 _ rfl
      have z3 := ltHeap HN10b.out
      go_wp2_with fail
      refine Calls.mono (express_F sl c m3 m3 c cr (some ⟨g3, 0, none⟩) (some ⟨gr, 0, none⟩) xs (rowAt c (halfM k r) h) Y1 (by omega) (by omega) HM3.out HXL.out (Nat.le_refl _) (row8_own (heap_later HG3.out HB1.out)) rfl HRL.out HCR.out HRO.out (fun h => by cases h)) ?_
      rintro e Y2 (⟨g9, x9, rfl, hg9, hh9, hsol, hy2⟩ | ⟨rfl, hno, _⟩)
      rotate_left
      · exact absurd (dep_cells HC.out HSL.out HXG.out HRE.out HDE.out) hno
      have HCO : Hid (Comb k (carN (groupN k r)) L h x9) := comb_sol HC.out HSL.out HXG.out HRE.out hsol
      have HMW2 : Hid (Y2.heap[M]? = some (.cells (slV sl gs wl) 23 (0, 0))) := heap_later HMW1.out hy2
      have hgll : gs.length < wl := by rw [← HOL.out]; exact hlt
      have k9 := cellAt HMW2.out o _ (by rw [HOL.out]; exact slV_next hgll)
      have f9 : Y2.frozen? ⟨M, o, none⟩ = false := frozen_of_row _ _ _ _ _ HMW2.out
      obtain ⟨Z, hZ⟩ : ∃ Z, Z = Y2.setCell ⟨M, o, none⟩ (.slice (some ⟨g9, 0, none⟩) sl sl) := ⟨_, rfl⟩
      have HMZ : Hid (Z.heap[M]? = some (.cells (slV sl (gs ++ [g9]) wl) 23 (0, 0))) := by
        show _ = _
        rw [hZ, heap_setCell_same _ _ _ _ _ _ HMW2.out, HOL.out, slV_set g9 hgll]
      have hne : ∀ {g : Nat} {cs : Array Value}, Y2.heap[g]? = some (.cells cs 5 (0, 0)) → g ≠ M := fun h1 e => by
        have h2 := HMW2.out
        rw [← e, h1] at h2
        injection h2 with h2
        injection h2 with h2 h3 h4
        exact absurd h3 (by decide)
      have HGZ : Hid (∀ (i g : Nat), (gs ++ [g9])[i]? = some g → Z.heap[g]? = some (.cells (vfs (rowF sl ((fun i => if i = o then x9 else X i) i))) 5 (0, 0))) := fun i g h => by
        by_cases hi : i < gs.length
        · rw [List.getElem?_append_left hi] at h
          have h1 := heap_later (HGR1.out i g h) hy2
          rw [hZ, heap_setCell_other _ _ _ _ (hne h1), h1]
          have hio : i ≠ o := by rw [HOL.out]; omega
          simp only [hio, if_false]
        · have hi2 : i = gs.length := by
            have := (List.getElem?_eq_some_iff.1 h).1
            simp at this
            omega
          subst hi2
          rw [List.getElem?_append_right (Nat.le_refl _), Nat.sub_self] at h
          obtain rfl : g9 = g := by simpa using h
          rw [hZ, heap_setCell_other _ _ _ _ (hne hh9), hh9]
          show _ = some (Obj.cells (vfs (rowF sl (if gs.length = o then x9 else X gs.length))) _ _)
          rw [if_pos HOL.out.symm]
      have HCZ : Hid (∀ i, i < (gs ++ [g9]).length → Comb k (carN (groupN k r)) L (W.getD i 0) ((fun i => if i = o then x9 else X i) i)) := fun i hi => by
        by_cases e : i = o
        · subst e; simp only [if_true]; rw [HWO.out]; exact HCO.out
        · simp only [e, if_false]
          refine HCB.out i ?_
          rw [List.length_append, List.length_singleton, ← HOL.out] at hi
          rw [← HOL.out]; omega
      have HBZ : Hid (Below V0.heap.size V0 Z) := by
        show Below ..; rw [hZ]
        exact (HB1.out.trans (hy2.mono HB1.out.size)).setCell (p := ⟨M, o, none⟩) HMV0.out _
      have HZE : Hid (Z = Y2.setCell ⟨M, o, none⟩ (.slice (some ⟨g9, 0, none⟩) sl sl)) := hZ
      have HL1 : Hid ((gs ++ [g9]).length = o + 1) := by show _ = _; rw [List.length_append, ← HOL.out]; rfl
      clear hg9 hh9 hsol hy2 hZ hne hgll c1 c2 c3 z3
      go_wp2
      rw [← HZE.out]
      refine ⟨⟨gs ++ [g9], _, by rw [HL1.out]; omega, by rw [HL1.out]; go_num, HMZ.out, HGZ.out, HCZ.out, HBZ.out⟩, by simp [intOf]; omega⟩
    · obtain rfl : wl = o := by omega
      have HBY : Hid (Below w.heap.size w Y) := HWY.out
      have HRW : Hid (Rows8 Y (some ⟨M, 0, none⟩) ((List.range wl).map fun o => rowF sl (X o))) := by
        refine .inr ⟨M, 0, rfl, fun j ys hj => ?_⟩
        have hjw : j < wl := by have := (List.getElem?_eq_some_iff.1 hj).1; simpa using this
        rw [List.getElem?_map, List.getElem?_range hjw, Option.map_some] at hj
        obtain rfl := Option.some.inj hj
        have hjg : j < gs.length := by rw [← HOL.out]; exact hjw
        refine ⟨some ⟨gs[j], 0, none⟩, sl, ?_, row8_own (HGR.out j _ (List.getElem?_eq_getElem hjg))⟩
        rw [Nat.zero_add, rowF_len]
        exact cellAt HMW.out j _ (slV_at hjg)
      have HCW : Hid (∀ o, o < wl → Comb k (carN (groupN k r)) L (W.getD o 0) (X o)) := fun o ho => HCB.out o (by rw [← HOL.out]; exact ho)
      go_wp2
      go_ret2
      exact ⟨M, X, rfl, HRW.out, HCW.out, HBY.out⟩
end Go.Proofs.YtkoakingmnjdoaaGreatDoor

/- What Whole and Kind of package damage answer; nothing that was there turns. -/
namespace Go.Proofs.YtkoakingmnjdoaaGreatDoor
open Go.RowKit Go.Maps Gf
set_option linter.unusedVariables false
set_option maxRecDepth 20000
theorem map_below {w w' : World} {b n : Nat} {D : DataW Unit} (h : w.ownsMap Tryz.prog 3 (unitElem (H := Unit)) b n D) (hb : Below w.heap.size w w') : w'.ownsMap Tryz.prog 3 (unitElem (H := Unit)) b n D := by
  have hl := h.lt
  obtain ⟨es, clock, hbk, r⟩ := h
  exact ⟨es, clock, (hb.block b hl).trans hbk, r⟩
theorem leftOf_E (k r l cap : Nat) (a : Option Addr) (ns : List Nat) (w : World) (h3 : k + r ≤ 16) (hl : l = ns.length) (hcap : l ≤ cap) (hX : RowI w a (natJ8 ns)) (hr : ∀ x ∈ ns, x < 2 * (k + r)) (hl9 : l ≤ 32) :
    Calls Tryz.prog 174 #[.int .i64 k, .int .i64 r, .slice a l cap] w fun e w' => ∃ (b : Nat) (D : DataW Unit), e = .returned (.map (some b)) ∧ w'.ownsMap Tryz.prog 3 (unitElem (H := Unit)) b 32 D ∧
      SetF D (fun x => x ∈ natJ8 (leftL (2 * (k + r)) ns)) ∧ Below w.heap.size w w' :=
  (leftOf_F k r l cap a ns w h3 hl hcap hX hr hl9).mono fun e w' ⟨D, h⟩ => ⟨_, D, h⟩
theorem zeroU (w : World) : (zeroValue 96).run Tryz.prog w = .ok (.agg #[]) w := Tryz.zeroValue96 w
/-- is a half left? -/
theorem setF_left {D : DataW Unit} {n x : Nat} {ns : List Nat} {y : Int} (h : SetF D (fun x => x ∈ natJ8 (leftL n ns))) (e : y = ((x : Nat) : Int)) (hx : x < n) : has D (.int .i64 y) = decide (¬ x ∈ ns) := by
  subst e
  cases hb : has D (.int .i64 (x : Int)) with
  | true => exact (decide_eq_true ((mem_leftL.1 (natJ8_mem.1 ((h _).1 hb))).2)).symm
  | false => exact (decide_eq_false (fun hn => by rw [(h _).2 (natJ8_mem.2 (mem_leftL.2 ⟨hx, hn⟩))] at hb; cases hb)).symm
set_option maxRecDepth 100000 in
set_option maxHeartbeats 4000000 in
theorem whole_legal (k r l cap : Nat) (a : Option Addr) (ns : List Nat) (w : World) (E : Nat → Addr) (hE : ErrsH w E) (h1 : 1 ≤ k) (h2 : 2 ≤ r) (h3 : k + r ≤ 16) (hl : l = ns.length) (hcap : l ≤ cap) (hX : RowI w a (natJ8 ns)) (hu : ns.Pairwise (· < ·)) (hr : ∀ x ∈ ns, x < 2 * (k + r)) :
    Calls Tryz.prog 172 #[.int .i64 k, .int .i64 r, .slice a l cap] w fun e w' => ∃ v, e = .returned (.tuple #[v, .nilIface]) ∧ ListOf w' w.heap.size v (wholeL (k + r) ns) ∧ Below w.heap.size w w' := by
  have hlen : l ≤ 32 := by have := pair_len hu hr; omega
  have HC : Hid _ := dcheck_legal k r l cap a (natJ8 ns) w E hE h1 h2 h3 (by rw [natJ8_len]; exact hl) (by omega) hcap hX
  have HZ : Hid _ := chkE_ok h1 h2 h3 (goodH_of hu hr)
  have HL : Hid (l = ns.length) := hl
  have HX : Hid (RowI w a (natJ8 ns)) := hX
  have HR : Hid (∀ x ∈ ns, x < 2 * (k + r)) := hr
  clear hl hX hr hu hE
  go_enter Tryz.func172, Tryz.ntmps172
  go_wp2_with fail
  refine Calls.mono HC.out ?_
  rw [HZ.out]
  rintro e w1 ⟨rfl, hb1⟩
  have HB1 : Hid _ := hb1
  clear hb1
  rw [show evH E 0 = Value.nilIface from rfl]
  go_wp2_with fail
  refine Calls.mono (leftOf_E k r l cap a ns w1 h3 HL.out hcap (rowI_below HX.out HB1.out) HR.out hlen) ?_
  rintro e w2 ⟨bm, D, rfl, hown, hset, hb2⟩
  have HB2 : Hid _ := HB1.out.trans (hb2.mono HB1.out.size)
  have HOWN : Hid (w2.ownsMap Tryz.prog 3 (unitElem (H := Unit)) bm 32 D) := hown
  have HSET : Hid (SetF D (fun x => x ∈ natJ8 (leftL (2 * (k + r)) ns))) := hset
  have H12 : Hid _ := HB1.out.size
  clear hb2 hown hset
  go_wp2
  obtain ⟨m, hm⟩ : ∃ m : Nat, m = k + r := ⟨_, rfl⟩
  have em : (k : Int) + r = (m : Int) := by omega
  rw [em]
  rw [← hm] at HSET HR
  have hm16 : m ≤ 16 := by omega
  have HMM : Hid _ := hm
  clear em hm
  go_loopw [30, 10] (fun i v wr => ∃ j : Nat, j ≤ m ∧ i = .int .i64 j ∧ (∃ av cv, v = .slice av (wholeL j ns).length cv) ∧ Below w2.heap.size w2 wr ∧ wr.ownsRow w2.heap.size 3 1 v (wholeL j ns).length ((natJ8 (wholeL j ns)).map (Value.int .i64))) (fun i _ _ => m - (intOf i).toNat)
  case atStart => exact ⟨0, by omega, rfl, ⟨none, 0, rfl⟩, Below.refl _ _, World.ownsRow_nil _ _ _ _⟩
  case round =>
    obtain ⟨j, hj, rfl, ⟨av, cv, rfl⟩, hb, ho⟩ := hrel
    have HB : Hid _ := hb
    clear hb
    by_cases hlt : j < m
    · have HK1 : Hid _ := key_i64 (x := 2 * (j : Int)) (by omega)
      have HK2 : Hid _ := key_i64 (x := 2 * (j : Int) + 1) (by omega)
      have p1 := setF_left (y := 2 * (j : Int)) (x := 2 * j) HSET.out (by omega) (by omega)
      have p2 := setF_left (y := 2 * (j : Int) + 1) (x := 2 * j + 1) HSET.out (by omega) (by omega)
      have hs := wholeL_succ j ns
      have HWL : Hid _ := wholeL_le j ns
      have HM : Hid (wr.ownsMap Tryz.prog 3 (unitElem (H := Unit)) bm 32 D) := map_below HOWN.out HB.out
      by_cases q1 : 2 * j ∈ ns
      · rw [decide_eq_false (not_not_intro q1)] at p1
        have P1 : Hid _ := p1
        clear p1
        by_cases q2 : 2 * j + 1 ∈ ns
        · rw [decide_eq_false (not_not_intro q2)] at p2
          have P2 : Hid _ := p2
          clear p2
          rw [if_pos ⟨q1, q2⟩] at hs
          have hz : ((wr.alloc (.cells #[] 96)).alloc (.cells #[] 96)).heap.size = wr.heap.size + 1 + 1 := by simp
          have hb5 := ((HB.out.alloc HB.out.size (.cells #[] 96)).alloc (by have := HB.out.size; simp; omega) (.cells #[] 96)).alloc (by have := HB.out.size; simp; omega) (.cells #[.int .i64 j] 3)
          have ho5 := ((ho.alloc (.cells #[] 96)).alloc (.cells #[] 96)).alloc (.cells #[.int .i64 j] 3)
          obtain ⟨g2, cap2, w6, hrun, ho2, hgr, hor, hlt2⟩ := appendI (b := wr.heap.size + 1 + 1) (c := 1) (x := (j : Int)) 22 ho5 (cellAt (by rw [← hz]; exact heap_alloc_last ((wr.alloc (.cells #[] 96)).alloc (.cells #[] 96)) (.cells #[.int .i64 j] 3)) 0 _ rfl) (by have := HWL.out; omega) (by have := HB.out.size; simp; omega)
          have hb6 := below_own hb5 ho5 hgr (by have := HB.out.size; simp; omega)
          have hn6 : (wholeL (j + 1) ns).length = (wholeL j ns).length + 1 := by rw [hs]; simp
          have hv6 : (natJ8 (wholeL j ns)).map (Value.int .i64) ++ [.int .i64 (j : Int)] = (natJ8 (wholeL (j + 1) ns)).map (Value.int .i64) := by rw [hs]; simp [natJ8]
          rw [hv6] at ho2
          have HRun : Hid _ := hrun
          have HO2 : Hid (w6.ownsRow w2.heap.size 3 1 (.slice (some ⟨g2, 0, none⟩) ((wholeL j ns).length + 1) cap2) ((wholeL j ns).length + 1) ((natJ8 (wholeL (j + 1) ns)).map (Value.int .i64))) := ho2
          have HB6 : Hid _ := hb6
          have HN6 : Hid _ := hn6
          clear hs ho q1 q2 hz hb5 ho5 hrun ho2 hgr hor hlt2 hb6 hn6 hv6
          have tok1 : True := trivial
          go_wp2_with (first | (at_lookup; have _t := tok1; refine wpList_lookup_own_unit _ rfl _ _ 213 rfl 3 96 lawI Tryz.underlying213 (zeroU _) bm 32 D rfl HM.out _ _ rfl HK1.out ?_; rw [P1.out]; clear tok1) | (at_lookup; refine wpList_lookup_own_unit _ rfl _ _ 213 rfl 3 96 lawI Tryz.underlying213 (zeroU _) bm 32 D rfl (World.ownsMap.alloc HM.out _) _ _ rfl HK2.out ?_; rw [P2.out]) | (at_builtin; refine wpList_append_run rfl _ _ 22 rfl _ _ _ _ rfl rfl HRun.out ?_))
          refine ⟨⟨j + 1, by omega, by go_num, ⟨_, _, by rw [HN6.out]⟩, HB6.out, by rw [HN6.out]; exact HO2.out⟩, by simp [intOf]; omega⟩
        · rw [decide_eq_true q2] at p2
          have P2 : Hid _ := p2
          clear p2
          rw [if_neg (fun h => q2 h.2), List.append_nil] at hs
          have HS : Hid _ := hs
          have HO : Hid (wr.ownsRow w2.heap.size 3 1 (.slice av (wholeL j ns).length cv) (wholeL j ns).length ((natJ8 (wholeL j ns)).map (Value.int .i64))) := ho
          have HB5 : Hid _ := ((HB.out.alloc HB.out.size (.cells #[] 96)).alloc (by have := HB.out.size; simp; omega) (.cells #[] 96))
          clear hs ho q1 q2
          have tok1 : True := trivial
          go_wp2_with (first | (at_lookup; have _t := tok1; refine wpList_lookup_own_unit _ rfl _ _ 213 rfl 3 96 lawI Tryz.underlying213 (zeroU _) bm 32 D rfl HM.out _ _ rfl HK1.out ?_; rw [P1.out]; clear tok1) | (at_lookup; refine wpList_lookup_own_unit _ rfl _ _ 213 rfl 3 96 lawI Tryz.underlying213 (zeroU _) bm 32 D rfl (World.ownsMap.alloc HM.out _) _ _ rfl HK2.out ?_; rw [P2.out]))
          refine ⟨⟨j + 1, by omega, by go_num, ⟨av, cv, by rw [HS.out]⟩, HB5.out, by rw [HS.out]; exact (HO.out.alloc _).alloc _⟩, by simp [intOf]; omega⟩
      · rw [decide_eq_true q1] at p1
        have P1 : Hid _ := p1
        clear p1
        cases q2 : decide (¬ 2 * j + 1 ∈ ns) with
        | true =>
          rw [q2] at p2
          have P2 : Hid _ := p2
          clear p2 q2
          rw [if_neg (fun h => q1 h.1), List.append_nil] at hs
          have HS : Hid _ := hs
          have HO : Hid (wr.ownsRow w2.heap.size 3 1 (.slice av (wholeL j ns).length cv) (wholeL j ns).length ((natJ8 (wholeL j ns)).map (Value.int .i64))) := ho
          have HB5 : Hid _ := ((HB.out.alloc HB.out.size (.cells #[] 96)).alloc (by have := HB.out.size; simp; omega) (.cells #[] 96))
          clear hs ho q1
          have tok1 : True := trivial
          go_wp2_with (first | (at_lookup; have _t := tok1; refine wpList_lookup_own_unit _ rfl _ _ 213 rfl 3 96 lawI Tryz.underlying213 (zeroU _) bm 32 D rfl HM.out _ _ rfl HK1.out ?_; rw [P1.out]; clear tok1) | (at_lookup; refine wpList_lookup_own_unit _ rfl _ _ 213 rfl 3 96 lawI Tryz.underlying213 (zeroU _) bm 32 D rfl (World.ownsMap.alloc HM.out _) _ _ rfl HK2.out ?_; rw [P2.out]))
          refine ⟨⟨j + 1, by omega, by go_num, ⟨av, cv, by rw [HS.out]⟩, HB5.out, by rw [HS.out]; exact (HO.out.alloc _).alloc _⟩, by simp [intOf]; omega⟩
        | false =>
          rw [q2] at p2
          have P2 : Hid _ := p2
          clear p2 q2
          rw [if_neg (fun h => q1 h.1), List.append_nil] at hs
          have HS : Hid _ := hs
          have HO : Hid (wr.ownsRow w2.heap.size 3 1 (.slice av (wholeL j ns).length cv) (wholeL j ns).length ((natJ8 (wholeL j ns)).map (Value.int .i64))) := ho
          have HB5 : Hid _ := ((HB.out.alloc HB.out.size (.cells #[] 96)).alloc (by have := HB.out.size; simp; omega) (.cells #[] 96))
          clear hs ho q1
          have tok1 : True := trivial
          go_wp2_with (first | (at_lookup; have _t := tok1; refine wpList_lookup_own_unit _ rfl _ _ 213 rfl 3 96 lawI Tryz.underlying213 (zeroU _) bm 32 D rfl HM.out _ _ rfl HK1.out ?_; rw [P1.out]; clear tok1) | (at_lookup; refine wpList_lookup_own_unit _ rfl _ _ 213 rfl 3 96 lawI Tryz.underlying213 (zeroU _) bm 32 D rfl (World.ownsMap.alloc HM.out _) _ _ rfl HK2.out ?_; rw [P2.out]))
          refine ⟨⟨j + 1, by omega, by go_num, ⟨av, cv, by rw [HS.out]⟩, HB5.out, by rw [HS.out]; exact (HO.out.alloc _).alloc _⟩, by simp [intOf]; omega⟩
    · obtain rfl : j = m := by omega
      have HV : Hid (ListOf wr w.heap.size (.slice av (wholeL j ns).length cv) (wholeL (k + r) ns)) := by rw [← HMM.out]; exact listOf_own HB2.out.size rfl ho
      have HB4 : Hid _ := HB2.out.trans (HB.out.mono HB2.out.size)
      clear ho
      go_wp2
      go_ret2
      exact ⟨_, rfl, HV.out, HB4.out⟩
end Go.Proofs.YtkoakingmnjdoaaGreatDoor

/- What Kind of package damage answers of legal arguments. -/
namespace Go.Proofs.YtkoakingmnjdoaaGreatDoor
open Go.RowKit Go.Maps Gf
set_option linter.unusedVariables false
set_option maxRecDepth 20000
set_option maxHeartbeats 4000000 in
theorem kind_legal (k r l cap : Nat) (a : Option Addr) (ns : List Nat) (w : World) (E : Nat → Addr) (hE : ErrsH w E) (h1 : 1 ≤ k) (h2 : 2 ≤ r) (h3 : k + r ≤ 16) (hl : l = ns.length) (hcap : l ≤ cap) (hX : RowI w a (natJ8 ns)) (hu : ns.Pairwise (· < ·)) (hr : ∀ x ∈ ns, x < 2 * (k + r)) :
    Calls Tryz.prog 169 #[.int .i64 k, .int .i64 r, .slice a l cap] w fun e w' => e = .returned (.tuple #[.int .i64 (kindN k ns), .nilIface]) ∧ Below w.heap.size w w' := by
  have HK : Hid (kindN k ns = if ns.length = 0 then 0 else if ns.length = 2 ∧ (wholeL (k + r) ns).length = 1 ∧ (wholeL (k + r) ns).getD 0 0 < k then 1 else 2) := kind_way (by omega) hu
  have HW : Hid _ := whole_legal k r l cap a ns w E hE h1 h2 h3 hl hcap hX hu hr
  have HL : Hid (l = ns.length) := hl
  clear hl hX hr hu hE
  go_enter Tryz.func169, Tryz.ntmps169
  go_wp2_with fail
  refine Calls.mono HW.out ?_
  rintro e w1 ⟨v, rfl, ⟨av, cv, rfl, hl9, hm9, hn9, hx9, hf9⟩, hb1⟩
  have HB1 : Hid _ := hb1
  clear hb1
  have hk := HK.out
  generalize wholeL (k + r) ns = wl at *
  rw [← HL.out] at hk
  have HK2 : Hid _ := hk
  clear hk HK HL HW
  by_cases h0 : l = 0
  · rw [if_pos h0] at HK2
    subst h0
    clear hx9 hf9 hn9
    go_wp2
    go_ret2
    exact ⟨by rw [HK2.out]; rfl, HB1.out⟩
  · rw [if_neg h0] at HK2
    by_cases hl2 : l = 2
    · by_cases hw1 : wl.length = 1
      · obtain ⟨x, rfl⟩ := List.length_eq_one_iff.1 hw1
        obtain ⟨b, off, rfl, hbl, hc⟩ := rowI_cell hx9 (show 0 < (natJ8 [x]).length by simp [natJ8])
        have c1 := hc 0 (by simp [natJ8])
        rw [show (natJ8 [x]).getD 0 0 = (x : Int) from rfl, Nat.add_zero] at c1
        rw [show [x].length = 1 from rfl]
        by_cases hxk : x < k
        · rw [if_pos ⟨hl2, rfl, hxk⟩] at HK2
          clear hx9 hf9 hn9 hc hw1
          subst hl2
          go_wp2
          go_ret2
          exact ⟨by rw [HK2.out]; rfl, HB1.out⟩
        · rw [if_neg (fun h => hxk h.2.2)] at HK2
          clear hx9 hf9 hn9 hc hw1
          subst hl2
          go_wp2
          go_ret2
          exact ⟨by rw [HK2.out]; rfl, HB1.out⟩
      · rw [if_neg (fun h => hw1 h.2.1)] at HK2
        generalize wl.length = wn at *
        clear hx9 hf9 hn9
        subst hl2
        go_wp2
        go_ret2
        exact ⟨by rw [HK2.out]; rfl, HB1.out⟩
    · rw [if_neg (fun h => hl2 h.1)] at HK2
      generalize wl.length = wn at *
      clear hx9 hf9 hn9
      go_wp2
      go_ret2
      exact ⟨by rw [HK2.out]; rfl, HB1.out⟩
end Go.Proofs.YtkoakingmnjdoaaGreatDoor

/- The program of a loss in package plan: what it makes of every stripe, how much it reads. -/
namespace Go.Proofs.YtkoakingmnjdoaaGreatDoor
open Go.RowKit Gf
set_option linter.unusedVariables false
set_option maxRecDepth 20000
set_option linter.unusedSimpArgs false
/-- the sources of which what is lost is made -/
def srcL (k r : Nat) (lost : List Nat) : List Nat := if kindN k lost = 1 then cheapL (2 * (k + r)) k (lost.getD 0 0 / 2) (carN (groupN k r) (lost.getD 0 0 / 2)) (carL k (groupN k r) (carN (groupN k r) (lost.getD 0 0 / 2))) else leftL (2 * (k + r)) lost
theorem comb_same {k : Nat} {car : Nat → Nat} {L : List Nat} {h : Nat} {x y : Nat → F} (hx : Comb k car L h x) (hy : Comb k car L h y) : ∀ l, l < L.length → x l = y l :=
  sols_eq (A := tr fun i j => halfF k car (L.getD i 0) j) (n := 2 * k) hx.2 hy.2 fun i hi => by
    have e : ∀ z : Nat → F, sumF (fun l => gm (tr (fun i j => halfF k car (L.getD i 0) j) i l) (z l)) L.length = sumF (fun l => gm (z l) (halfF k car (L.getD l 0) i)) L.length := fun z => sumF_congr fun l _ => F.mul_comm _ _
    rw [e, e, ← hx.1 i hi, ← hy.1 i hi]
theorem insP_congr {C D : Mt} {no : Nat} {L : List Nat} : ∀ {s : Nat}, (∀ o, o < no → ∀ t, t < s → C o t = D o t) → insP C no L s = insP D no L s
  | 0, _ => rfl
  | s + 1, h => by
    rw [insP, insP, insP_congr fun o ho t ht => h o ho t (by omega)]
    have e : addsP (fun o => C o s) no no = [] ↔ addsP (fun o => D o s) no no = [] := by
      rw [addsP_nil, addsP_nil]
      exact ⟨fun q o ho => by rw [← h o ho s (by omega)]; exact q o ho, fun q o ho => by rw [h o ho s (by omega)]; exact q o ho⟩
    by_cases hq : addsP (fun o => C o s) no no = []
    · rw [if_pos hq, if_pos (e.1 hq)]
    · rw [if_neg hq, if_neg (fun h => hq (e.2 h))]
/-- a right program for what is lost, W being wanted: I is what it reads, ss its steps -/
structure MadeP (k r : Nat) (lost W I : List Nat) (ss : List Stp) : Prop where
  form : InF (natJ8 I) (natJ8 W) ((W.length : Int) + 1) ss
  low : ∀ x ∈ I, x < 2 * (k + r) ∧ x ∉ lost
  makes : ∀ (X : Int → Nat → F) (D : Nat → F) (b : Nat), (∀ (i x : Nat), I[i]? = some x → X (i : Int) b = sumF (fun j => gm (halfF k (carN (groupN k r)) x j) (D j)) (2 * k)) → ∀ o, o < W.length → runO X ss noR noR (o : Int) b = sumF (fun j => gm (halfF k (carN (groupN k r)) (W.getD o 0) j) (D j)) (2 * k)
  most : I.length ≤ 2 * k
  cheap : kindN k lost = 1 → I.length ≤ k + groupN k r
  none : W = [] → I = []
  det : ∃ X : Nat → Nat → F, (∀ o, o < W.length → Comb k (carN (groupN k r)) (srcL k r lost) (W.getD o 0) (X o)) ∧ I = insP (fun o s => if s < (srcL k r lost).length then X o s else 0) W.length (srcL k r lost) (srcL k r lost).length
/-- what is read is told by what is lost and wanted -/
theorem made_same {k r : Nat} {lost W I J : List Nat} {ss ts : List Stp} (h : MadeP k r lost W I ss) (h' : MadeP k r lost W J ts) : I = J := by
  obtain ⟨X, hX, rfl⟩ := h.det
  obtain ⟨Y, hY, rfl⟩ := h'.det
  exact insP_congr fun o ho t ht => by rw [if_pos ht, if_pos ht]; exact comb_same (hX o ho) (hY o ho) t ht
/-- where something is wanted, something is read -/
theorem made_some {k r s : Nat} {lost W I : List Nat} {ss : List Stp} (h : MadeP k r lost (2 * s :: W) I ss) (hs : s < k) : 1 ≤ I.length := by
  by_cases h0 : I = []
  · exfalso
    subst h0
    have a := h.makes (fun _ _ => 0) (fun _ => 0) 0 (fun i x hi => by simp at hi) 0 (by simp)
    have b := h.makes (fun _ _ => 0) (fun j => if j = 2 * s then 1 else 0) 0 (fun i x hi => by simp at hi) 0 (by simp)
    rw [a, sumF_none fun j hj => F.mul_zero _] at b
    simp only [List.getD_cons_zero] at b
    rw [sum_unit (fun j => halfF k (carN (groupN k r)) (2 * s) j) (show 2 * s < 2 * k by omega)] at b
    have e : halfF k (carN (groupN k r)) (2 * s) (2 * s) = 1 := by
      simp only [halfF, if_true, show 2 * s / 2 = s by omega, genF, if_pos hs]
    rw [e] at b
    exact F.one_ne_zero b.symm
  · exact List.length_pos_iff.2 h0
theorem made_of {k r : Nat} {lost L W : List Nat} {X : Nat → Nat → F} (h3 : k + r ≤ 16) (hL : L.Pairwise (· < ·)) (hLr : ∀ x ∈ L, x < 2 * (k + r)) (hLo : ∀ x ∈ L, x ∉ lost) (hW : W.Pairwise (· < ·)) (hWr : ∀ x ∈ W, x < 2 * (k + r)) (hc : ∀ o, o < W.length → Comb k (carN (groupN k r)) L (W.getD o 0) (X o)) (hk : kindN k lost = 1 → L.length ≤ k + groupN k r) (hsrc : L = srcL k r lost) :
    MadeP k r lost W (insP (fun o s => if s < L.length then X o s else 0) W.length L L.length) (prgP (fun o s => if s < L.length then X o s else 0) W.length L.length) := by
  have hsub := insP_subl (C := fun o s => if s < L.length then X o s else 0) (no := W.length) L
  have hlen := insP_len (fun o s => if s < L.length then X o s else 0) W.length L L.length
  refine { form := prgP_form hL (fun x hx => by have := hLr x hx; omega) hW (fun x hx => by have := hWr x hx; omega), low := fun x hx => ⟨hLr x (hsub.subset hx), hLo x (hsub.subset hx)⟩, makes := fun Y D b hY o ho => ?_, most := ?_, cheap := fun h => ?_, none := fun h => ?_, det := ⟨X, by rw [← hsrc]; exact hc, by rw [← hsrc]⟩ }
  · rw [run_prgP (Y := fun t _ => sumF (fun j => gm (halfF k (carN (groupN k r)) (L.getD t 0) j) (D j)) (2 * k)) (fun t ht hne => hY _ _ (insP_at ht hne)) ho]
    have e : ∀ t, t < L.length → gm (if t < L.length then X o t else 0) (sumF (fun j => gm (halfF k (carN (groupN k r)) (L.getD t 0) j) (D j)) (2 * k)) = sumF (fun j => gm (gm (X o t) (halfF k (carN (groupN k r)) (L.getD t 0) j)) (D j)) (2 * k) := fun t ht => by
      rw [if_pos ht, sumF_mul_left]
      exact sumF_congr fun j _ => (F.mul_assoc _ _ _).symm
    rw [sumF_congr e, sumF_swap]
    refine sumF_congr fun j hj => ?_
    rw [← sumF_mul_right, (hc o ho).1 j hj]
  · rw [hlen]
    refine Nat.le_trans (cntP_most (P := pivL (tr fun i j => halfF k (carN (groupN k r)) (L.getD i 0) j) (2 * k) L.length) (fun o ho t ht => ?_) _) (rk_rows _ _ _)
    by_cases h : t < L.length
    · rw [if_pos h]; exact (hc o ho).2 t h ht
    · rw [if_neg h]
  · rw [hlen]; exact Nat.le_trans (cntP_le _ _ _) (hk h)
  · have : (insP (fun o s => if s < L.length then X o s else 0) W.length L L.length).length = 0 := by rw [hlen, h]; exact cntP_none _ _
    exact List.eq_nil_of_length_eq_zero this
/-- a right program in memory -/
def ProgAt (w : World) (B : Nat) (k r : Nat) (lost W : List Nat) (v : Value) : Prop := ∃ ia ic oa oc ta tc tl I ss, v = .agg #[.slice ia (List.length I) ic, .slice oa W.length oc, .int .i64 (W.length + 1 : Nat), .slice ta tl tc] ∧ PrgW w ia oa ta (List.length I) ic W.length oc tl tc (natJ8 I) (natJ8 W) ss ∧ PrgUp B ia oa ta ∧ MadeP k r lost W I ss
set_option maxRecDepth 100000 in
set_option maxHeartbeats 4000000 in
theorem program_F (k r ll lc sl sc wl wc : Nat) (la sa wa : Option Addr) (lost L W : List Nat) (w : World) (E : Nat → Addr) (hE : ErrsG w E) (h1 : 1 ≤ k) (h2 : 2 ≤ r) (h3 : k + r ≤ 16) (hsl : sl = L.length) (hwl : wl = W.length) (hwc : wl ≤ wc) (hwn : wa = none → wc = 0) (hL : RowI w sa (natJ8 L)) (hW : RowI w wa (natJ8 W)) (hLu : L.Pairwise (· < ·)) (hLr : ∀ x ∈ L, x < 2 * (k + r)) (hLo : ∀ x ∈ L, x ∉ lost) (hWu : W.Pairwise (· < ·)) (hWr : ∀ x ∈ W, x < 2 * (k + r))
    (hN : ∀ x ∈ W, NullsIn k (carN (groupN k r)) L x) (hk : kindN k lost = 1 → L.length ≤ k + groupN k r) (hsrc : L = srcL k r lost) :
    Calls Tryz.prog 36 #[.agg #[.int .i64 k, .int .i64 r, .slice la ll lc], .slice sa sl sc, .slice wa wl wc] w fun e w' => ∃ v, e = .returned (.tuple #[v, .nilIface]) ∧ ProgAt w' w.heap.size k r lost W v ∧ Below w.heap.size w w' := by
  have hs32 : sl ≤ 32 := by have := pair_len hLu hLr; omega
  have hw32 : wl ≤ 32 := by have := pair_len hWu hWr; omega
  obtain ⟨R, hR⟩ : ∃ R, R = w.heap.size + 1 := ⟨_, rfl⟩
  obtain ⟨W0, hW0⟩ : ∃ W0, W0 = (w.alloc (.cells #[.int .i64 k, .int .i64 r, .slice la ll lc] 63)).alloc (.cells #[.slice none 0 0, .slice none 0 0, .int .i64 0, .slice none 0 0] 30) := ⟨_, rfl⟩
  have hb0 : Below w.heap.size w W0 := by rw [hW0]; exact ((Below.refl _ _).alloc (Nat.le_refl _) _).alloc (by simp) _
  have hr0 : W0.heap[R]? = some (.cells #[.slice none 0 0, .slice none 0 0, .int .i64 0, .slice none 0 0] 30 (0, 0)) := by
    rw [hW0, hR, show w.heap.size + 1 = (w.alloc (.cells #[.int .i64 k, .int .i64 r, .slice la ll lc] 63)).heap.size by simp]; exact heap_alloc_last _ _
  have hx0 : W0.heap[w.heap.size]? = some (.cells #[.int .i64 k, .int .i64 r, .slice la ll lc] 63 (0, 0)) := by
    rw [hW0]; exact heap_later (heap_alloc_last _ _) ((Below.refl _ _).alloc (Nat.le_refl _) _)
  have HF : Hid _ := pfactors_F k r ll lc sl sc wl wc la sa wa L W W0 E (errsG_below hE hb0) h1 h2 h3 hsl hs32 hwl hw32 (rowI_below hL hb0) (rowI_below hW hb0) hLr hWr hN
  have HWR : Hid (∀ (X : Nat → Nat → F) (fa : Option Addr) (u : World), Below w.heap.size w u → Rows8 u fa ((List.range wl).map fun o => rowF sl (X o)) → Calls Tryz.prog 59 #[.slice sa sl sc, .slice wa wl wc, .slice fa wl wl] u fun e w' => ∃ ia ic oa oc ta tc il tl, e = .returned (.agg #[.slice ia il ic, .slice oa wl oc, .int .i64 (wl + 1 : Nat), .slice ta tl tc]) ∧ PrgW w' ia oa ta il ic wl oc tl tc (natJ8 (insP (fun o s => if s < L.length then X o s else 0) wl L sl)) (natJ8 W) (prgP (fun o s => if s < L.length then X o s else 0) wl sl) ∧ PrgUp u.heap.size ia oa ta ∧ Below u.heap.size u w') := fun X fa u hu hX =>
    write_F sl sc wl wc wl sa wa fa L (natJ8 W) (fun o s => if s < L.length then X o s else 0) u hsl hs32 (by rw [natJ8_len]; exact hwl) hw32 hwc hwn (rowI_below hL hu) (rowI_below hW hu) (by
      have e : ((List.range wl).map fun o => rowF sl fun s => if s < L.length then X o s else 0) = (List.range wl).map fun o => rowF sl (X o) := List.map_congr_left fun o _ => rowF_congr fun s hs => by rw [if_pos (by omega)]
      rw [e]; exact hX)
  have HMD : Hid (∀ X : Nat → Nat → F, (∀ o, o < wl → Comb k (carN (groupN k r)) L (W.getD o 0) (X o)) → MadeP k r lost W (insP (fun o s => if s < L.length then X o s else 0) wl L sl) (prgP (fun o s => if s < L.length then X o s else 0) wl sl)) := fun X hX => by
    subst hsl hwl
    exact made_of h3 hLu hLr hLo hWu hWr hX hk hsrc
  have HB0 : Hid (Below w.heap.size w W0) := hb0
  have HR0 : Hid (W0.heap[R]? = some (.cells #[.slice none 0 0, .slice none 0 0, .int .i64 0, .slice none 0 0] 30 (0, 0))) := hr0
  have HX0 : Hid (W0.heap[w.heap.size]? = some (.cells #[.int .i64 k, .int .i64 r, .slice la ll lc] 63 (0, 0))) := hx0
  have HWE : Hid (W0 = (w.alloc (.cells #[.int .i64 k, .int .i64 r, .slice la ll lc] 63)).alloc (.cells #[.slice none 0 0, .slice none 0 0, .int .i64 0, .slice none 0 0] 30)) := hW0
  have HRE : Hid (R = w.heap.size + 1) := hR
  have HWL : Hid (wl = W.length) := hwl
  have hRw : w.heap.size ≤ R := by omega
  clear hE hsl hwl hwc hwn hL hW hLu hLr hLo hWu hWr hN hk hR hW0 hb0 hr0 hx0
  go_enter Tryz.func36, Tryz.ntmps36
  go_upto_region 1 with fail
  rw [← HWE.out]
  try rw [← HRE.out]
  clear HWE
  have k0 := cellAt HX0.out 0 _ rfl
  have k1 := cellAt HX0.out 1 _ rfl
  have k2 := cellAt HX0.out 2 _ rfl
  have zx := ltHeap HX0.out
  go_wp2_with fail
  refine Calls.mono HF.out ?_
  rintro e V ⟨M, X, rfl, hrows, hcomb, hv⟩
  have HBV : Hid (Below w.heap.size w V) := HB0.out.trans (hv.mono HB0.out.size)
  have HRV : Hid _ := heap_later HR0.out hv
  have HWC : Hid _ := HWR.out X (some ⟨M, 0, none⟩) V HBV.out hrows
  have HMX : Hid _ := HMD.out X hcomb
  clear hrows hcomb hv k0 k1 k2 zx HF HR0 HX0
  go_wp2_with fail
  refine Calls.mono HWC.out ?_
  rintro e Y ⟨ia, ic, oa, oc, ta, tc, il, tl, rfl, hpw, hup, hy⟩
  have hRY := heap_later HRV.out hy
  have hBY : Below w.heap.size w Y := HBV.out.trans (hy.mono HBV.out.size)
  have hil : il = (insP (fun o s => if s < L.length then X o s else 0) wl L sl).length := by have := hpw.eil; rwa [natJ8_len] at this
  obtain ⟨I, hI⟩ : ∃ I, I = insP (fun o s => if s < L.length then X o s else 0) wl L sl := ⟨_, rfl⟩
  obtain ⟨ss, hss⟩ : ∃ ss, ss = prgP (fun o s => if s < L.length then X o s else 0) wl sl := ⟨_, rfl⟩
  have hmx := HMX.out
  rw [← hI, ← hss] at hmx hpw
  rw [← hI] at hil
  have HMXX : Hid (MadeP k r lost W I ss) := hmx
  have HIL : Hid (il = I.length) := hil
  have hVR : R < V.heap.size := ltHeap HRV.out
  have hwV : w.heap.size ≤ V.heap.size := HBV.out.size
  clear hI hss hmx hil HWR HMD HWC HMX
  obtain ⟨U, hU⟩ : ∃ U, U = (((Y.setCell ⟨R, 0, none⟩ (.slice ia il ic)).setCell ⟨R, 1, none⟩ (.slice oa wl oc)).setCell ⟨R, 2, none⟩ (.int .i64 (wl + 1 : Nat))).setCell ⟨R, 3, none⟩ (.slice ta tl tc) := ⟨_, rfl⟩
  have hgU : Y.grownBy U (some R) := by rw [hU]; exact grownBy_setCell (grownBy_setCell (grownBy_setCell (grownBy_setCell (World.grownBy.refl _ _) _) _) _) _
  have HPU : Hid (PrgW U ia oa ta il ic wl oc tl tc (natJ8 I) (natJ8 W) ss) := hpw.grownO hgU hup hVR
  have HUP : Hid (PrgUp w.heap.size ia oa ta) := hup.mono hwV
  have hRU : U.heap[R]? = some (.cells #[.slice ia il ic, .slice oa wl oc, .int .i64 (wl + 1 : Nat), .slice ta tl tc] 30 (0, 0)) := by
    rw [hU, heap_setCell_same _ _ _ _ _ _ (heap_setCell_same _ _ _ _ _ _ (heap_setCell_same _ _ _ _ _ _ (heap_setCell_same _ _ _ _ _ _ hRY)))]
    rfl
  have HBU : Hid (Below w.heap.size w U) := by
    show Below ..; rw [hU]
    exact (((hBY.setCell (p := ⟨R, 0, none⟩) hRw _).setCell (p := ⟨R, 1, none⟩) hRw _).setCell (p := ⟨R, 2, none⟩) hRw _).setCell (p := ⟨R, 3, none⟩) hRw _
  have HUE : Hid (U = (((Y.setCell ⟨R, 0, none⟩ (.slice ia il ic)).setCell ⟨R, 1, none⟩ (.slice oa wl oc)).setCell ⟨R, 2, none⟩ (.int .i64 (wl + 1 : Nat))).setCell ⟨R, 3, none⟩ (.slice ta tl tc)) := hU
  have zR := ltHeap hRY
  have r0 := cellAt hRY 0 _ rfl
  have r1 := cellAt hRY 1 _ rfl
  have r2 := cellAt hRY 2 _ rfl
  have r3 := cellAt hRY 3 _ rfl
  have e0 : Y.frozen? ⟨R, 0, none⟩ = false := frozen_of_row _ _ _ _ _ hRY
  have e1 : Y.frozen? ⟨R, 1, none⟩ = false := frozen_of_row _ _ _ _ _ hRY
  have e2 : Y.frozen? ⟨R, 2, none⟩ = false := frozen_of_row _ _ _ _ _ hRY
  have e3 : Y.frozen? ⟨R, 3, none⟩ = false := frozen_of_row _ _ _ _ _ hRY
  have q0 := cellAt hRU 0 _ rfl
  have q1 := cellAt hRU 1 _ rfl
  have q2 := cellAt hRU 2 _ rfl
  have q3 := cellAt hRU 3 _ rfl
  have zz := ltHeap hRU
  clear hpw hup hy hRY hBY hVR hwV hU hgU hRU
  have HWLQ : Hid (wl + 1 = W.length + 1) := by show _ = _; rw [HWL.out]
  generalize wl + 1 = rg at *
  go_wp2
  rw [← HUE.out]
  refine bodyPost_ret (v := .tuple #[.agg #[.slice ia il ic, .slice oa wl oc, .int .i64 rg, .slice ta tl tc], .nilIface]) (by simp [results, Tryz.results36, go_sem, q0, q1, q2, q3, zz]) rfl ⟨_, rfl, ⟨ia, ic, oa, oc, ta, tc, tl, I, ss, ?_, ?_, HUP.out, HMXX.out⟩, HBU.out⟩
  · rw [HIL.out, HWL.out, HWLQ.out]
  · rw [← HIL.out, ← HWL.out]; exact HPU.out
end Go.Proofs.YtkoakingmnjdoaaGreatDoor

/- What cheapSources of package plan answers: the halves of which a data shard is made over the parity that carries it, rising. -/
namespace Go.Proofs.YtkoakingmnjdoaaGreatDoor
open Go.RowKit Go.Sort Go.Shelf Gf
set_option linter.unusedVariables false
set_option maxRecDepth 20000
set_option linter.unusedSimpArgs false
theorem sortI_F {w : World} {B n g cap : Nat} {zs : List Int} {L : List Nat} (ho : w.ownsRow B 3 1 (.slice (some ⟨g, 0, none⟩) n cap) n (zs.map (Value.int .i64))) (hL : L.Pairwise (· < ·)) (hp : zs.Perm (natJ8 L)) (hn : n ≤ 1000) :
    Calls Tryz.prog 173 #[.slice (some ⟨g, 0, none⟩) n cap] w fun e w' => e = .returned (.tuple #[]) ∧ w'.ownsRow B 3 1 (.slice (some ⟨g, 0, none⟩) n cap) n ((natJ8 L).map (Value.int .i64)) ∧ w.grownBy w' (some g) := by
  have hl : n = zs.length := by have := ho.1; rw [List.length_map] at this; omega
  subst hl
  rcases ho.2 with ⟨e, _⟩ | ⟨g', cap', cur, e, hB, hg, hle, h5, h6, h7⟩
  · cases e
  cases e
  rw [Nat.mul_one] at h7
  refine (AnyM.slices_Sort_int Tryz.sortA g 0 cap zs w (holds_of_blockI hg h7) (ltHeap hg) (by omega)).mono ?_
  rintro e w' ⟨he, q, os, rfl⟩
  refine ⟨he, ?_, grownBy_sortedI _⟩
  rw [natJ8_sort hL hp]
  exact ownsRow_sortedI (by rw [← hp.length_eq]) hB hg hle h5 h6
/-- the first of them -/
def chA (s j : Nat) : List Nat := ((List.range j).filter fun t => !decide (t = s)).map (2 * · + 1)
def chB (k s p : Nat) : List Nat := chA s (k + 1) ++ [2 * (k + p) + 1]
def chC (k s p : Nat) (G : List Nat) (i : Nat) : List Nat := chB k s p ++ ((G.take i).filter fun t => !decide (t = s)).map (2 * ·)
theorem chA_yes {s : Nat} : chA s (s + 1) = chA s s := by simp [chA, List.range_succ]
theorem chA_no {s j : Nat} (h : j ≠ s) : chA s (j + 1) = chA s j ++ [2 * j + 1] := by simp [chA, List.range_succ, h]
theorem chA_len (s : Nat) (j : Nat) : (chA s j).length ≤ j := by
  have := List.length_filter_le (fun t => !decide (t = s)) (List.range j)
  simp only [chA, List.length_map]
  simpa using this
theorem chC_len (k s p : Nat) (G : List Nat) (i : Nat) : (chC k s p G i).length ≤ k + 2 + G.length := by
  have h1 := chA_len s (k + 1)
  have h2 := List.length_filter_le (fun t => !decide (t = s)) (G.take i)
  rw [List.length_take] at h2
  simp only [chC, chB, List.length_append, List.length_map, List.length_cons, List.length_nil]
  omega
theorem chC_yes {k s p i : Nat} {G : List Nat} (h : G[i]? = some s) : chC k s p G (i + 1) = chC k s p G i := by
  simp [chC, List.take_add_one, h]
theorem chC_no {k s p i x : Nat} {G : List Nat} (h : G[i]? = some x) (hx : x ≠ s) : chC k s p G (i + 1) = chC k s p G i ++ [2 * x] := by
  simp [chC, List.take_add_one, h, hx]
theorem chC_all {k s p : Nat} {G : List Nat} : chC k s p G G.length = cheapB k s p G := by
  simp [chC, chB, chA, cheapB]
theorem natJ8_snoc (L : List Nat) (x : Nat) : (natJ8 L).map (Value.int .i64) ++ [.int .i64 (x : Int)] = (natJ8 (L ++ [x])).map (Value.int .i64) := by simp [natJ8]
theorem natJ8_at {L : List Nat} {i x : Nat} (h : L[i]? = some x) : (natJ8 L)[i]? = some (x : Int) := by simp [natJ8, h]
set_option maxRecDepth 100000 in
set_option maxHeartbeats 8000000 in
theorem cheapSources_F (k s p m gl gc : Nat) (ga : Option Addr) (G : List Nat) (w : World) (hk : k ≤ 14) (hs : s < k) (hp1 : 1 ≤ p) (hp : p ≤ 16) (hgl : gl = G.length) (hg9 : gl ≤ 16) (hnd : G.Nodup) (hgk : ∀ x ∈ G, x < k) (hX : RowI w ga (natJ8 G)) (hm : ∀ x ∈ cheapB k s p G, x < m) :
    Calls Tryz.prog 171 #[.int .i64 k, .int .i64 s, .int .i64 p, .slice ga gl gc] w fun e w' => ∃ v, e = .returned v ∧ ListOf w' w.heap.size v (cheapL m k s p G) ∧ Below w.heap.size w w' := by
  have HGL : Hid (gl = G.length) := hgl
  have HND : Hid G.Nodup := hnd
  have HGK : Hid (∀ x ∈ G, x < k) := hgk
  have HX : Hid (RowI w ga (natJ8 G)) := hX
  have HPM : Hid ((cheapL m k s p G).Perm (cheapB k s p G)) := cheapL_perm hp1 hnd hm
  have HLEN : Hid (∀ i, (chC k s p G i).length ≤ 40) := fun i => by have := chC_len k s p G i; omega
  clear hgl hnd hgk hX hm
  go_enter Tryz.func171, Tryz.ntmps171
  go_wp2
  go_loopw [15, 9] (fun t v wr => ∃ (j n : Nat), j ≤ k + 1 ∧ t = .int .i64 j ∧ n = (chA s j).length ∧ wr.ownsRow w.heap.size 3 1 v n ((natJ8 (chA s j)).map (Value.int .i64)) ∧ Below w.heap.size w wr) (fun t _ _ => k + 1 - (intOf t).toNat)
  case atStart => exact ⟨0, 0, Nat.zero_le _, rfl, rfl, World.ownsRow_nil _ _ _ _, Below.refl _ _⟩
  case round =>
    obtain ⟨j, n, hj, rfl, hn, ho, hb⟩ := hrel
    obtain ⟨av, cv, rfl⟩ := own_shape ho
    have HN : Hid (n = (chA s j).length) := hn
    have HO : Hid (wr.ownsRow w.heap.size 3 1 (.slice av n cv) n ((natJ8 (chA s j)).map (Value.int .i64))) := ho
    have HB : Hid (Below w.heap.size w wr) := hb
    have hn9 : n ≤ 40 := by have := chA_len s j; omega
    clear hn ho hb
    generalize wr = Y at *
    by_cases hlt : j < k + 1
    · have hlI : (j : Int) < (k : Int) + 1 := by omega
      by_cases hjs : j = s
      · subst hjs
        have HAE : Hid (chA j (j + 1) = chA j j) := chA_yes
        go_wp2
        exact ⟨⟨j + 1, n, by omega, by go_num, by rw [HAE.out]; exact HN.out, by rw [HAE.out]; exact HO.out, HB.out⟩, by simp [intOf]; omega⟩
      · have HAE : Hid (chA s (j + 1) = chA s j ++ [2 * j + 1]) := chA_no hjs
        obtain ⟨q, hq⟩ : ∃ q, q = 2 * j + 1 := ⟨_, rfl⟩
        rw [← hq] at HAE
        have hqI : 2 * (j : Int) + 1 = (q : Int) := by omega
        obtain ⟨X, hX⟩ : ∃ X, X = Y.alloc (.cells #[.int .i64 q] 3) := ⟨_, rfl⟩
        have hbX : Below Y.heap.size Y X := by rw [hX]; exact (Below.refl _ _).alloc (Nat.le_refl _) _
        have hXl : X.heap[Y.heap.size]? = some (.cells #[.int .i64 q] 3 (0, 0)) := by rw [hX]; exact heap_alloc_last _ _
        have hoX := own_below HO.out hbX
        have hsz : w.heap.size ≤ X.heap.size := Nat.le_trans HB.out.size hbX.size
        obtain ⟨g2, cap2, w6, hrun, ho2, hgr, _⟩ := appendI (c := 1) (x := (q : Int)) 22 hoX (cellAt hXl 0 _ rfl) (by omega) hsz
        rw [natJ8_snoc, ← HAE.out] at ho2
        have HRun : Hid _ := hrun
        have HO2 : Hid (w6.ownsRow w.heap.size 3 1 (.slice (some ⟨g2, 0, none⟩) (n + 1) cap2) (n + 1) ((natJ8 (chA s (j + 1))).map (Value.int .i64))) := ho2
        have HB6 : Hid (Below w.heap.size w w6) := below_own (HB.out.trans (hbX.mono HB.out.size)) hoX hgr hsz
        have HXE : Hid (X = Y.alloc (.cells #[.int .i64 q] 3)) := hX
        have HNE : Hid (n + 1 = (chA s (j + 1)).length) := by show _ = _; rw [HAE.out, List.length_append, ← HN.out]; rfl
        have hjs2 : ¬ (j : Int) = (s : Int) := by omega
        clear hq hX hbX hXl hoX hsz hrun ho2 hgr hjs
        go_wp2_with (at_builtin; (try rw [← HXE.out]); refine wpList_append_run rfl _ _ 22 rfl _ _ _ _ rfl rfl HRun.out ?_)
        exact ⟨⟨j + 1, n + 1, by omega, by go_num, HNE.out, HO2.out, HB6.out⟩, by simp [intOf]; omega⟩
    · obtain rfl : j = k + 1 := by omega
      obtain ⟨q, hq⟩ : ∃ q, q = 2 * (k + p) + 1 := ⟨_, rfl⟩
      have hqI : 2 * ((k : Int) + (p : Int)) + 1 = (q : Int) := by omega
      have HBE : Hid (chA s (k + 1) ++ [q] = chC k s p G 0) := by show _ = _; rw [hq]; simp [chC, chB]
      obtain ⟨X, hX⟩ : ∃ X, X = Y.alloc (.cells #[.int .i64 q] 3) := ⟨_, rfl⟩
      have hbX : Below Y.heap.size Y X := by rw [hX]; exact (Below.refl _ _).alloc (Nat.le_refl _) _
      have hXl : X.heap[Y.heap.size]? = some (.cells #[.int .i64 q] 3 (0, 0)) := by rw [hX]; exact heap_alloc_last _ _
      have hoX := own_below HO.out hbX
      have hsz : w.heap.size ≤ X.heap.size := Nat.le_trans HB.out.size hbX.size
      obtain ⟨g2, cap2, w6, hrun, ho2, hgr, _⟩ := appendI (c := 1) (x := (q : Int)) 22 hoX (cellAt hXl 0 _ rfl) (by omega) hsz
      rw [natJ8_snoc, HBE.out] at ho2
      have HRun : Hid _ := hrun
      have HO2 : Hid (w6.ownsRow w.heap.size 3 1 (.slice (some ⟨g2, 0, none⟩) (n + 1) cap2) (n + 1) ((natJ8 (chC k s p G 0)).map (Value.int .i64))) := ho2
      have HB6 : Hid (Below w.heap.size w w6) := below_own (HB.out.trans (hbX.mono HB.out.size)) hoX hgr hsz
      have HXE : Hid (X = Y.alloc (.cells #[.int .i64 q] 3)) := hX
      have HNE : Hid (n + 1 = (chC k s p G 0).length) := by show _ = _; rw [← HBE.out, List.length_append, ← HN.out]; rfl
      clear hq hX hbX hXl hoX hsz hrun ho2 hgr
      go_upto_region 9 with (at_builtin; (try rw [← HXE.out]); refine wpList_append_run rfl _ _ 22 rfl _ _ _ _ rfl rfl HRun.out ?_)
      clear HRun HXE
      go_wp2
      go_loopw [38, 9] (fun t v wr => ∃ (i n c : Nat) (g : Nat), i ≤ gl ∧ t = .int .i64 i ∧ n = (chC k s p G i).length ∧ v = .slice (some ⟨g, 0, none⟩) n c ∧ wr.ownsRow w.heap.size 3 1 (.slice (some ⟨g, 0, none⟩) n c) n ((natJ8 (chC k s p G i)).map (Value.int .i64)) ∧ Below w.heap.size w wr) (fun t _ _ => gl - (intOf t).toNat)
      case atStart => exact ⟨0, n + 1, _, _, Nat.zero_le _, rfl, HNE.out, rfl, HO2.out, HB6.out⟩
      case round =>
        obtain ⟨i, n, c, g, hi, rfl, hn, rfl, ho, hb⟩ := hrel
        have HN2 : Hid (n = (chC k s p G i).length) := hn
        have HO3 : Hid (wr.ownsRow w.heap.size 3 1 (.slice (some ⟨g, 0, none⟩) n c) n ((natJ8 (chC k s p G i)).map (Value.int .i64))) := ho
        have HB3 : Hid (Below w.heap.size w wr) := hb
        have hn9 : n ≤ 40 := by have := HLEN.out i; omega
        clear hn ho hb HO2 HB6 HNE
        generalize wr = Z at *
        by_cases hlt2 : i < gl
        · have hil : i < G.length := by rw [← HGL.out]; exact hlt2
          obtain ⟨x, hx⟩ : ∃ x, G[i]? = some x := ⟨_, List.getElem?_eq_getElem hil⟩
          have hxk := HGK.out x (List.mem_of_getElem? hx)
          rcases HX.out with e0 | ⟨b, off, rfl, hrows⟩
          · have := congrArg List.length e0
            rw [natJ8_len, List.length_nil] at this
            omega
          have c1 := cell_later HB3.out (hrows i x (natJ8_at hx))
          clear hrows hil
          by_cases hxs : x = s
          · subst hxs
            have HAE : Hid (chC k x p G (i + 1) = chC k x p G i) := chC_yes hx
            clear hx
            go_wp2
            exact ⟨⟨i + 1, n, _, _, by omega, by go_num, by rw [HAE.out]; exact HN2.out, rfl, by rw [HAE.out]; exact HO3.out, HB3.out⟩, by simp [intOf]; omega⟩
          · have HAE : Hid (chC k s p G (i + 1) = chC k s p G i ++ [2 * x]) := chC_no hx hxs
            obtain ⟨q, hq⟩ : ∃ q, q = 2 * x := ⟨_, rfl⟩
            rw [← hq] at HAE
            have hqI : 2 * (x : Int) = (q : Int) := by omega
            obtain ⟨X, hX⟩ : ∃ X, X = Z.alloc (.cells #[.int .i64 q] 3) := ⟨_, rfl⟩
            have hbX : Below Z.heap.size Z X := by rw [hX]; exact (Below.refl _ _).alloc (Nat.le_refl _) _
            have hXl : X.heap[Z.heap.size]? = some (.cells #[.int .i64 q] 3 (0, 0)) := by rw [hX]; exact heap_alloc_last _ _
            have hoX := own_below HO3.out hbX
            have hsz : w.heap.size ≤ X.heap.size := Nat.le_trans HB3.out.size hbX.size
            obtain ⟨g2, cap2, w6, hrun, ho2, hgr, _⟩ := appendI (c := 1) (x := (q : Int)) 22 hoX (cellAt hXl 0 _ rfl) (by omega) hsz
            rw [natJ8_snoc, ← HAE.out] at ho2
            have HRun : Hid _ := hrun
            have HO2 : Hid (w6.ownsRow w.heap.size 3 1 (.slice (some ⟨g2, 0, none⟩) (n + 1) cap2) (n + 1) ((natJ8 (chC k s p G (i + 1))).map (Value.int .i64))) := ho2
            have HB6 : Hid (Below w.heap.size w w6) := below_own (HB3.out.trans (hbX.mono HB3.out.size)) hoX hgr hsz
            have HXE : Hid (X = Z.alloc (.cells #[.int .i64 q] 3)) := hX
            have HNE : Hid (n + 1 = (chC k s p G (i + 1)).length) := by show _ = _; rw [HAE.out, List.length_append, ← HN2.out]; rfl
            have hxs2 : ¬ (x : Int) = (s : Int) := by omega
            clear hq hX hbX hXl hoX hsz hrun ho2 hgr hxs hx
            go_wp2_with (at_builtin; (try rw [← HXE.out]); refine wpList_append_run rfl _ _ 22 rfl _ _ _ _ rfl rfl HRun.out ?_)
            exact ⟨⟨i + 1, n + 1, _, _, by omega, by go_num, HNE.out, rfl, HO2.out, HB6.out⟩, by simp [intOf]; omega⟩
        · obtain rfl : gl = i := by omega
          have hperm : (natJ8 (chC k s p G gl)).Perm (natJ8 (cheapL m k s p G)) := by
            rw [HGL.out, chC_all]
            exact (HPM.out.symm).map _
          have hnl : n = (cheapL m k s p G).length := by rw [HN2.out, ← natJ8_len, hperm.length_eq, natJ8_len]
          have HNL : Hid (n = (cheapL m k s p G).length) := hnl
          have HGB : Hid (w.heap.size ≤ g) := (HO3.out.lt g rfl).1
          have HSO : Hid _ := sortI_F HO3.out (cheapL_up m k s p G) hperm (by omega)
          clear hperm hnl
          go_wp2_with fail
          refine Calls.mono HSO.out ?_
          rintro e V ⟨rfl, ho5, hg5⟩
          have HO5 : Hid (V.ownsRow w.heap.size 3 1 (.slice (some ⟨g, 0, none⟩) n c) n ((natJ8 (cheapL m k s p G)).map (Value.int .i64))) := ho5
          have HB5 : Hid (Below w.heap.size w V) := below_grown HB3.out hg5 HGB.out
          clear ho5 hg5
          go_wp2
          go_ret
          exact ⟨_, rfl, listOf_own (Nat.le_refl _) HNL.out HO5.out, HB5.out⟩
end Go.Proofs.YtkoakingmnjdoaaGreatDoor

/- What the paths of package plan answer: halves of which what is lost can be made. -/
namespace Go.Proofs.YtkoakingmnjdoaaGreatDoor
open Go.RowKit Gf
set_option linter.unusedVariables false
set_option maxRecDepth 20000
set_option linter.unusedSimpArgs false
theorem kind_one {k : Nat} {ns : List Nat} (h : kindN k ns = 1) : ∃ s, s < k ∧ ns = [2 * s, 2 * s + 1] := by
  unfold kindN at h
  split at h
  · cases h
  · split at h
    · rename_i h1; obtain ⟨s, h1, h2⟩ := h1; exact ⟨s, h1, h2⟩
    · cases h
theorem carL_leP : ∀ k < 15, ∀ r < 17, (1 ≤ k ∧ 2 ≤ r ∧ k + r ≤ 16) → ∀ i < r, (carL k (groupN k r) i).length ≤ groupN k r := by decide +kernel
theorem carN_ltP : ∀ k < 15, ∀ r < 17, (1 ≤ k ∧ 2 ≤ r ∧ k + r ≤ 16) → ∀ j < k, carN (groupN k r) j < r := by decide +kernel
/-- no path over one lost data shard -/
theorem cheap_no (k r ll lc : Nat) (la : Option Addr) (lost : List Nat) (w : World) (E : Nat → Addr) (hE : ErrsG w E) (h1 : 1 ≤ k) (h2 : 2 ≤ r) (h3 : k + r ≤ 16) (hl : ll = lost.length) (hcap : ll ≤ lc) (hX : RowI w la (natJ8 lost)) (hu : lost.Pairwise (· < ·)) (hr : ∀ x ∈ lost, x < 2 * (k + r)) (hk : kindN k lost ≠ 1) :
    Calls Tryz.prog 168 #[.agg #[], .agg #[.int .i64 k, .int .i64 r, .slice la ll lc]] w fun e w' => e = .returned (.tuple #[.slice none 0 0, .bool false, .nilIface]) ∧ Below w.heap.size w w' := by
  obtain ⟨W0, hW0⟩ : ∃ W0, W0 = (w.alloc (.cells #[] 97)).alloc (.cells #[.int .i64 k, .int .i64 r, .slice la ll lc] 63) := ⟨_, rfl⟩
  have hb0 : Below w.heap.size w W0 := by rw [hW0]; exact ((Below.refl _ _).alloc (Nat.le_refl _) _).alloc (by simp) _
  have hx0 : W0.heap[w.heap.size + 1]? = some (.cells #[.int .i64 k, .int .i64 r, .slice la ll lc] 63 (0, 0)) := by
    rw [hW0, show w.heap.size + 1 = (w.alloc (.cells #[] 97)).heap.size by simp]; exact heap_alloc_last _ _
  have HK : Hid _ := kind_legal k r ll lc la lost W0 E (errsG_below hE hb0).1 h1 h2 h3 hl hcap (rowI_below hX hb0) hu hr
  have HB0 : Hid (Below w.heap.size w W0) := hb0
  have HX0 : Hid (W0.heap[w.heap.size + 1]? = some (.cells #[.int .i64 k, .int .i64 r, .slice la ll lc] 63 (0, 0))) := hx0
  have HWE : Hid (W0 = (w.alloc (.cells #[] 97)).alloc (.cells #[.int .i64 k, .int .i64 r, .slice la ll lc] 63)) := hW0
  have hkI : ¬ (kindN k lost : Int) = 1 := by omega
  generalize kindN k lost = kn at *
  clear hE hl hcap hX hu hr hW0 hb0 hx0 hk
  go_enter Tryz.func168, Tryz.ntmps168
  go_upto_region 1 with fail
  rw [← HWE.out]
  clear HWE
  have k0 := cellAt HX0.out 0 _ rfl
  have k1 := cellAt HX0.out 1 _ rfl
  have k2 := cellAt HX0.out 2 _ rfl
  go_wp2_with fail
  refine Calls.mono HK.out ?_
  rintro e V ⟨rfl, hv⟩
  have HBV : Hid (Below w.heap.size w V) := HB0.out.trans (hv.mono HB0.out.size)
  clear hv k0 k1 k2
  go_wp2
  exact bodyPost_ret (v := .tuple #[.slice none 0 0, .bool false, .nilIface]) (by simp [results, Tryz.results168, go_sem]) rfl ⟨rfl, HBV.out⟩
set_option maxHeartbeats 8000000 in
theorem cheap_yes (k r s ll lc : Nat) (la : Option Addr) (w : World) (E : Nat → Addr) (hE : ErrsG w E) (h1 : 1 ≤ k) (h2 : 2 ≤ r) (h3 : k + r ≤ 16) (hs : s < k) (hl : ll = 2) (hcap : ll ≤ lc) (hX : RowI w la (natJ8 [2 * s, 2 * s + 1])) :
    Calls Tryz.prog 168 #[.agg #[], .agg #[.int .i64 k, .int .i64 r, .slice la ll lc]] w fun e w' => ∃ v, e = .returned (.tuple #[v, .bool true, .nilIface]) ∧ ListOf w' w.heap.size v (cheapL (2 * (k + r)) k s (carN (groupN k r) s) (carL k (groupN k r) (carN (groupN k r) s))) ∧ Below w.heap.size w w' := by
  subst hl
  obtain ⟨W0, hW0⟩ : ∃ W0, W0 = (w.alloc (.cells #[] 97)).alloc (.cells #[.int .i64 k, .int .i64 r, .slice la 2 lc] 63) := ⟨_, rfl⟩
  have hb0 : Below w.heap.size w W0 := by rw [hW0]; exact ((Below.refl _ _).alloc (Nat.le_refl _) _).alloc (by simp) _
  have hx0 : W0.heap[w.heap.size + 1]? = some (.cells #[.int .i64 k, .int .i64 r, .slice la 2 lc] 63 (0, 0)) := by
    rw [hW0, show w.heap.size + 1 = (w.alloc (.cells #[] 97)).heap.size by simp]; exact heap_alloc_last _ _
  have hkn : kindN k [2 * s, 2 * s + 1] = 1 := by
    unfold kindN
    rw [if_neg (by simp), if_pos ⟨s, hs, rfl⟩]
  have HK : Hid _ := kind_legal k r 2 lc la [2 * s, 2 * s + 1] W0 E (errsG_below hE hb0).1 h1 h2 h3 rfl hcap (rowI_below hX hb0) (by simp) (by simp; omega)
  rw [hkn] at HK
  obtain ⟨b, off, hab, hbl, hcl⟩ := rowI_cell hX (show 0 < (natJ8 [2 * s, 2 * s + 1]).length by simp [natJ8])
  have hcl0 := hcl 0 (by simp [natJ8])
  obtain ⟨h, hh⟩ : ∃ h, h = 2 * s := ⟨_, rfl⟩
  rw [show (natJ8 [2 * s, 2 * s + 1]).getD 0 0 = (h : Int) by rw [hh]; rfl, Nat.add_zero] at hcl0
  have HCL : Hid (w.cell? ⟨b, off, none⟩ = some (.int .i64 (h : Int))) := hcl0
  obtain ⟨p, hp⟩ : ∃ p, p = carN (groupN k r) s := ⟨_, rfl⟩
  have hpr : p < r := by rw [hp]; exact carN_ltP k (by omega) r (by omega) ⟨h1, h2, h3⟩ s hs
  have hp1 : 1 ≤ p := by rw [hp]; exact Nat.succ_pos _
  have HSP : Hid _ := fun u => hsplit_ok k r h s 0 u h1 h2 h3 (by omega) (by decide) (by omega)
  have HCR : Hid _ := fun u => hcarrier_ok k r s u h1 h2 h3 hs
  have HCD : Hid _ := fun u => hcarried_F k r p u h1 h2 h3 hpr
  rw [← hp] at HCR ⊢
  obtain ⟨G, hG⟩ : ∃ G, G = carL k (groupN k r) p := ⟨_, rfl⟩
  rw [← hG] at HCD ⊢
  have HGND : Hid (G.Nodup ∧ (∀ x ∈ G, x < k) ∧ G.length ≤ 16) := by
    refine ⟨?_, ?_, ?_⟩
    · rw [hG]; exact (pickB_sorted _ _).imp fun h => Nat.ne_of_lt h
    · rw [hG]; exact pickB_lt
    · have h9 := carL_leP k (by omega) r (by omega) ⟨h1, h2, h3⟩ p hpr
      have := (groupN_least h1 h2 h3).2.2.2
      rw [hG]; omega
  have HM : Hid (∀ x ∈ cheapB k s p G, x < 2 * (k + r)) := by show ∀ x ∈ _, _; rw [hG]; exact cheapB_lt hpr h2
  have HB0 : Hid (Below w.heap.size w W0) := hb0
  have HX0 : Hid (W0.heap[w.heap.size + 1]? = some (.cells #[.int .i64 k, .int .i64 r, .slice la 2 lc] 63 (0, 0))) := hx0
  have HWE : Hid (W0 = (w.alloc (.cells #[] 97)).alloc (.cells #[.int .i64 k, .int .i64 r, .slice la 2 lc] 63)) := hW0
  subst hab
  clear hE hcap hX hW0 hb0 hx0 hkn hbl hcl hcl0 hh hp hG
  go_enter Tryz.func168, Tryz.ntmps168
  go_upto_region 1 with fail
  rw [← HWE.out]
  clear HWE
  have k0 := cellAt HX0.out 0 _ rfl
  have k1 := cellAt HX0.out 1 _ rfl
  have k2 := cellAt HX0.out 2 _ rfl
  go_wp2_with fail
  refine Calls.mono HK.out ?_
  rintro e V ⟨rfl, hv⟩
  have HBV : Hid (Below w.heap.size w V) := HB0.out.trans (hv.mono HB0.out.size)
  have HXV : Hid _ := heap_later HX0.out hv
  clear hv k0 k1 k2 HX0
  go_upto_region 4 with fail
  have C0 : ∀ u, Below V.heap.size V u → u.cell? ⟨w.heap.size + 1, 0, none⟩ = some (.int .i64 k) := fun u hu => cellAt (heap_later HXV.out hu) 0 _ rfl
  have C1 : ∀ u, Below V.heap.size V u → u.cell? ⟨w.heap.size + 1, 1, none⟩ = some (.int .i64 r) := fun u hu => cellAt (heap_later HXV.out hu) 1 _ rfl
  have C2 : ∀ u, Below V.heap.size V u → u.cell? ⟨w.heap.size + 1, 2, none⟩ = some (.slice (some ⟨b, off, none⟩) 2 lc) := fun u hu => cellAt (heap_later HXV.out hu) 2 _ rfl
  have C3 : ∀ u, Below V.heap.size V u → u.cell? ⟨b, off, none⟩ = some (.int .i64 (h : Int)) := fun u hu => cell_later (HBV.out.trans (hu.mono HBV.out.size)) HCL.out
  have hR2 : Below V.heap.size V V.drew := (Below.refl _ _).drew
  go_region_held3 (fun u => Below V.heap.size V u) (first | assumption | (refine Below.drew ?_; assumption)) (first | (go_at_call 86; refine Calls.mono (HSP.out _) ?_; rintro e wi ⟨rfl, hbi⟩; have hTi : Below V.heap.size V wi := Below.trans ‹Below V.heap.size V _› (Below.mono hbi (below_size ‹Below V.heap.size V _›)); clear hbi))
  have HBW : Hid (Below w.heap.size w wi) := HBV.out.trans (hTi.mono HBV.out.size)
  have HXW : Hid _ := heap_later HXV.out hTi
  clear hTi hR2 C0 C1 C2 C3
  have k0 := cellAt HXW.out 0 _ rfl
  have k1 := cellAt HXW.out 1 _ rfl
  go_wp2_with fail
  refine Calls.mono (HCR.out _) ?_
  rintro e w5 ⟨rfl, rfl⟩
  go_wp2_with fail
  refine Calls.mono (HCD.out _) ?_
  rintro e Y ⟨ga, gn, gc, rfl, hgn, hgr, hgnil, hy⟩
  have HBY : Hid (Below w.heap.size w Y) := HBW.out.trans (hy.mono HBW.out.size)
  have HXY : Hid _ := heap_later HXW.out hy
  have HCS : Hid _ := cheapSources_F k s p (2 * (k + r)) gn gc ga G Y (by omega) hs hp1 (by omega) hgn (by rw [hgn]; exact HGND.out.2.2) HGND.out.1 HGND.out.2.1 hgr HM.out
  clear hgn hgr hgnil hy k0 k1
  have k0 := cellAt HXY.out 0 _ rfl
  go_wp2_with fail
  refine Calls.mono HCS.out ?_
  rintro e Z ⟨v, rfl, hlv, hz⟩
  have HLV : Hid (ListOf Z w.heap.size v (cheapL (2 * (k + r)) k s p G)) := by
    obtain ⟨a, cap, e, q1, q2, q3, q4, q5⟩ := hlv
    exact ⟨a, cap, e, q1, q2, q3, q4, fun p hp => Nat.le_trans HBY.out.size (q5 p hp)⟩
  have HBZ : Hid (Below w.heap.size w Z) := HBY.out.trans (hz.mono HBY.out.size)
  clear hlv hz k0
  go_wp2
  exact bodyPost_ret (v := .tuple #[v, .bool true, .nilIface]) (by simp [results, Tryz.results168, go_sem]) rfl ⟨v, rfl, HLV.out, HBZ.out⟩
/-- the way of any loss -/
theorem general_gone (k r ll lc : Nat) (la : Option Addr) (lost : List Nat) (w : World) (E : Nat → Addr) (hE : ErrsG w E) (h1 : 1 ≤ k) (h2 : 2 ≤ r) (h3 : k + r ≤ 16) (hl : ll = lost.length) (hcap : ll ≤ lc) (hX : RowI w la (natJ8 lost)) (hu : lost.Pairwise (· < ·)) (hr : ∀ x ∈ lost, x < 2 * (k + r)) (hg : goneB k (2 * (k + r)) (carN (groupN k r)) lost = true) :
    Calls Tryz.prog 195 #[.agg #[], .agg #[.int .i64 k, .int .i64 r, .slice la ll lc]] w fun e w' => e = .returned (.tuple #[.slice none 0 0, .bool false, .nilIface]) ∧ Below w.heap.size w w' := by
  obtain ⟨W0, hW0⟩ : ∃ W0, W0 = (w.alloc (.cells #[] 98)).alloc (.cells #[.int .i64 k, .int .i64 r, .slice la ll lc] 63) := ⟨_, rfl⟩
  have hb0 : Below w.heap.size w W0 := by rw [hW0]; exact ((Below.refl _ _).alloc (Nat.le_refl _) _).alloc (by simp) _
  have hx0 : W0.heap[w.heap.size + 1]? = some (.cells #[.int .i64 k, .int .i64 r, .slice la ll lc] 63 (0, 0)) := by
    rw [hW0, show w.heap.size + 1 = (w.alloc (.cells #[] 98)).heap.size by simp]; exact heap_alloc_last _ _
  have HK : Hid _ := gone_legal k r ll lc la lost W0 E (errsG_below hE hb0) h1 h2 h3 hl hcap (rowI_below hX hb0) hu hr
  rw [hg] at HK
  have HB0 : Hid (Below w.heap.size w W0) := hb0
  have HX0 : Hid (W0.heap[w.heap.size + 1]? = some (.cells #[.int .i64 k, .int .i64 r, .slice la ll lc] 63 (0, 0))) := hx0
  have HWE : Hid (W0 = (w.alloc (.cells #[] 98)).alloc (.cells #[.int .i64 k, .int .i64 r, .slice la ll lc] 63)) := hW0
  clear hE hl hcap hX hu hr hW0 hb0 hx0 hg
  go_enter Tryz.func195, Tryz.ntmps195
  go_upto_region 1 with fail
  rw [← HWE.out]
  clear HWE
  have k0 := cellAt HX0.out 0 _ rfl
  have k1 := cellAt HX0.out 1 _ rfl
  have k2 := cellAt HX0.out 2 _ rfl
  go_wp2_with fail
  refine Calls.mono HK.out ?_
  rintro e V ⟨rfl, hv⟩
  have HBV : Hid (Below w.heap.size w V) := HB0.out.trans (hv.mono HB0.out.size)
  clear hv k0 k1 k2
  go_wp2
  exact bodyPost_ret (v := .tuple #[.slice none 0 0, .bool false, .nilIface]) (by simp [results, Tryz.results195, go_sem]) rfl ⟨rfl, HBV.out⟩
set_option maxHeartbeats 4000000 in
theorem general_left (k r ll lc : Nat) (la : Option Addr) (lost : List Nat) (w : World) (E : Nat → Addr) (hE : ErrsG w E) (h1 : 1 ≤ k) (h2 : 2 ≤ r) (h3 : k + r ≤ 16) (hl : ll = lost.length) (hcap : ll ≤ lc) (hX : RowI w la (natJ8 lost)) (hu : lost.Pairwise (· < ·)) (hr : ∀ x ∈ lost, x < 2 * (k + r)) (hg : goneB k (2 * (k + r)) (carN (groupN k r)) lost = false) :
    Calls Tryz.prog 195 #[.agg #[], .agg #[.int .i64 k, .int .i64 r, .slice la ll lc]] w fun e w' => ∃ v, e = .returned (.tuple #[v, .bool true, .nilIface]) ∧ ListOf w' w.heap.size v (leftL (2 * (k + r)) lost) ∧ Below w.heap.size w w' := by
  obtain ⟨W0, hW0⟩ : ∃ W0, W0 = (w.alloc (.cells #[] 98)).alloc (.cells #[.int .i64 k, .int .i64 r, .slice la ll lc] 63) := ⟨_, rfl⟩
  have hb0 : Below w.heap.size w W0 := by rw [hW0]; exact ((Below.refl _ _).alloc (Nat.le_refl _) _).alloc (by simp) _
  have hx0 : W0.heap[w.heap.size + 1]? = some (.cells #[.int .i64 k, .int .i64 r, .slice la ll lc] 63 (0, 0)) := by
    rw [hW0, show w.heap.size + 1 = (w.alloc (.cells #[] 98)).heap.size by simp]; exact heap_alloc_last _ _
  have HK : Hid _ := gone_legal k r ll lc la lost W0 E (errsG_below hE hb0) h1 h2 h3 hl hcap (rowI_below hX hb0) hu hr
  rw [hg] at HK
  have HLF : Hid (∀ u, Below w.heap.size w u → Calls Tryz.prog 197 #[.int .i64 k, .int .i64 r, .slice la ll lc] u fun e w' => ∃ v, e = .returned (.tuple #[v, .nilIface]) ∧ ListOf w' u.heap.size v (leftL (2 * (k + r)) lost) ∧ Below u.heap.size u w') := fun u hub => left_legal k r ll lc la lost u E (errsG_below hE hub).1 h1 h2 h3 hl hcap (rowI_below hX hub) hu hr
  have HB0 : Hid (Below w.heap.size w W0) := hb0
  have HX0 : Hid (W0.heap[w.heap.size + 1]? = some (.cells #[.int .i64 k, .int .i64 r, .slice la ll lc] 63 (0, 0))) := hx0
  have HWE : Hid (W0 = (w.alloc (.cells #[] 98)).alloc (.cells #[.int .i64 k, .int .i64 r, .slice la ll lc] 63)) := hW0
  generalize leftL (2 * (k + r)) lost = LL at *
  clear hE hl hcap hX hu hr hW0 hb0 hx0 hg
  go_enter Tryz.func195, Tryz.ntmps195
  go_upto_region 1 with fail
  rw [← HWE.out]
  clear HWE
  have k0 := cellAt HX0.out 0 _ rfl
  have k1 := cellAt HX0.out 1 _ rfl
  have k2 := cellAt HX0.out 2 _ rfl
  go_wp2_with fail
  refine Calls.mono HK.out ?_
  rintro e V ⟨rfl, hv⟩
  have HBV : Hid (Below w.heap.size w V) := HB0.out.trans (hv.mono HB0.out.size)
  have HXV : Hid _ := heap_later HX0.out hv
  clear hv k0 k1 k2
  have k0 := cellAt HXV.out 0 _ rfl
  have k1 := cellAt HXV.out 1 _ rfl
  have k2 := cellAt HXV.out 2 _ rfl
  go_wp2_with fail
  refine Calls.mono (HLF.out V HBV.out) ?_
  rintro e Y ⟨v, rfl, hv, hy⟩
  have HV : Hid (ListOf Y w.heap.size v LL) := by
    obtain ⟨a, cap, e, q1, q2, q3, q4, q5⟩ := hv
    exact ⟨a, cap, e, q1, q2, q3, q4, fun p hp => Nat.le_trans HBV.out.size (q5 p hp)⟩
  have HBY : Hid (Below w.heap.size w Y) := HBV.out.trans (hy.mono HBV.out.size)
  clear hv hy k0 k1 k2
  go_wp2
  go_region
  go_wp2
  exact bodyPost_ret (v := .tuple #[v, .bool true, .nilIface]) (by simp [results, Tryz.results195, go_sem]) rfl ⟨v, rfl, listOf_below HV.out ((Below.refl _ _).drew), HBY.out.drew⟩
end Go.Proofs.YtkoakingmnjdoaaGreatDoor

/- What check and For of package plan answer. -/
namespace Go.Proofs.YtkoakingmnjdoaaGreatDoor
open Go.RowKit Gf
set_option linter.unusedVariables false
set_option maxRecDepth 20000
set_option linter.unusedSimpArgs false
/-- do they rise, and is each lost -/
def WantOk (lost W : List Int) : Prop := W.Pairwise (· < ·) ∧ ∀ x ∈ W, x ∈ lost
theorem want_nil (lost : List Int) : WantOk lost [] := ⟨List.Pairwise.nil, fun x h => by cases h⟩
theorem want_step {lost W : List Int} {j : Nat} {x y : Int} (hj : j < W.length) (hx : W[j] = x) (hy : W.getD (j - 1) 0 = y) (hp : WantOk lost (W.take j)) : WantOk lost (W.take (j + 1)) ↔ x ∈ lost ∧ (j = 0 ∨ y < x) := by
  have hl : (W.take j).length = j := by rw [List.length_take]; omega
  have hb := last_below hp.1 (x := x)
  have e1 : W.take j = [] ↔ j = 0 := by rw [← List.length_eq_zero_iff, hl]
  rw [take_snoc hj, hx]
  unfold WantOk
  rw [List.pairwise_append]
  constructor
  · rintro ⟨⟨_, _, h3⟩, h4⟩
    refine ⟨h4 x (by simp), ?_⟩
    rcases hb.1 (fun z hz => h3 z hz x (by simp)) with h | h
    · exact .inl (e1.1 h)
    · by_cases h0 : j = 0
      · exact .inl h0
      · refine .inr ?_
        rw [hl, List.getD, List.getElem?_take_of_lt (by omega), ← List.getD, hy] at h
        exact h
  · rintro ⟨h1, h2⟩
    refine ⟨⟨hp.1, List.pairwise_singleton _ _, fun z hz u hu => ?_⟩, fun z hz => ?_⟩
    · rw [List.mem_singleton] at hu
      subst hu
      refine hb.2 ?_ z hz
      rcases h2 with h | h
      · exact .inl (e1.2 h)
      · by_cases h0 : j = 0
        · exact .inl (e1.2 h0)
        · refine .inr ?_
          rw [hl, List.getD, List.getElem?_take_of_lt (by omega), ← List.getD, hy]
          exact h
    · rcases List.mem_append.1 hz with h | h
      · exact hp.2 z h
      · rw [List.mem_singleton] at h
        subst h
        exact h1
theorem want_full {lost W : List Int} {j : Nat} (h : ¬ WantOk lost (W.take j)) : ¬ WantOk lost W := fun h2 => h ⟨h2.1.sublist (List.take_sublist _ _), fun x hx => h2.2 x (List.mem_of_mem_take hx)⟩
noncomputable def wantB (lost W : List Int) : Bool := @decide (WantOk lost W) (Classical.propDecidable _)
theorem wantB_yes {lost W : List Int} (h : WantOk lost W) : wantB lost W = true := @decide_eq_true _ (Classical.propDecidable _) h
theorem wantB_no {lost W : List Int} (h : ¬ WantOk lost W) : wantB lost W = false := @decide_eq_false _ (Classical.propDecidable _) h
set_option maxHeartbeats 4000000 in
theorem plcheck_err (k r : Int) (ll lc wl wc : Nat) (la wa : Option Addr) (lost : List Int) (w : World) (E : Nat → Addr) (hE : ErrsH w E) (hk0 : -9223372036854775808 ≤ k) (hk1 : k ≤ 9223372036854775807) (hr0 : -9223372036854775808 ≤ r) (hr1 : r ≤ 9223372036854775807) (hl : ll = lost.length) (hl9 : ll ≤ 4611686018427387904) (hcap : ll ≤ lc) (hX : RowI w la lost) (hc : chkE k r lost ≠ 0) :
    Calls Tryz.prog 34 #[.int .i64 k, .int .i64 r, .slice la ll lc, .slice wa wl wc] w fun e w' => e = .returned (errAt (E (chkE k r lost - 1))) ∧ Below w.heap.size w w' := by
  have HC : Hid _ := dcheck_F k r ll lc la lost w E hE hk0 hk1 hr0 hr1 hl hl9 hcap hX
  have he : evH E (chkE k r lost) = errAt (E (chkE k r lost - 1)) := by unfold evH; rw [if_neg hc]
  rw [he] at HC
  generalize E (chkE k r lost - 1) = s at *
  clear hE hl hcap hX hc he
  unfold errAt at *
  go_enter Tryz.func34, Tryz.ntmps34
  go_wp2_with fail
  refine Calls.mono HC.out ?_
  rintro e w1 ⟨rfl, hb1⟩
  have HB1 : Hid (Below w.heap.size w w1) := hb1
  clear hb1
  go_wp2
  go_ret
  exact ⟨rfl, HB1.out⟩
set_option maxHeartbeats 8000000 in
theorem plcheck_ok (k r ll lc wl wc : Nat) (la wa : Option Addr) (lost W : List Int) (w : World) (E : Nat → Addr) (hE : ErrsH w E) (h1 : 1 ≤ k) (h2 : 2 ≤ r) (h3 : k + r ≤ 16) (hl : ll = lost.length) (hcap : ll ≤ lc) (hX : RowI w la lost) (hg : GoodH (2 * (k + r)) lost) (hwl : wl = W.length) (hwl9 : wl ≤ 4611686018427387904) (hW : RowI w wa W) :
    Calls Tryz.prog 34 #[.int .i64 k, .int .i64 r, .slice la ll lc, .slice wa wl wc] w fun e w' => e = .returned (if wantB lost W = true then .nilIface else errAt (E 3)) ∧ Below w.heap.size w w' := by
  have hlen : ll ≤ 32 := by rw [hl]; have := goodH_len hg; omega
  have HC : Hid _ := dcheck_legal k r ll lc la lost w E hE h1 h2 h3 hl (by omega) hcap hX
  rw [chkE_ok h1 h2 h3 hg, show evH E 0 = .nilIface from rfl] at HC
  have HE : Hid (ErrsH w E) := hE
  have HX : Hid (RowI w la lost) := hX
  have HW : Hid (RowI w wa W) := hW
  have HWL : Hid (wl = W.length) := hwl
  have HLL : Hid (ll = lost.length) := hl
  obtain ⟨d, hd⟩ : ∃ d, d = wantB lost W := ⟨_, rfl⟩
  have HY : Hid (WantOk lost W → d = true) := fun h => hd.trans (wantB_yes h)
  have HN0 : Hid (¬ WantOk lost W → d = false) := fun h => hd.trans (wantB_no h)
  rw [← hd]
  have HCE : Hid (∀ u, Below w.heap.size w u → u.cell? ⟨1, 0, none⟩ = some (errAt (E 3))) := fun u hu => (errsH_below HE.out hu).2
  generalize E 3 = s at *
  clear hE hl hcap hX hg hwl hW hd
  unfold errAt at *
  go_enter Tryz.func34, Tryz.ntmps34
  go_wp2_with fail
  refine Calls.mono HC.out ?_
  rintro e Y ⟨rfl, hb1⟩
  have HB1 : Hid (Below w.heap.size w Y) := hb1
  clear hb1
  go_wp2
  go_loopw [21] (fun t wr => ∃ j : Nat, j ≤ wl ∧ t = .int .i64 j ∧ wr = Y ∧ WantOk lost (W.take j)) (fun t _ => wl - (intOf t).toNat)
  case atStart => exact ⟨0, by omega, rfl, rfl, by rw [List.take_zero]; exact want_nil _⟩
  case round =>
    obtain ⟨j, hj, rfl, rfl, hwk⟩ := hrel
    have HWK : Hid (WantOk lost (W.take j)) := hwk
    clear hwk
    by_cases hlt : j < wl
    · have hjx : j < W.length := by rw [← HWL.out]; exact hlt
      obtain ⟨b, off, hab, hbl, hc⟩ := rowI_cell (rowI_below HW.out HB1.out) hjx
      have c1 := hc j hjx
      have c0 := hc (j - 1) (by omega)
      rw [show W.getD j 0 = W[j] by simp [List.getD, hjx]] at c1
      obtain ⟨x, hx⟩ : ∃ x, W[j] = x := ⟨_, rfl⟩
      obtain ⟨y, hy⟩ : ∃ y, W.getD (j - 1) 0 = y := ⟨_, rfl⟩
      have HS : Hid _ := want_step hjx hx hy HWK.out
      have HF : Hid (¬ WantOk lost (W.take (j + 1)) → ¬ WantOk lost W) := fun h => want_full h
      rw [hx] at c1
      rw [hy] at c0
      have HCN : Hid _ := contains_F ll lc la lost x wr HLL.out (by omega) (rowI_below HX.out HB1.out)
      clear hx hy hc hjx
      subst hab
      have ce := HCE.out _ HB1.out
      by_cases n1 : x ∈ lost
      · rw [decide_eq_true n1] at HCN
        have N1 : Hid (x ∈ lost) := n1
        clear n1
        by_cases n2 : j = 0
        · subst n2
          rw [Nat.add_zero] at c1
          have HWN : Hid _ := HS.out.2 ⟨N1.out, .inl rfl⟩
          clear HS HF c0 ce
          go_wp2_with fail
          refine Calls.mono HCN.out ?_
          rintro e w5 ⟨rfl, rfl⟩
          go_wp2
          exact ⟨⟨0 + 1, by omega, by go_num, by first | rfl | trivial, HWN.out⟩, by simp [intOf]; omega⟩
        · have hj0 : 0 < (j : Int) := by omega
          have hj1 : (j : Int) - 1 = ((j - 1 : Nat) : Int) := by omega
          by_cases n3 : y < x
          · have HWN : Hid _ := HS.out.2 ⟨N1.out, .inr n3⟩
            have n4 : ¬ x ≤ y := by omega
            clear HS HF ce
            go_wp2_with fail
            refine Calls.mono HCN.out ?_
            rintro e w5 ⟨rfl, rfl⟩
            go_wp2
            exact ⟨⟨j + 1, by omega, by go_num, by first | rfl | trivial, HWN.out⟩, by simp [intOf]; omega⟩
          · have HB9 : Hid _ := HF.out (fun h => by rcases (HS.out.1 h).2 with h | h <;> omega)
            have n4 : x ≤ y := by omega
            obtain rfl : d = false := HN0.out HB9.out
            clear HS HF
            go_wp2_with fail
            refine Calls.mono HCN.out ?_
            rintro e w5 ⟨rfl, rfl⟩
            go_wp2
            go_ret
            exact ⟨by first | rfl | simp, HB1.out⟩
      · rw [decide_eq_false n1] at HCN
        have HB9 : Hid _ := HF.out (fun h => n1 (HS.out.1 h).1)
        obtain rfl : d = false := HN0.out HB9.out
        clear HS HF c0 n1
        go_wp2_with fail
        refine Calls.mono HCN.out ?_
        rintro e w5 ⟨rfl, rfl⟩
        go_wp2
        go_ret
        exact ⟨by first | rfl | simp, HB1.out⟩
    · obtain rfl : j = wl := by omega
      have hwk := HWK.out
      rw [HWL.out, List.take_length] at hwk
      obtain rfl : d = true := HY.out hwk
      clear hwk
      go_wp2
      go_ret
      exact ⟨by first | rfl | simp, HB1.out⟩
theorem paths_F (w : World) : Calls Tryz.prog 35 #[] w fun e w' => e = .returned (.slice (some ⟨w.heap.size, 0, none⟩) 2 2) ∧ w' = w.alloc (.cells #[.iface 97 (.agg #[]), .iface 98 (.agg #[])] 67) := by
  go_enter Tryz.func35, Tryz.ntmps35
  go_wp2
  go_ret
  exact ⟨rfl, rfl⟩
def noProg : Value := .agg #[.slice none 0 0, .slice none 0 0, .int .i64 0, .slice none 0 0]
end Go.Proofs.YtkoakingmnjdoaaGreatDoor

/- What For of package plan answers. -/
namespace Go.Proofs.YtkoakingmnjdoaaGreatDoor
open Go.RowKit Gf
set_option linter.unusedVariables false
set_option maxRecDepth 20000
set_option linter.unusedSimpArgs false
/-- where check refuses -/
theorem for_stop (k r : Int) (ll lc wl wc : Nat) (la wa : Option Addr) (w : World) (s : Addr) (hC : ∀ u, Below w.heap.size w u → Calls Tryz.prog 34 #[.int .i64 k, .int .i64 r, .slice la ll lc, .slice wa wl wc] u fun e w' => e = .returned (errAt s) ∧ Below u.heap.size u w') :
    Calls Tryz.prog 11 #[.int .i64 k, .int .i64 r, .slice la ll lc, .slice wa wl wc] w fun e w' => e = .returned (.tuple #[noProg, errAt s]) ∧ Below w.heap.size w w' := by
  obtain ⟨R, hR⟩ : ∃ R, R = w.heap.size := ⟨_, rfl⟩
  obtain ⟨W0, hW0⟩ : ∃ W0, W0 = w.alloc (.cells #[.slice none 0 0, .slice none 0 0, .int .i64 0, .slice none 0 0] 30) := ⟨_, rfl⟩
  have hb0 : Below w.heap.size w W0 := by rw [hW0]; exact (Below.refl _ _).alloc (Nat.le_refl _) _
  have hr0 : W0.heap[R]? = some (.cells #[.slice none 0 0, .slice none 0 0, .int .i64 0, .slice none 0 0] 30 (0, 0)) := by rw [hW0, hR]; exact heap_alloc_last _ _
  have HC : Hid _ := hC W0 hb0
  have HB0 : Hid (Below w.heap.size w W0) := hb0
  have HR0 : Hid (W0.heap[R]? = some (.cells #[.slice none 0 0, .slice none 0 0, .int .i64 0, .slice none 0 0] 30 (0, 0))) := hr0
  have HWE : Hid (W0 = w.alloc (.cells #[.slice none 0 0, .slice none 0 0, .int .i64 0, .slice none 0 0] 30)) := hW0
  have HRE : Hid (R = w.heap.size) := hR
  clear hC hR hW0 hb0 hr0
  unfold errAt noProg at *
  go_enter Tryz.func11, Tryz.ntmps11
  go_upto_region 1 with fail
  rw [← HWE.out, ← HRE.out]
  go_wp2_with fail
  refine Calls.mono HC.out ?_
  rintro e Y ⟨rfl, hy⟩
  have hRY := heap_later HR0.out hy
  have hBY : Below w.heap.size w Y := HB0.out.trans (hy.mono HB0.out.size)
  obtain ⟨U, hU⟩ : ∃ U, U = (((Y.setCell ⟨R, 0, none⟩ (.slice none 0 0)).setCell ⟨R, 1, none⟩ (.slice none 0 0)).setCell ⟨R, 2, none⟩ (.int .i64 0)).setCell ⟨R, 3, none⟩ (.slice none 0 0) := ⟨_, rfl⟩
  have hRU : U.heap[R]? = some (.cells #[.slice none 0 0, .slice none 0 0, .int .i64 0, .slice none 0 0] 30 (0, 0)) := by
    rw [hU, heap_setCell_same _ _ _ _ _ _ (heap_setCell_same _ _ _ _ _ _ (heap_setCell_same _ _ _ _ _ _ (heap_setCell_same _ _ _ _ _ _ hRY)))]
    rfl
  have HBU : Hid (Below w.heap.size w U) := by
    have hr : w.heap.size ≤ R := by rw [HRE.out]; exact Nat.le_refl _
    show Below ..; rw [hU]
    exact (((hBY.setCell (p := ⟨R, 0, none⟩) hr _).setCell (p := ⟨R, 1, none⟩) hr _).setCell (p := ⟨R, 2, none⟩) hr _).setCell (p := ⟨R, 3, none⟩) hr _
  have HUE : Hid (U = (((Y.setCell ⟨R, 0, none⟩ (.slice none 0 0)).setCell ⟨R, 1, none⟩ (.slice none 0 0)).setCell ⟨R, 2, none⟩ (.int .i64 0)).setCell ⟨R, 3, none⟩ (.slice none 0 0)) := hU
  have zR := ltHeap hRY
  have r0 := cellAt hRY 0 _ rfl
  have r1 := cellAt hRY 1 _ rfl
  have r2 := cellAt hRY 2 _ rfl
  have r3 := cellAt hRY 3 _ rfl
  have e0 : Y.frozen? ⟨R, 0, none⟩ = false := frozen_of_row _ _ _ _ _ hRY
  have e1 : Y.frozen? ⟨R, 1, none⟩ = false := frozen_of_row _ _ _ _ _ hRY
  have e2 : Y.frozen? ⟨R, 2, none⟩ = false := frozen_of_row _ _ _ _ _ hRY
  have e3 : Y.frozen? ⟨R, 3, none⟩ = false := frozen_of_row _ _ _ _ _ hRY
  have q0 := cellAt hRU 0 _ rfl
  have q1 := cellAt hRU 1 _ rfl
  have q2 := cellAt hRU 2 _ rfl
  have q3 := cellAt hRU 3 _ rfl
  have zz := ltHeap hRU
  clear hy hRY hBY hU hRU
  go_wp2
  rw [← HUE.out]
  refine bodyPost_ret (v := .tuple #[.agg #[.slice none 0 0, .slice none 0 0, .int .i64 0, .slice none 0 0], .iface 191 (.pointer (some s))]) (by simp [results, Tryz.results11, go_sem, q0, q1, q2, q3, zz]) rfl ⟨rfl, HBU.out⟩
set_option maxRecDepth 100000 in
set_option maxHeartbeats 8000000 in
theorem for_ok (k r ll lc wl wc : Nat) (la wa : Option Addr) (lost W : List Nat) (w : World) (E : Nat → Addr) (hE : ErrsG w E) (h1 : 1 ≤ k) (h2 : 2 ≤ r) (h3 : k + r ≤ 16) (hl : ll = lost.length) (hcap : ll ≤ lc) (hX : RowI w la (natJ8 lost)) (hu : lost.Pairwise (· < ·)) (hr : ∀ x ∈ lost, x < 2 * (k + r)) (hwl : wl = W.length) (hwc : wl ≤ wc) (hwn : wa = none → wc = 0) (hW : RowI w wa (natJ8 W)) (hWu : W.Pairwise (· < ·)) (hWl : ∀ x ∈ W, x ∈ lost) (hg : goneB k (2 * (k + r)) (carN (groupN k r)) lost = false) :
    Calls Tryz.prog 11 #[.int .i64 k, .int .i64 r, .slice la ll lc, .slice wa wl wc] w fun e w' => ∃ v, e = .returned (.tuple #[v, .nilIface]) ∧ ProgAt w' w.heap.size k r lost W v ∧ Below w.heap.size w w' := by
  have hWr : ∀ x ∈ W, x < 2 * (k + r) := fun x hx => hr x (hWl x hx)
  have hw32 : wl ≤ 32 := by have := pair_len hWu hWr; omega
  have hwant : wantB (natJ8 lost) (natJ8 W) = true := wantB_yes ⟨by rw [natJ8, List.pairwise_map]; exact hWu.imp fun h => by omega, fun x hx => by
    obtain ⟨y, hy, rfl⟩ := List.mem_map.1 hx
    exact natJ8_mem.2 (hWl y hy)⟩
  have HCK : Hid (∀ u, Below w.heap.size w u → Calls Tryz.prog 34 #[.int .i64 k, .int .i64 r, .slice la ll lc, .slice wa wl wc] u fun e w' => e = .returned .nilIface ∧ Below u.heap.size u w') := fun u hub => by
    have := plcheck_ok k r ll lc wl wc la wa (natJ8 lost) (natJ8 W) u E (errsG_below hE hub).1 h1 h2 h3 (by rw [natJ8_len]; exact hl) hcap (rowI_below hX hub) (goodH_of hu hr) (by rw [natJ8_len]; exact hwl) (by omega) (rowI_below hW hub)
    rw [hwant] at this
    exact this
  have HCN : Hid (kindN k lost ≠ 1 → ∀ u, Below w.heap.size w u → Calls Tryz.prog 168 #[.agg #[], .agg #[.int .i64 k, .int .i64 r, .slice la ll lc]] u fun e w' => e = .returned (.tuple #[.slice none 0 0, .bool false, .nilIface]) ∧ Below u.heap.size u w') := fun hk u hub => cheap_no k r ll lc la lost u E (errsG_below hE hub) h1 h2 h3 hl hcap (rowI_below hX hub) hu hr hk
  have HPR : Hid (∀ (L : List Nat) (sa : Option Addr) (sc : Nat) (u : World), Below w.heap.size w u → RowI u sa (natJ8 L) → L.Pairwise (· < ·) → (∀ x ∈ L, x < 2 * (k + r)) → (∀ x ∈ L, x ∉ lost) → (∀ x ∈ W, NullsIn k (carN (groupN k r)) L x) → (kindN k lost = 1 → L.length ≤ k + groupN k r) → L = srcL k r lost → Calls Tryz.prog 36 #[.agg #[.int .i64 k, .int .i64 r, .slice la ll lc], .slice sa L.length sc, .slice wa wl wc] u fun e w' => ∃ v, e = .returned (.tuple #[v, .nilIface]) ∧ ProgAt w' u.heap.size k r lost W v ∧ Below u.heap.size u w') := fun L sa sc u hub q1 q2 q3 q4 q5 q6 q7 =>
    program_F k r ll lc L.length sc wl wc la sa wa lost L W u E (errsG_below hE hub) h1 h2 h3 rfl hwl hwc hwn q1 (rowI_below hW hub) q2 q3 q4 hWu hWr q5 q6 q7
  -- the cheap way
  have HCY : Hid (kindN k lost = 1 → ∃ L : List Nat, (L.Pairwise (· < ·) ∧ (∀ x ∈ L, x < 2 * (k + r)) ∧ (∀ x ∈ L, x ∉ lost) ∧ (∀ x ∈ W, NullsIn k (carN (groupN k r)) L x) ∧ L.length ≤ k + groupN k r ∧ L = srcL k r lost) ∧ ∀ u, Below w.heap.size w u → Calls Tryz.prog 168 #[.agg #[], .agg #[.int .i64 k, .int .i64 r, .slice la ll lc]] u fun e w' => ∃ v, e = .returned (.tuple #[v, .bool true, .nilIface]) ∧ ListOf w' u.heap.size v L ∧ Below u.heap.size u w') := fun hk => by
    obtain ⟨s, hs, hlost⟩ := kind_one hk
    subst hlost
    have hp := carN_ltP k (by omega) r (by omega) ⟨h1, h2, h3⟩ s hs
    have hp1 : 1 ≤ carN (groupN k r) s := Nat.succ_pos _
    have hG1 : (carL k (groupN k r) (carN (groupN k r) s)).Nodup := (pickB_sorted _ _).imp fun h => Nat.ne_of_lt h
    have hbm : ∀ x ∈ cheapB k s (carN (groupN k r) s) (carL k (groupN k r) (carN (groupN k r) s)), x < 2 * (k + r) := cheapB_lt hp h2
    have hpm := cheapL_perm (m := 2 * (k + r)) (k := k) (s := s) hp1 hG1 hbm
    refine ⟨cheapL (2 * (k + r)) k s (carN (groupN k r) s) (carL k (groupN k r) (carN (groupN k r) s)), ⟨cheapL_up _ _ _ _ _, fun x hx => (mem_cheapL.1 hx).1, fun x hx => ?_, fun x hx => ?_, ?_, ?_⟩, fun u hub => cheap_yes k r s ll lc la u E (errsG_below hE hub) h1 h2 h3 hs (by rw [hl]; rfl) hcap (rowI_below hX hub)⟩
    · have := cheapB_off (k := k) (s := s) hs hp1 x (mem_cheapL.1 hx).2
      simp; exact this
    · have hx2 := hWl x hx
      refine cheap_nulls (m := 0) hs (by omega) rfl (fun y => ⟨fun h => (mem_cheapL.1 h).2, fun h => mem_cheapL.2 ⟨hbm y h, h⟩⟩) ?_
      simpa using hx2
    · rw [hpm.length_eq, cheapB_len hs hG1 (carL_mem.2 ⟨hs, rfl⟩)]
      have := carL_leP k (by omega) r (by omega) ⟨h1, h2, h3⟩ (carN (groupN k r) s) hp
      omega
    · unfold srcL
      rw [if_pos hk, show [2 * s, 2 * s + 1].getD 0 0 / 2 = s by show 2 * s / 2 = s; omega]
  have HGL : Hid (∀ u, Below w.heap.size w u → Calls Tryz.prog 195 #[.agg #[], .agg #[.int .i64 k, .int .i64 r, .slice la ll lc]] u fun e w' => ∃ v, e = .returned (.tuple #[v, .bool true, .nilIface]) ∧ ListOf w' u.heap.size v (leftL (2 * (k + r)) lost) ∧ Below u.heap.size u w') := fun u hub => general_left k r ll lc la lost u E (errsG_below hE hub) h1 h2 h3 hl hcap (rowI_below hX hub) hu hr hg
  have HLN : Hid (∀ x ∈ W, NullsIn k (carN (groupN k r)) (leftL (2 * (k + r)) lost) x) := fun x hx => left_nulls hg x
  obtain ⟨R, hR⟩ : ∃ R, R = w.heap.size := ⟨_, rfl⟩
  obtain ⟨W0, hW0⟩ : ∃ W0, W0 = w.alloc (.cells #[.slice none 0 0, .slice none 0 0, .int .i64 0, .slice none 0 0] 30) := ⟨_, rfl⟩
  have hb0 : Below w.heap.size w W0 := by rw [hW0]; exact (Below.refl _ _).alloc (Nat.le_refl _) _
  have hr0 : W0.heap[R]? = some (.cells #[.slice none 0 0, .slice none 0 0, .int .i64 0, .slice none 0 0] 30 (0, 0)) := by rw [hW0, hR]; exact heap_alloc_last _ _
  have HB0 : Hid (Below w.heap.size w W0) := hb0
  have HR0 : Hid (W0.heap[R]? = some (.cells #[.slice none 0 0, .slice none 0 0, .int .i64 0, .slice none 0 0] 30 (0, 0))) := hr0
  have HWE : Hid (W0 = w.alloc (.cells #[.slice none 0 0, .slice none 0 0, .int .i64 0, .slice none 0 0] 30)) := hW0
  have HRE : Hid (R = w.heap.size) := hR
  have HC0 : Hid _ := HCK.out W0 hb0
  clear hE hl hcap hX hu hr hwl hwc hwn hW hWu hWl hWr hg hwant hR hW0 hb0 hr0
  unfold noProg at *
  go_enter Tryz.func11, Tryz.ntmps11
  go_upto_region 1 with fail
  rw [← HWE.out, ← HRE.out]
  go_wp2_with fail
  refine Calls.mono HC0.out ?_
  rintro e Y ⟨rfl, hy⟩
  have HRY : Hid _ := heap_later HR0.out hy
  have HBY : Hid (Below w.heap.size w Y) := HB0.out.trans (hy.mono HB0.out.size)
  obtain ⟨Y1, hY1⟩ : ∃ Y1, Y1 = Y.alloc (.cells #[.int .i64 k, .int .i64 r, .slice la ll lc] 63) := ⟨_, rfl⟩
  obtain ⟨Q, hQ⟩ : ∃ Q, Q = Y.heap.size := ⟨_, rfl⟩
  have hby1 : Below Y.heap.size Y Y1 := by rw [hY1]; exact (Below.refl _ _).alloc (Nat.le_refl _) _
  have HQ1 : Hid (Y1.heap[Q]? = some (.cells #[.int .i64 k, .int .i64 r, .slice la ll lc] 63 (0, 0))) := by show _ = _; rw [hY1, hQ]; exact heap_alloc_last _ _
  have HRY1 : Hid _ := heap_later HRY.out hby1
  have HBY1 : Hid (Below w.heap.size w Y1) := HBY.out.trans (hby1.mono HBY.out.size)
  have HY1E : Hid (Y1 = Y.alloc (.cells #[.int .i64 k, .int .i64 r, .slice la ll lc] 63)) := hY1
  have HQE : Hid (Q = Y.heap.size) := hQ
  clear hy hY1 hQ hby1 HC0 HB0 HR0 HWE HCK
  go_upto_region 5 with fail
  rw [← HY1E.out, ← HQE.out]
  clear HY1E HQE HRY HBY
  go_wp2_with fail
  refine Calls.mono (paths_F Y1) ?_
  rintro e Y2 ⟨rfl, hy2⟩
  obtain ⟨G, hG⟩ : ∃ G, G = Y1.heap.size := ⟨_, rfl⟩
  have hby2 : Below Y1.heap.size Y1 Y2 := by rw [hy2]; exact (Below.refl _ _).alloc (Nat.le_refl _) _
  have HG2 : Hid (Y2.heap[G]? = some (.cells #[.iface 97 (.agg #[]), .iface 98 (.agg #[])] 67 (0, 0))) := by show _ = _; rw [hy2, hG]; exact heap_alloc_last _ _
  have HQ2 : Hid _ := heap_later HQ1.out hby2
  have HRY2 : Hid _ := heap_later HRY1.out hby2
  have HBY2 : Hid (Below w.heap.size w Y2) := HBY1.out.trans (hby2.mono HBY1.out.size)
  rw [← hG]
  clear hy2 hG hby2 HQ1 HRY1 HBY1
  go_wp2
  go_loopw [32] (fun t wr => ((t = .int .i64 (0 : Int)) ∨ (t = .int .i64 (1 : Int) ∧ kindN k lost ≠ 1)) ∧ Below Y2.heap.size Y2 wr) (fun t _ => 2 - (intOf t).toNat)
  case atStart => exact ⟨.inl rfl, Below.refl _ _⟩
  case round =>
    obtain ⟨hcase, hb⟩ := hrel
    have HB : Hid (Below Y2.heap.size Y2 wr) := hb
    generalize wr = Z at *
    have HBZ : Hid (Below w.heap.size w Z) := HBY2.out.trans (HB.out.mono HBY2.out.size)
    have hgz := heap_later HG2.out HB.out
    have hqz := heap_later HQ2.out HB.out
    have k0 := cellAt hqz 0 _ rfl
    have k1 := cellAt hqz 1 _ rfl
    have k2 := cellAt hqz 2 _ rfl
    have zq := ltHeap hqz
    have HQZ : Hid _ := hqz
    have HRZ : Hid _ := heap_later HRY2.out HB.out
    clear hb hqz
    rcases hcase with rfl | ⟨rfl, hk1⟩
    · have g0 := cellAt hgz 0 _ rfl
      clear hgz
      by_cases hk : kindN k lost = 1
      · obtain ⟨L, ⟨l1, l2, l3, l4, l5, l6⟩, HCA⟩ := HCY.out hk
        have HCA' : Hid _ := HCA Z HBZ.out
        have HL1 : Hid (L.Pairwise (· < ·)) := l1
        have HL2 : Hid (∀ x ∈ L, x < 2 * (k + r)) := l2
        have HL3 : Hid (∀ x ∈ L, x ∉ lost) := l3
        have HL4 : Hid (∀ x ∈ W, NullsIn k (carN (groupN k r)) L x) := l4
        have HL5 : Hid (L.length ≤ k + groupN k r) := l5
        have HL6 : Hid (L = srcL k r lost) := l6
        clear HCA l1 l2 l3 l4 l5 l6 hk
        go_wp2_with (fail)
        refine Calls.mono HCA'.out ?_
        rintro e Z1 ⟨v, rfl, ⟨sa, sc, rfl, _, _, _, hrow, _⟩, hz1⟩
        have HZ1 : Hid (Below Z.heap.size Z Z1) := hz1
        have HBZ1 : Hid (Below w.heap.size w Z1) := HBZ.out.trans (hz1.mono HBZ.out.size)
        have HROW : Hid (RowI Z1 sa (natJ8 L)) := hrow
        have hq1 := heap_later HQZ.out hz1
        clear k0 k1 k2 zq g0 hrow hz1
        have k0 := cellAt hq1 0 _ rfl
        have k1 := cellAt hq1 1 _ rfl
        have k2 := cellAt hq1 2 _ rfl
        have zq := ltHeap hq1
        clear hq1
        clear HCA'
        go_wp2_with (fail)
        refine Calls.mono (HPR.out L sa sc Z1 HBZ1.out HROW.out HL1.out HL2.out HL3.out HL4.out (fun _ => HL5.out) HL6.out) ?_
        rintro e Y9 ⟨v9, rfl, ⟨ia, ic, oa, oc, ta, tc, tl, I, ss, rfl, hpw, hup, hmd⟩, hy9⟩
        have hRY := heap_later (heap_later HRZ.out HZ1.out) hy9
        have hBY : Below w.heap.size w Y9 := (HBZ1.out).trans (hy9.mono (HBZ1.out).size)
        have hRZ1 : R < Z1.heap.size := ltHeap (heap_later HRZ.out HZ1.out)
        have hmono : w.heap.size ≤ Z1.heap.size := (HBZ1.out).size
        obtain ⟨il, hil⟩ : ∃ il, il = I.length := ⟨_, rfl⟩
        obtain ⟨wn, hwn⟩ : ∃ wn, wn = W.length := ⟨_, rfl⟩
        obtain ⟨rg, hrg⟩ : ∃ rg : Nat, rg = wn + 1 := ⟨_, rfl⟩
        rw [← hil, ← hwn] at hpw
        rw [← hil, ← hwn, ← hrg]
        obtain ⟨U, hU⟩ : ∃ U, U = (((Y9.setCell ⟨R, 0, none⟩ (.slice ia il ic)).setCell ⟨R, 1, none⟩ (.slice oa wn oc)).setCell ⟨R, 2, none⟩ (.int .i64 rg)).setCell ⟨R, 3, none⟩ (.slice ta tl tc) := ⟨_, rfl⟩
        have hgU : Y9.grownBy U (some R) := by rw [hU]; exact grownBy_setCell (grownBy_setCell (grownBy_setCell (grownBy_setCell (World.grownBy.refl _ _) _) _) _) _
        have HPU : Hid (PrgW U ia oa ta il ic wn oc tl tc (natJ8 I) (natJ8 W) ss) := hpw.grownO hgU hup hRZ1
        have HUP : Hid (PrgUp w.heap.size ia oa ta) := hup.mono hmono
        have HMD : Hid (MadeP k r lost W I ss) := hmd
        have hRU : U.heap[R]? = some (.cells #[.slice ia il ic, .slice oa wn oc, .int .i64 rg, .slice ta tl tc] 30 (0, 0)) := by
          rw [hU, heap_setCell_same _ _ _ _ _ _ (heap_setCell_same _ _ _ _ _ _ (heap_setCell_same _ _ _ _ _ _ (heap_setCell_same _ _ _ _ _ _ hRY)))]
          rfl
        have HBU : Hid (Below w.heap.size w U) := by
          have hr : w.heap.size ≤ R := by rw [HRE.out]; exact Nat.le_refl _
          show Below ..; rw [hU]
          exact (((hBY.setCell (p := ⟨R, 0, none⟩) hr _).setCell (p := ⟨R, 1, none⟩) hr _).setCell (p := ⟨R, 2, none⟩) hr _).setCell (p := ⟨R, 3, none⟩) hr _
        have HUE : Hid (U = (((Y9.setCell ⟨R, 0, none⟩ (.slice ia il ic)).setCell ⟨R, 1, none⟩ (.slice oa wn oc)).setCell ⟨R, 2, none⟩ (.int .i64 rg)).setCell ⟨R, 3, none⟩ (.slice ta tl tc)) := hU
        have HILE : Hid (il = I.length ∧ wn = W.length ∧ rg = W.length + 1) := ⟨hil, hwn, by rw [hrg, hwn]⟩
        have zR := ltHeap hRY
        have r0 := cellAt hRY 0 _ rfl
        have r1 := cellAt hRY 1 _ rfl
        have r2 := cellAt hRY 2 _ rfl
        have r3 := cellAt hRY 3 _ rfl
        have e0 : Y9.frozen? ⟨R, 0, none⟩ = false := frozen_of_row _ _ _ _ _ hRY
        have e1 : Y9.frozen? ⟨R, 1, none⟩ = false := frozen_of_row _ _ _ _ _ hRY
        have e2 : Y9.frozen? ⟨R, 2, none⟩ = false := frozen_of_row _ _ _ _ _ hRY
        have e3 : Y9.frozen? ⟨R, 3, none⟩ = false := frozen_of_row _ _ _ _ _ hRY
        have q0 := cellAt hRU 0 _ rfl
        have q1 := cellAt hRU 1 _ rfl
        have q2 := cellAt hRU 2 _ rfl
        have q3 := cellAt hRU 3 _ rfl
        have zz := ltHeap hRU
        clear hpw hup hmd hy9 hRY hBY hRZ1 hmono hil hwn hrg hU hgU hRU
        go_wp2
        rw [← HUE.out]
        refine bodyPost_ret (v := .tuple #[.agg #[.slice ia il ic, .slice oa wn oc, .int .i64 rg, .slice ta tl tc], .nilIface]) (by simp [results, Tryz.results11, go_sem, q0, q1, q2, q3, zz]) rfl ⟨_, rfl, ⟨ia, ic, oa, oc, ta, tc, tl, I, ss, ?_, ?_, HUP.out, HMD.out⟩, HBU.out⟩
        · rw [HILE.out.1, HILE.out.2.1, HILE.out.2.2]
        · rw [← HILE.out.1, ← HILE.out.2.1]; exact HPU.out
      · have HCA' : Hid _ := HCN.out hk Z HBZ.out
        have HK : Hid (kindN k lost ≠ 1) := hk
        clear hk
        go_wp2_with (fail)
        refine Calls.mono HCA'.out ?_
        rintro e Z1 ⟨rfl, hz1⟩
        have HZ1 : Hid (Below Y2.heap.size Y2 Z1) := HB.out.trans (hz1.mono HB.out.size)
        clear hz1 k0 k1 k2 zq g0
        go_wp2
        exact ⟨⟨.inr ⟨rfl, HK.out⟩, HZ1.out⟩, by simp [intOf]⟩
    · have g0 := cellAt hgz 1 _ rfl
      clear hgz
      have HK : Hid (kindN k lost ≠ 1) := hk1
      have HCA' : Hid _ := HGL.out Z HBZ.out
      have HLN2 : Hid (∀ x ∈ W, NullsIn k (carN (groupN k r)) (leftL (2 * (k + r)) lost) x) := HLN.out
      have HL1 : Hid ((leftL (2 * (k + r)) lost).Pairwise (· < ·)) := leftL_up _ _
      have HL2 : Hid (∀ x ∈ leftL (2 * (k + r)) lost, x < 2 * (k + r)) := fun x hx => (mem_leftL.1 hx).1
      have HL3 : Hid (∀ x ∈ leftL (2 * (k + r)) lost, x ∉ lost) := fun x hx => (mem_leftL.1 hx).2
      have HL6 : Hid (leftL (2 * (k + r)) lost = srcL k r lost) := by show _ = _; unfold srcL; rw [if_neg hk1]
      clear hk1
      generalize leftL (2 * (k + r)) lost = L at *
      go_wp2_with (fail)
      refine Calls.mono HCA'.out ?_
      rintro e Z1 ⟨v, rfl, ⟨sa, sc, rfl, _, _, _, hrow, _⟩, hz1⟩
      have HZ1 : Hid (Below Z.heap.size Z Z1) := hz1
      have HBZ1 : Hid (Below w.heap.size w Z1) := HBZ.out.trans (hz1.mono HBZ.out.size)
      have HROW : Hid (RowI Z1 sa (natJ8 L)) := hrow
      have hq1 := heap_later HQZ.out hz1
      clear k0 k1 k2 zq g0 hrow hz1
      have k0 := cellAt hq1 0 _ rfl
      have k1 := cellAt hq1 1 _ rfl
      have k2 := cellAt hq1 2 _ rfl
      have zq := ltHeap hq1
      clear hq1
      clear HCA'
      go_wp2_with (fail)
      refine Calls.mono (HPR.out L sa sc Z1 HBZ1.out HROW.out HL1.out HL2.out HL3.out HLN2.out (fun h => absurd h HK.out) HL6.out) ?_
      rintro e Y9 ⟨v9, rfl, ⟨ia, ic, oa, oc, ta, tc, tl, I, ss, rfl, hpw, hup, hmd⟩, hy9⟩
      have hRY := heap_later (heap_later HRZ.out HZ1.out) hy9
      have hBY : Below w.heap.size w Y9 := (HBZ1.out).trans (hy9.mono (HBZ1.out).size)
      have hRZ1 : R < Z1.heap.size := ltHeap (heap_later HRZ.out HZ1.out)
      have hmono : w.heap.size ≤ Z1.heap.size := (HBZ1.out).size
      obtain ⟨il, hil⟩ : ∃ il, il = I.length := ⟨_, rfl⟩
      obtain ⟨wn, hwn⟩ : ∃ wn, wn = W.length := ⟨_, rfl⟩
      obtain ⟨rg, hrg⟩ : ∃ rg : Nat, rg = wn + 1 := ⟨_, rfl⟩
      rw [← hil, ← hwn] at hpw
      rw [← hil, ← hwn, ← hrg]
      obtain ⟨U, hU⟩ : ∃ U, U = (((Y9.setCell ⟨R, 0, none⟩ (.slice ia il ic)).setCell ⟨R, 1, none⟩ (.slice oa wn oc)).setCell ⟨R, 2, none⟩ (.int .i64 rg)).setCell ⟨R, 3, none⟩ (.slice ta tl tc) := ⟨_, rfl⟩
      have hgU : Y9.grownBy U (some R) := by rw [hU]; exact grownBy_setCell (grownBy_setCell (grownBy_setCell (grownBy_setCell (World.grownBy.refl _ _) _) _) _) _
      have HPU : Hid (PrgW U ia oa ta il ic wn oc tl tc (natJ8 I) (natJ8 W) ss) := hpw.grownO hgU hup hRZ1
      have HUP : Hid (PrgUp w.heap.size ia oa ta) := hup.mono hmono
      have HMD : Hid (MadeP k r lost W I ss) := hmd
      have hRU : U.heap[R]? = some (.cells #[.slice ia il ic, .slice oa wn oc, .int .i64 rg, .slice ta tl tc] 30 (0, 0)) := by
        rw [hU, heap_setCell_same _ _ _ _ _ _ (heap_setCell_same _ _ _ _ _ _ (heap_setCell_same _ _ _ _ _ _ (heap_setCell_same _ _ _ _ _ _ hRY)))]
        rfl
      have HBU : Hid (Below w.heap.size w U) := by
        have hr : w.heap.size ≤ R := by rw [HRE.out]; exact Nat.le_refl _
        show Below ..; rw [hU]
        exact (((hBY.setCell (p := ⟨R, 0, none⟩) hr _).setCell (p := ⟨R, 1, none⟩) hr _).setCell (p := ⟨R, 2, none⟩) hr _).setCell (p := ⟨R, 3, none⟩) hr _
      have HUE : Hid (U = (((Y9.setCell ⟨R, 0, none⟩ (.slice ia il ic)).setCell ⟨R, 1, none⟩ (.slice oa wn oc)).setCell ⟨R, 2, none⟩ (.int .i64 rg)).setCell ⟨R, 3, none⟩ (.slice ta tl tc)) := hU
      have HILE : Hid (il = I.length ∧ wn = W.length ∧ rg = W.length + 1) := ⟨hil, hwn, by rw [hrg, hwn]⟩
      have zR := ltHeap hRY
      have r0 := cellAt hRY 0 _ rfl
      have r1 := cellAt hRY 1 _ rfl
      have r2 := cellAt hRY 2 _ rfl
      have r3 := cellAt hRY 3 _ rfl
      have e0 : Y9.frozen? ⟨R, 0, none⟩ = false := frozen_of_row _ _ _ _ _ hRY
      have e1 : Y9.frozen? ⟨R, 1, none⟩ = false := frozen_of_row _ _ _ _ _ hRY
      have e2 : Y9.frozen? ⟨R, 2, none⟩ = false := frozen_of_row _ _ _ _ _ hRY
      have e3 : Y9.frozen? ⟨R, 3, none⟩ = false := frozen_of_row _ _ _ _ _ hRY
      have q0 := cellAt hRU 0 _ rfl
      have q1 := cellAt hRU 1 _ rfl
      have q2 := cellAt hRU 2 _ rfl
      have q3 := cellAt hRU 3 _ rfl
      have zz := ltHeap hRU
      clear hpw hup hmd hy9 hRY hBY hRZ1 hmono hil hwn hrg hU hgU hRU
      go_wp2
      rw [← HUE.out]
      refine bodyPost_ret (v := .tuple #[.agg #[.slice ia il ic, .slice oa wn oc, .int .i64 rg, .slice ta tl tc], .nilIface]) (by simp [results, Tryz.results11, go_sem, q0, q1, q2, q3, zz]) rfl ⟨_, rfl, ⟨ia, ic, oa, oc, ta, tc, tl, I, ss, ?_, ?_, HUP.out, HMD.out⟩, HBU.out⟩
      · rw [HILE.out.1, HILE.out.2.1, HILE.out.2.2]
      · rw [← HILE.out.1, ← HILE.out.2.1]; exact HPU.out
end Go.Proofs.YtkoakingmnjdoaaGreatDoor
