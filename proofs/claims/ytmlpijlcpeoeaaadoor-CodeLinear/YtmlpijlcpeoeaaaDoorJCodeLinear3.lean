/- What Inverse of package solve answers, of all matrices. -/
import Derived.Test.YtmlpijlcpeoeaaaDoorBaseW
import Derived.Test.YtmlpijlcpeoeaaaDoorBaseL
import Derived.Test.YtmlpijlcpeoeaaaDoorMatOf
import Derived.Test.YtmlpijlcpeoeaaaDoorMatP
import Derived.Test.YtmlpijlcpeoeaaaDoorMatStk
import Derived.Test.YtmlpijlcpeoeaaaDoorMatAl
import Derived.Test.YtmlpijlcpeoeaaaDoorHolds
import Derived.Test.YtmlpijlcpeoeaaaDoorHalfR
import Derived.Test.YtmlpijlcpeoeaaaDoorMatRow
import Derived.Test.YtmlpijlcpeoeaaaDoorSolveP
import Derived.WalkMore
import Derived.Test.YtmlpijlcpeoeaaaDoorSolveC
import Derived.Test.YtmlpijlcpeoeaaaDoorMatT
import Derived.BigRegion
/- What Parity of package base answers, of all legal numbers; nothing that was there turns. -/
namespace Go.Proofs.YtmlpijlcpeoeaaaDoor
open Go.RowKit Gf
set_option linter.unusedVariables false
set_option maxRecDepth 20000
theorem elN_val {k : Nat} (h : k < 256) : ((elN k).toNat : Int) = (k : Int) := el_val h
theorem cyN_inv (w : World) {s j : Nat} (hs : s < 256) (hj : j < 256) (hne : s ≠ j) :
    Calls Tryd.prog 93 #[.int .u8 ((ga (elN s) (elN j)).toNat : Int)] w fun e w' => e = .returned (.tuple #[.int .u8 ((cyN s j).toNat : Int), .bool true]) ∧ w = w' := by
  have h0 : ga (elN s) (elN j) ≠ 0 := ga_ne fun e => hne (elN_inj hs hj e)
  have := inv_F (ga (elN s) (elN j)) w
  rw [if_neg h0, decide_eq_true h0] at this
  exact this
theorem xor_el {s j : Nat} (hs : s < 256) (hj : j < 256) : bits .xor .u8 (s : Int) (j : Int) = ((ga (elN s) (elN j)).toNat : Int) := by
  rw [← elN_val hs, ← elN_val hj, xor_val]
set_option maxHeartbeats 1000000 in
theorem factors_F (k s : Nat) (w : World) (hk : k ≤ s) (hs : s < 32) :
    Calls Tryd.prog 86 #[.int .i64 k, .int .i64 s] w fun e w' => ∃ g, e = .returned (.slice (some ⟨g, 0, none⟩) k k) ∧ w.heap.size ≤ g ∧
      w'.heap[g]? = some (.cells (vfs (rowF k (cyN s))) 5 (0, 0)) ∧ Below w.heap.size w w' := by
  have hmk := run_make8 k (by omega)
  go_enter Tryd.func86, Tryd.ntmps86
  go_wp2
  have B1 : Hid _ := heap_alloc_last w (.cells (vfs (zeros k)) 5)
  have B3 : Hid _ := (Below.refl w.heap.size w).alloc (Nat.le_refl _) (.cells (vfs (zeros k)) 5)
  clear hmk
  generalize (w.alloc (.cells (vfs (zeros k)) 5)) = W3 at *
  go_loopw [11] (fun i wr => ∃ j : Nat, j ≤ k ∧ i = .int .i64 j ∧ W3.grownBy wr (some w.heap.size) ∧ wr.heap[w.heap.size]? = some (.cells (vfs (colP k (cyN s) j)) 5 (0, 0))) (fun i _ => k - (intOf i).toNat)
  case atStart => exact ⟨0, by omega, rfl, World.grownBy.refl _ _, by rw [← colP_zero]; exact B1.out⟩
  case round =>
    obtain ⟨j, hj, rfl, hgb, hh⟩ := hrel
    by_cases hlt : j < k
    · have hj2 : (j : Int) < 256 := by omega
      have hs2 : (s : Int) < 256 := by omega
      have hx := xor_el (s := s) (j := j) (by omega) (by omega)
      have c4 := cellAt hh j _ (vfs_get _ _ (by rw [colP_len]; exact hlt))
      have c5 : wr.frozen? ⟨w.heap.size, j, none⟩ = false := frozen_of_row _ _ _ _ _ hh
      have HG : Hid _ := hh
      have HGB : Hid _ := hgb
      clear hh hgb
      go_wp2_with fail
      refine Calls.mono (cyN_inv _ (by omega) (by omega) (by omega)) ?_
      rintro e w' ⟨rfl, rfl⟩
      go_wp2
      refine ⟨⟨j + 1, by omega, by go_num, grownBy_setCell HGB.out _, ?_⟩, by simp [intOf]; omega⟩
      rw [heap_setCell_same _ _ _ _ _ _ HG.out, vfs_set, colP_step]
    · have e : j = k := by omega
      subst e
      rw [colP_done] at hh
      have HG : Hid _ := hh
      have HGB : Hid _ := hgb
      clear hh hgb
      go_wp2
      go_ret
      exact ⟨w.heap.size, rfl, by omega, HG.out, below_grown B3.out HGB.out (by omega)⟩
/-- the matrix of the parities -/
def parM (k r : Nat) : List F := grid k (fun i j => cyN (k + i) j) r
theorem parM_len (k r : Nat) : (parM k r).length = r * k := grid_len _ _ _
set_option maxHeartbeats 2000000 in
theorem parity_F (k r : Nat) (w : World) (h1 : 1 ≤ k) (h2 : 2 ≤ r) (h3 : k + r ≤ 16) :
    Calls Tryd.prog 71 #[.int .i64 k, .int .i64 r] w fun e w' => ∃ g m, e = .returned (.tuple #[.agg #[.int .i64 r, .int .i64 k, .slice (some ⟨g, 0, none⟩) m m], .nilIface]) ∧ m = r * k ∧ w.heap.size ≤ g ∧
      w'.heap[g]? = some (.cells (vfs (parM k r)) 5 (0, 0)) ∧ Below w.heap.size w w' := by
  have hmk := run_makeS r (by omega)
  go_enter Tryd.func71, Tryd.ntmps71
  go_wp2_with fail
  refine (bcheck_ok _ _ _ h1 h2 h3).mono ?_
  rintro e w' ⟨rfl, rfl⟩
  go_wp2
  have B0 : Hid _ := heap_alloc2_old w (.cells #[.int .i64 0, .int .i64 0, .slice none 0 0] 65) (.cells (slV 0 [] r) 22)
  have B1 : Hid _ := heap_alloc2_new w (.cells #[.int .i64 0, .int .i64 0, .slice none 0 0] 65) (.cells (slV 0 [] r) 22)
  have B3 : Hid _ := ((Below.refl w.heap.size w).alloc (Nat.le_refl _) (.cells #[.int .i64 0, .int .i64 0, .slice none 0 0] 65)).alloc (by simp) (.cells (slV 0 [] r) 22)
  clear hmk
  generalize hW : ((w.alloc (.cells #[.int .i64 0, .int .i64 0, .slice none 0 0] 65)).alloc (.cells (slV 0 [] r) 22)) = W3 at *
  clear hW
  go_loopw [20] (fun i wr => ∃ j : Nat, ∃ gs : List Nat, j ≤ r ∧ i = .int .i64 j ∧ gs.length = j ∧ W3.grownBy wr (some (w.heap.size + 1)) ∧ wr.heap[w.heap.size + 1]? = some (.cells (slV k gs r) 22 (0, 0)) ∧
    ∀ i g, gs[i]? = some g → g ≠ w.heap.size + 1 ∧ wr.heap[g]? = some (.cells (vfs (rowF k (cyN (k + i)))) 5 (0, 0))) (fun i _ => r - (intOf i).toNat)
  case atStart => exact ⟨0, [], by omega, rfl, rfl, World.grownBy.refl _ _, B1.out, fun j g h => by simp at h⟩
  case round =>
    obtain ⟨j, gs, hj, rfl, hgs, hgb, hs, hrows⟩ := hrel
    have HS : Hid _ := hs
    have HG : Hid _ := hgs
    have HR : Hid _ := hrows
    have HGB : Hid _ := hgb
    clear hs hgs hrows hgb
    by_cases hlt : j < r
    · go_wp2_with fail
      have e0 : (k : Int) + j = ((k + j : Nat) : Int) := by omega
      rw [e0]
      clear e0
      refine Calls.mono (factors_F k (k + j) _ (by omega) (by omega)) ?_
      rintro e w5 ⟨g5, rfl, hg5, hh5, hb5⟩
      have hs5 := heap_later HS.out hb5
      have hg5M : g5 ≠ w.heap.size + 1 := by
        have h1 := ltHeap HS.out
        omega
      have c7 : w5.cell? ⟨w.heap.size + 1, j, none⟩ = some (.slice none 0 0) := cellAt hs5 j _ (by have e := slV_next (c := k) (gs := gs) (r := r) (by rw [HG.out]; exact hlt); rwa [HG.out] at e)
      have c8 : w5.frozen? ⟨w.heap.size + 1, j, none⟩ = false := frozen_of_row _ _ _ _ _ hs5
      have HT : Hid ((w5.setCell ⟨w.heap.size + 1, j, none⟩ (.slice (some ⟨g5, 0, none⟩) k k)).heap[w.heap.size + 1]? = some (.cells (slV k (gs ++ [g5]) r) 22 (0, 0))) := by
        show _ = _
        have hgs := HG.out
        rw [heap_setCell_same _ _ _ _ _ _ hs5, ← hgs, slV_set g5 (by omega)]
      have HROW : Hid (∀ i g, (gs ++ [g5])[i]? = some g → g ≠ w.heap.size + 1 ∧ (w5.setCell ⟨w.heap.size + 1, j, none⟩ (.slice (some ⟨g5, 0, none⟩) k k)).heap[g]? = some (.cells (vfs (rowF k (cyN (k + i)))) 5 (0, 0))) := by
        intro i g hi
        have hgs := HG.out
        by_cases hjk : i < gs.length
        · rw [List.getElem?_append_left hjk] at hi
          obtain ⟨h1, h2⟩ := HR.out i g hi
          exact ⟨h1, (heap_setCell_other _ _ _ _ h1).trans (heap_later h2 hb5)⟩
        · have hj2 := (List.getElem?_eq_some_iff.1 hi).1
          simp only [List.length_append, List.length_singleton] at hj2
          obtain rfl : i = j := by omega
          rw [List.getElem?_append_right (by omega), show i - gs.length = 0 from by omega] at hi
          obtain rfl : g5 = g := by simpa using hi
          exact ⟨hg5M, (heap_setCell_other _ _ _ _ hg5M).trans hh5⟩
      have HGB5 : Hid (W3.grownBy (w5.setCell ⟨w.heap.size + 1, j, none⟩ (.slice (some ⟨g5, 0, none⟩) k k)) (some (w.heap.size + 1))) := grownBy_setCell (grown_below HGB.out hb5) _
      clear hs5 hb5 hh5
      go_wp2
      exact ⟨⟨j + 1, gs ++ [g5], by omega, by go_num, by simp [HG.out], HGB5.out, HT.out, HROW.out⟩, by simp [intOf]; omega⟩
    · obtain rfl : j = r := by omega
      go_wp2_with fail
      refine Calls.mono (of_F k j j _ ((List.range j).map fun i => rowF k (cyN (k + i))) _ (by omega) (by simp) (by omega) (fun x hx => ?_) (.inr ⟨w.heap.size + 1, 0, rfl, fun i x hx => ?_⟩)) ?_
      · obtain ⟨i, _, rfl⟩ := List.mem_map.1 hx
        exact rowF_len _ _
      · simp only [List.getElem?_map, Option.map_eq_some_iff] at hx
        obtain ⟨l, hi, rfl⟩ := hx
        obtain ⟨hjk, hi2⟩ := List.getElem?_eq_some_iff.1 hi
        simp only [List.length_range] at hjk
        simp only [List.getElem_range] at hi2
        subst hi2
        have hjg : i < gs.length := by rw [HG.out]; exact hjk
        have hgj : gs[i]? = some gs[i] := List.getElem?_eq_getElem hjg
        refine ⟨some ⟨gs[i], 0, none⟩, k, ?_, row8_own (HR.out i _ hgj).2⟩
        rw [Nat.zero_add, rowF_len]
        exact cellAt HS.out i _ (slV_at hjg)
      rintro e w5 ⟨g, m, rfl, hm, hg, hh, hb5⟩
      have k2 := heap_later (grown_block HGB.out B0.out (by omega)) hb5
      have c4 := cellAt k2 0 _ rfl
      have c5 := cellAt k2 1 _ rfl
      have c6 := cellAt k2 2 _ rfl
      have d4 : w5.frozen? ⟨w.heap.size, 0, none⟩ = false := frozen_of_row _ _ _ _ _ k2
      have d5 : w5.frozen? ⟨w.heap.size, 1, none⟩ = false := frozen_of_row _ _ _ _ _ k2
      have d6 : w5.frozen? ⟨w.heap.size, 2, none⟩ = false := frozen_of_row _ _ _ _ _ k2
      have HM : Hid _ := hm
      have HH : Hid _ := hh
      have HBW : Hid (Below w.heap.size w w5) := (below_grown B3.out HGB.out (by omega)).trans (hb5.mono (below_grown B3.out HGB.out (by omega)).size)
      have hgw : w.heap.size + 1 < g := by
        have := ltHeap HS.out
        omega
      clear hm hh hb5 k2
      go_wp2
      refine bodyPost_ret (v := .tuple #[.agg #[.int .i64 j, .int .i64 k, .slice (some ⟨g, 0, none⟩) m m], .nilIface]) (by simp [results, Tryd.results71, go_sem, c4, c5, c6]) rfl ⟨g, m, rfl, HM.out, by omega, ?_, ?_⟩
      · rw [heap_setCell_other _ _ _ _ (by show g ≠ w.heap.size; omega), heap_setCell_other _ _ _ _ (by show g ≠ w.heap.size; omega), heap_setCell_other _ _ _ _ (by show g ≠ w.heap.size; omega), parM, grid_flat]
        exact HH.out
      · exact ((HBW.out.setCell (by simp) _).setCell (by simp) _).setCell (by simp) _
end Go.Proofs.YtmlpijlcpeoeaaaDoor

/- What Parity and Generator of package base answer, of all numbers; nothing that was there turns. -/
namespace Go.Proofs.YtmlpijlcpeoeaaaDoor
open Go.RowKit Gf
set_option linter.unusedVariables false
set_option maxRecDepth 20000
set_option maxHeartbeats 1000000 in
theorem parity_bad (k r : Int) (w : World) (s : Addr) (hs : w.cell? ⟨0, 0, none⟩ = some (errAt s)) (hk0 : -9223372036854775808 ≤ k) (hk1 : k ≤ 9223372036854775807) (hr0 : -9223372036854775808 ≤ r) (hr1 : r ≤ 9223372036854775807) (h : ¬ LegalP k r) :
    Calls Tryd.prog 71 #[.int .i64 k, .int .i64 r] w fun e w' => e = .returned (.tuple #[.agg #[.int .i64 0, .int .i64 0, .slice none 0 0], errAt s]) ∧ Below w.heap.size w w' := by
  have HS : Hid _ := cell?_alloc_old (.cells #[.int .i64 0, .int .i64 0, .slice none 0 0] 65) hs
  have H : Hid _ := h
  clear h hs
  unfold errAt at *
  go_enter Tryd.func71, Tryd.ntmps71
  go_wp2_with fail
  refine (bcheck_bad k r _ s HS.out hk0 hk1 hr0 hr1 H.out).mono ?_
  unfold errAt
  rintro e w' ⟨rfl, rfl⟩
  go_wp2
  refine bodyPost_ret (v := .tuple #[.agg #[.int .i64 0, .int .i64 0, .slice none 0 0], .iface 140 (.pointer (some s))]) (by simp [results, Tryd.results71, go_sem]) rfl ⟨rfl, ?_⟩
  exact (Below.refl w.heap.size w).alloc (Nat.le_refl _) _
theorem grid_add (c : Nat) (f : Nat → Nat → F) (n : Nat) : ∀ m, grid c f (n + m) = grid c f n ++ grid c (fun i => f (n + i)) m
  | 0 => by simp [grid]
  | m + 1 => by rw [← Nat.add_assoc]; simp only [grid]; rw [grid_add c f n m, List.append_assoc]
/-- the generator -/
def genM (k r : Nat) : List F := grid k (genF k) (k + r)
theorem genM_len (k r : Nat) : (genM k r).length = (k + r) * k := grid_len _ _ _
theorem genM_eq (k r : Nat) : genM k r = oneM k ++ parM k r := by
  rw [genM, grid_add, oneM, parM]
  congr 1
  · exact grid_congr fun i j hi hj => by simp [genF, hi]
  · exact grid_congr fun i j hi hj => by simp only [genF]; rw [if_neg (by omega)]
theorem rows_flat {r c : Nat} {xs : List F} (h : xs.length = r * c) : ((List.range r).map (rowAt c xs)).flatten = xs := by
  have e := grid_of (xs := xs) h
  have := grid_flat c (fun i j => at8 xs (i * c + j)) r
  rw [← e] at this
  rw [this]
  congr 1
  refine List.map_congr_left fun i hi => ?_
  rw [← this]
  exact rowAt_rowF h (List.mem_range.1 hi)
set_option maxHeartbeats 2000000 in
theorem generator_F (k r : Nat) (w : World) (s : Addr) (hs : w.cell? ⟨2, 0, none⟩ = some (errAt s)) (h1 : 1 ≤ k) (h2 : 2 ≤ r) (h3 : k + r ≤ 16) :
    Calls Tryd.prog 49 #[.int .i64 k, .int .i64 r] w fun e w' => ∃ g m, e = .returned (.tuple #[.agg #[.int .i64 (k + r : Nat), .int .i64 k, .slice (some ⟨g, 0, none⟩) m m], .nilIface]) ∧ m = (k + r) * k ∧ w.heap.size ≤ g ∧
      w'.heap[g]? = some (.cells (vfs (genM k r)) 5 (0, 0)) ∧ Below w.heap.size w w' := by
  have HS : Hid _ := hs
  clear hs
  have hA := holds_new (holds_nil w) #[.int .i64 0, .int .i64 0, .slice none 0 0] 65
  have HA : Hid _ := hA
  clear hA
  go_enter Tryd.func49, Tryd.ntmps49
  go_wp2_with fail
  refine Calls.mono (parity_F k r _ h1 h2 h3) ?_
  rintro e w1 ⟨g1, m1, rfl, hm1, hg1, hh1, hb1⟩
  have HA1 : Hid _ := holds_new (holds_cons (holds_later HA.out hb1) hh1) #[.int .i64 r, .int .i64 k, .slice (some ⟨g1, 0, none⟩) m1 m1] 65
  have HB1 : Hid (Below w.heap.size w w1) := ((Below.refl w.heap.size w).alloc (Nat.le_refl _) _).trans (hb1.mono (by simp))
  have HM1 : Hid _ := hm1
  clear hb1 hh1 hg1 hm1 HA
  go_wp2_with fail
  refine Calls.mono (one_F k _ (by omega)) ?_
  rintro e w2 ⟨g2, m2, rfl, hm2, hg2, hh2, hb2⟩
  have HA2 : Hid _ := holds_new (holds_cons (holds_later HA1.out hb2) hh2) #[.int .i64 k, .int .i64 k, .slice (some ⟨g2, 0, none⟩) m2 m2] 65
  have HB2' := (HB1.out.alloc HB1.out.size (.cells #[.int .i64 r, .int .i64 k, .slice (some ⟨g1, 0, none⟩) m1 m1] 65))
  have HB2 : Hid (Below w.heap.size w w2) := HB2'.trans (hb2.mono HB2'.size)
  have HM2 : Hid _ := hm2
  have c1 := cellAt (holds_at HA2.out 2 rfl) 0 _ rfl
  have c2 := cellAt (holds_at HA2.out 2 rfl) 1 _ rfl
  have c3 := cellAt (holds_at HA2.out 2 rfl) 2 _ rfl
  have z1 := ltHeap (holds_at HA2.out 2 rfl)
  clear hb2 hh2 hg2 hm2 HA1 HB1 HB2'
  go_wp2_with fail
  have hbl := heap_alloc_last (w2.alloc (.cells #[.int .i64 k, .int .i64 k, .slice (some ⟨g2, 0, none⟩) m2 m2] 65)) (.cells #[.int .i64 k, .int .i64 k, .slice (some ⟨g2, 0, none⟩) m2 m2, .int .i64 r, .int .i64 k, .slice (some ⟨g1, 0, none⟩) m1 m1] 65)
  rw [World.size_alloc] at hbl
  have hB3 := (HB2.out.alloc HB2.out.size (.cells #[.int .i64 k, .int .i64 k, .slice (some ⟨g2, 0, none⟩) m2 m2] 65)).alloc (by have := HB2.out.size; simp; omega) (.cells #[.int .i64 k, .int .i64 k, .slice (some ⟨g2, 0, none⟩) m2 m2, .int .i64 r, .int .i64 k, .slice (some ⟨g1, 0, none⟩) m1 m1] 65)
  have HA3 : Hid _ := holds_alloc HA2.out (.cells #[.int .i64 k, .int .i64 k, .slice (some ⟨g2, 0, none⟩) m2 m2, .int .i64 r, .int .i64 k, .slice (some ⟨g1, 0, none⟩) m1 m1] 65)
  have hsB := cell_later hB3 HS.out
  have HB3 : Hid _ := hB3
  clear hB3 HA2 HB2
  generalize hWW : ((w2.alloc (.cells #[.int .i64 k, .int .i64 k, .slice (some ⟨g2, 0, none⟩) m2 m2] 65)).alloc (.cells #[.int .i64 k, .int .i64 k, .slice (some ⟨g2, 0, none⟩) m2 m2, .int .i64 r, .int .i64 k, .slice (some ⟨g1, 0, none⟩) m1 m1] 65)) = W5 at *
  clear hWW
  refine Calls.mono (stack_F k (w2.heap.size + 1) 2 2 [⟨k, k, some ⟨g2, 0, none⟩, m2, m2, oneM k⟩, ⟨r, k, some ⟨g1, 0, none⟩, m1, m1, parM k r⟩] _ (ltHeap hbl) rfl (by decide) (fun j m hj => ?_) (fun m hm => ?_) s hsB) ?_
  · match j, hj with
    | 0, hj => obtain rfl := Option.some.inj hj; exact ⟨cellAt hbl 0 _ rfl, cellAt hbl 1 _ rfl, cellAt hbl 2 _ rfl⟩
    | 1, hj => obtain rfl := Option.some.inj hj; exact ⟨cellAt hbl 3 _ rfl, cellAt hbl 4 _ rfl, cellAt hbl 5 _ rfl⟩
  · simp only [List.mem_cons, List.not_mem_nil, or_false] at hm
    rcases hm with rfl | rfl
    · exact ⟨by rw [HM2.out, oneM_len], Nat.le_refl _, holds_row HA3.out 1 rfl, fun h => by cases h⟩
    · exact ⟨by rw [HM1.out, parM_len], Nat.le_refl _, holds_row HA3.out 3 rfl, fun h => by cases h⟩
  have hro : rowsOf [(⟨k, k, some ⟨g2, 0, none⟩, m2, m2, oneM k⟩ : Mx), ⟨r, k, some ⟨g1, 0, none⟩, m1, m1, parM k r⟩] = k + r := by simp [rowsOf]
  have hrm : (rowsM k [(⟨k, k, some ⟨g2, 0, none⟩, m2, m2, oneM k⟩ : Mx), ⟨r, k, some ⟨g1, 0, none⟩, m1, m1, parM k r⟩]).flatten = genM k r := by
    simp only [rowsM, List.map_cons, List.map_nil, Int.toNat_natCast, List.flatten_cons, List.flatten_nil, List.append_nil, List.flatten_append]
    rw [genM_eq, rows_flat (oneM_len k), rows_flat (parM_len k r)]
  have HOK : Hid (StackOk (k : Int) [(⟨k, k, some ⟨g2, 0, none⟩, m2, m2, oneM k⟩ : Mx), ⟨r, k, some ⟨g1, 0, none⟩, m1, m1, parM k r⟩]) := ⟨by omega, by omega, fun m hm => by
    simp only [List.mem_cons, List.not_mem_nil, or_false] at hm
    rcases hm with rfl | rfl
    · exact ⟨k, rfl, rfl, by omega, by omega, HM2.out⟩
    · exact ⟨r, rfl, rfl, by omega, by omega, HM1.out⟩, by rw [hro]; omega⟩
  rintro e w4 (⟨_, g, m, rfl, hm, hg, hh, hb4⟩ | ⟨hno, _⟩)
  rotate_left
  · exact absurd HOK.out hno
  rw [hro] at hm
  have hh' : w4.heap[g]? = some (.cells (vfs (genM k r)) 5 (0, 0)) := by rw [hh]; show some (Obj.cells (vfs (rowsM ((k : Int).toNat) _).flatten) _ _) = _; rw [Int.toNat_natCast, hrm]
  rw [hro]
  have HP : ∃ p : Nat, p = k + r := ⟨_, rfl⟩
  obtain ⟨p, hp⟩ := HP
  rw [← hp] at hm ⊢
  have HPP : Hid _ := hp
  have HM : Hid (m = p * k) := by show m = p * k; simpa using hm
  have k2 := heap_later (holds_at HA3.out 4 rfl) hb4
  have c4 := cellAt k2 0 _ rfl
  have c5 := cellAt k2 1 _ rfl
  have c6 := cellAt k2 2 _ rfl
  have d4 : w4.frozen? ⟨w.heap.size, 0, none⟩ = false := frozen_of_row _ _ _ _ _ k2
  have d5 : w4.frozen? ⟨w.heap.size, 1, none⟩ = false := frozen_of_row _ _ _ _ _ k2
  have d6 : w4.frozen? ⟨w.heap.size, 2, none⟩ = false := frozen_of_row _ _ _ _ _ k2
  have HH : Hid _ := hh'
  have HBW : Hid (Below w.heap.size w w4) := HB3.out.trans (hb4.mono HB3.out.size)
  have hgw : w.heap.size < g := by
    have h1 := ltHeap (holds_at HA3.out 4 rfl)
    have := HB3.out.size; omega
  clear hm hh hh' hb4 k2 hp c1 c2 c3 z1 hbl hsB hrm hro
  go_wp2
  have hp := HPP.out
  clear HPP
  subst hp
  refine bodyPost_ret (v := .tuple #[.agg #[.int .i64 (k + r : Nat), .int .i64 k, .slice (some ⟨g, 0, none⟩) m m], .nilIface]) (by simp [results, Tryd.results49, go_sem, c4, c5, c6]) rfl ⟨g, m, rfl, HM.out, by omega, ?_, ?_⟩
  · rw [heap_setCell_other _ _ _ _ (by show g ≠ w.heap.size; omega), heap_setCell_other _ _ _ _ (by show g ≠ w.heap.size; omega), heap_setCell_other _ _ _ _ (by show g ≠ w.heap.size; omega)]
    exact HH.out
  · exact ((HBW.out.setCell (Nat.le_refl _) _).setCell (Nat.le_refl _) _).setCell (Nat.le_refl _) _
set_option maxHeartbeats 2000000 in
theorem generator_bad (k r : Int) (w : World) (s : Addr) (hs : w.cell? ⟨0, 0, none⟩ = some (errAt s)) (hk0 : -9223372036854775808 ≤ k) (hk1 : k ≤ 9223372036854775807) (hr0 : -9223372036854775808 ≤ r) (hr1 : r ≤ 9223372036854775807) (h : ¬ LegalP k r) :
    Calls Tryd.prog 49 #[.int .i64 k, .int .i64 r] w fun e w' => e = .returned (.tuple #[.agg #[.int .i64 0, .int .i64 0, .slice none 0 0], errAt s]) ∧ Below w.heap.size w w' := by
  have HS : Hid _ := cell?_alloc_old (.cells #[.int .i64 0, .int .i64 0, .slice none 0 0] 65) hs
  have H : Hid _ := h
  clear h hs
  have hA := holds_new (holds_nil w) #[.int .i64 0, .int .i64 0, .slice none 0 0] 65
  have HA : Hid _ := hA
  clear hA
  go_enter Tryd.func49, Tryd.ntmps49
  go_wp2_with fail
  refine Calls.mono (parity_bad k r _ s HS.out hk0 hk1 hr0 hr1 H.out) ?_
  unfold errAt
  rintro e w1 ⟨rfl, hb1⟩
  have k1 := holds_at (holds_later HA.out hb1) 0 rfl
  have c4 := cellAt k1 0 _ rfl
  have c5 := cellAt k1 1 _ rfl
  have c6 := cellAt k1 2 _ rfl
  have d4 : w1.frozen? ⟨w.heap.size, 0, none⟩ = false := frozen_of_row _ _ _ _ _ k1
  have d5 : w1.frozen? ⟨w.heap.size, 1, none⟩ = false := frozen_of_row _ _ _ _ _ k1
  have d6 : w1.frozen? ⟨w.heap.size, 2, none⟩ = false := frozen_of_row _ _ _ _ _ k1
  have z1 := ltHeap k1
  have HB1 : Hid (Below w.heap.size w w1) := ((Below.refl w.heap.size w).alloc (Nat.le_refl _) _).trans (hb1.mono (by simp))
  clear hb1 k1
  go_wp2
  refine bodyPost_ret (v := .tuple #[.agg #[.int .i64 0, .int .i64 0, .slice none 0 0], errAt s]) (by simp [results, Tryd.results49, go_sem, c4, c5, c6, z1, errAt]) rfl ⟨rfl, ?_⟩
  exact (((HB1.out.setCell (Nat.le_refl _) _).setCell (Nat.le_refl _) _).setCell (Nat.le_refl _) _).alloc (by have := HB1.out.size; simp; omega) _
end Go.Proofs.YtmlpijlcpeoeaaaDoor

/- What Rows of package half answers, of all numbers; nothing that was there turns. -/
namespace Go.Proofs.YtmlpijlcpeoeaaaDoor
open Go.RowKit Gf
set_option linter.unusedVariables false
set_option maxRecDepth 20000
/-- the rows of all halves -/
def halfM (k r : Nat) : List F := grid (2 * k) (halfF k (carN (groupN k r))) (2 * (k + r))
theorem halfM_len (k r : Nat) : (halfM k r).length = 2 * (k + r) * (2 * k) := grid_len _ _ _
theorem hkind_ne {w : World} {a b : Nat} {cs ds : Array Value} {t u : TypeId} {f1 f2 : Nat × Nat} (h1 : w.heap[a]? = some (.cells cs t f1)) (h2 : w.heap[b]? = some (.cells ds u f2)) (h : t ≠ u) : a ≠ b := fun e => by
  subst e; rw [h1] at h2; cases h2; exact h rfl
theorem place_half {k r g s p : Nat} (hs : s < k + r) (hp : p < 2) : rowF (2 * k) (placeF k g s p (rowAt k (genM k r) s)) = rowF (2 * k) (halfF k (carN g) (2 * s + p)) := by
  refine rowF_congr fun v hv => ?_
  rw [genM, rowAt_grid hs]
  simp only [placeF, halfF]
  rw [show (2 * s + p) % 2 = p by omega, show (2 * s + p) / 2 = s by omega]
  by_cases h : v % 2 = p
  · rw [if_pos h, if_pos h, at8_rowF (by omega)]
  · rw [if_neg h, if_neg h]
    by_cases h2 : p = 1 ∧ s = k + carN g (v / 2)
    · rw [if_pos h2, if_pos ⟨h2.1, by omega, by omega⟩]
    · rw [if_neg h2, if_neg (fun h3 => h2 ⟨h3.1, by omega⟩)]
set_option maxHeartbeats 4000000 in
theorem hrows_F (k r : Nat) (w : World) (s0 : Addr) (hs0 : w.cell? ⟨2, 0, none⟩ = some (errAt s0)) (h1 : 1 ≤ k) (h2 : 2 ≤ r) (h3 : k + r ≤ 16) :
    Calls Tryd.prog 28 #[.int .i64 k, .int .i64 r] w fun e w' => ∃ g m, e = .returned (.tuple #[.agg #[.int .i64 (2 * (k + r) : Nat), .int .i64 (2 * k : Nat), .slice (some ⟨g, 0, none⟩) m m], .nilIface]) ∧ m = 2 * (k + r) * (2 * k) ∧ w.heap.size ≤ g ∧
      w'.heap[g]? = some (.cells (vfs (halfM k r)) 5 (0, 0)) ∧ Below w.heap.size w w' := by
  obtain ⟨gr1, _, _, gr2⟩ := groupN_least h1 h2 h3
  have HG : Hid _ := fun w => bgroup_ok k r w h1 h2 h3
  have HV : Hid _ := fun w s hs => generator_F k r w s hs h1 h2 h3
  have hhm : halfM k r = grid (2 * k) (halfF k (carN (groupN k r))) (2 * (k + r)) := rfl
  obtain ⟨gr, hgr⟩ : ∃ gr, gr = groupN k r := ⟨_, rfl⟩
  rw [← hgr] at HG gr1 gr2 hhm
  obtain ⟨n, hn⟩ : ∃ n, n = 2 * (k + r) := ⟨_, rfl⟩
  obtain ⟨c, hc⟩ : ∃ c, c = 2 * k := ⟨_, rfl⟩
  obtain ⟨t, ht⟩ : ∃ t, t = k + r := ⟨_, rfl⟩
  rw [← ht] at HV
  rw [← hn, ← hc] at hhm ⊢
  have en : (2 : Int) * ((k : Int) + r) = n := by omega
  have ec : (2 : Int) * (k : Int) = c := by omega
  have hn32 : n ≤ 32 := by omega
  have hc32 : c ≤ 32 := by omega
  have HN : Hid _ := hn
  have HC : Hid _ := hc
  have HT : Hid _ := ht
  have HHM : Hid _ := hhm
  have HS : Hid _ := hs0
  have hmk := run_makeS n (by omega)
  clear hgr hn hc ht hhm hs0
  have hA := holds_new (holds_nil w) #[.int .i64 0, .int .i64 0, .slice none 0 0] 65
  have HA : Hid _ := hA
  have HB0 : Hid _ := (Below.refl w.heap.size w).alloc (Nat.le_refl _) (.cells #[.int .i64 0, .int .i64 0, .slice none 0 0] 65)
  clear hA
  go_enter Tryd.func28, Tryd.ntmps28
  go_wp2_with fail
  refine Calls.mono (HV.out _ s0 (cell_later HB0.out HS.out)) ?_
  rintro e w1 ⟨g1, m1, rfl, hm1, hg1, hh1, hb1⟩
  have HA1 : Hid _ := holds_new (holds_cons (holds_later HA.out hb1) hh1) #[.int .i64 t, .int .i64 k, .slice (some ⟨g1, 0, none⟩) m1 m1] 65
  have hB1 := HB0.out.trans (hb1.mono HB0.out.size)
  have HB1 : Hid (Below w.heap.size w (w1.alloc (.cells #[.int .i64 t, .int .i64 k, .slice (some ⟨g1, 0, none⟩) m1 m1] 65))) := hB1.alloc hB1.size _
  have HM1 : Hid _ := hm1
  clear hb1 hh1 hg1 hm1 HA hB1
  go_wp2_with fail
  refine Calls.mono (HG.out _) ?_
  rintro e w2 ⟨rfl, rfl⟩
  go_wp2
  have hA2 := holds_cons (holds_alloc HA1.out (.cells (slV 0 [] n) 22)) (heap_alloc_last (w1.alloc (.cells #[.int .i64 t, .int .i64 k, .slice (some ⟨g1, 0, none⟩) m1 m1] 65)) (.cells (slV 0 [] n) 22))
  have hB2 := HB1.out.alloc HB1.out.size (.cells (slV 0 [] n) 22)
  have hz1 := HB1.out.size
  have hz2 := ltHeap (holds_at HA1.out 2 rfl)
  rw [World.size_alloc] at hA2 hz1 hz2
  have HA2 : Hid _ := hA2
  have HB2 : Hid _ := hB2
  clear hA2 hB2 HA1 HB1 hmk
  generalize hM : w1.heap.size + 1 = M at *
  generalize ((w1.alloc (.cells #[.int .i64 t, .int .i64 k, .slice (some ⟨g1, 0, none⟩) m1 m1] 65)).alloc (.cells (slV 0 [] n) 22)) = W3 at *
  have hM0 : w.heap.size < M := by omega
  have hM1 : w1.heap.size < M := by omega
  clear hM
  go_loopw [41] (fun i wr => ∃ j : Nat, ∃ gs : List Nat, j ≤ n ∧ i = .int .i64 j ∧ gs.length = j ∧ Below w.heap.size w wr ∧
    Holds wr [(M, .cells (slV c gs n) 22 (0, 0)), (w1.heap.size, .cells #[.int .i64 t, .int .i64 k, .slice (some ⟨g1, 0, none⟩) m1 m1] 65 (0, 0)), (g1, .cells (vfs (genM k r)) 5 (0, 0)), (w.heap.size, .cells #[.int .i64 0, .int .i64 0, .slice none 0 0] 65 (0, 0))] ∧
    ∀ i g, gs[i]? = some g → g ≠ M ∧ wr.heap[g]? = some (.cells (vfs (rowF c (halfF k (carN gr) i))) 5 (0, 0))) (fun i _ => n - (intOf i).toNat)
  case atStart => exact ⟨0, [], by omega, rfl, rfl, HB2.out, HA2.out, fun j g h => by simp at h⟩
  case round =>
    obtain ⟨j, gs, hj, rfl, hgs, hb, hh, hrows⟩ := hrel
    have HB : Hid _ := hb
    have HH : Hid _ := hh
    have HR : Hid _ := hrows
    have HGS : Hid _ := hgs
    clear hb hh hrows hgs
    by_cases hlt : j < n
    · obtain ⟨s, p, rfl, hp2, hst⟩ : ∃ s p : Nat, j = 2 * s + p ∧ p < 2 ∧ s < t := ⟨j / 2, j % 2, by omega, by omega, by have := HN.out; have := HT.out; omega⟩
      go_wp2_with fail
      refine (placeOf_F (2 * s + p) s p _ rfl hp2 (by have := HT.out; omega)).mono ?_
      rintro e w4 ⟨rfl, hb4⟩
      have HH4 : Hid _ := holds_new (holds_later HH.out hb4) #[.int .i64 s, .int .i64 p] 89
      have hB4 := HB.out.trans (hb4.mono HB.out.size)
      have HB4 : Hid _ := hB4.alloc hB4.size (.cells #[.int .i64 s, .int .i64 p] 89)
      have HR4b : Hid (∀ (k0 : Nat) (o : Obj), wr.heap[k0]? = some o → (w4.alloc (.cells #[.int .i64 s, .int .i64 p] 89)).heap[k0]? = some o) := fun k0 o h => (Below.heap_alloc _ _ _ (ltHeap (heap_later h hb4))).trans (heap_later h hb4)
      have zz4 := hb4.size
      clear hb4 hB4
      have c1 := cellAt (holds_at HH4.out 2 rfl) 0 _ rfl
      have c2 := cellAt (holds_at HH4.out 2 rfl) 1 _ rfl
      have c3 := cellAt (holds_at HH4.out 2 rfl) 2 _ rfl
      have c4 := cellAt (holds_at HH4.out 0 rfl) 0 _ rfl
      have z4 := ltHeap (holds_at HH4.out 0 rfl)
      have z5 := ltHeap (holds_at HH4.out 2 rfl)
      go_wp2_with fail
      refine Calls.mono (row_F t k m1 m1 s (some ⟨g1, 0, none⟩) (genM k r) _ (by have := HT.out; omega) (by omega) (by have := HM1.out; simpa using this) (by rw [genM_len, HT.out]) (Nat.le_refl _) (holds_row HH4.out 3 rfl) (fun h => by cases h) hst) ?_
      rintro e w5 ⟨a5, cap5, rfl, hr5, hn5, _, hb5⟩
      have HR5 : Hid _ := hr5
      have HH5 : Hid _ := holds_later HH4.out hb5
      have HB5 : Hid (Below w.heap.size w w5) := HB4.out.trans (hb5.mono HB4.out.size)
      have HR5b : Hid (∀ (k0 : Nat) (o : Obj), wr.heap[k0]? = some o → w5.heap[k0]? = some o) := fun k0 o h => heap_later (HR4b.out k0 o h) hb5
      clear hr5 hb5 hn5 c1 c2 c3 c4 z4 z5 HB4
      have c1 := cellAt (holds_at HH5.out 0 rfl) 0 _ rfl
      have c2 := cellAt (holds_at HH5.out 0 rfl) 1 _ rfl
      have z5 := ltHeap (holds_at HH5.out 0 rfl)
      go_wp2_with fail
      refine Calls.mono (hrowAt_F k gr s p cap5 a5 _ _ h1 (by omega) gr1 gr2 (by have := HT.out; omega) hp2 (rowAt_len (by rw [genM_len]) (by rw [← HT.out]; exact hst)) HR5.out) ?_
      rintro e w6 ⟨g6, n6, rfl, hn6, hg6, hh6, hb6⟩
      obtain rfl : n6 = c := by have := HC.out; omega
      rw [place_half (by have := HT.out; omega) hp2, ← HC.out] at hh6
      have hs6 := heap_later (holds_at HH5.out 1 rfl) hb6
      have z6 := ltHeap (holds_at HH5.out 1 rfl)
      have hg6M : g6 ≠ M := by omega
      have HG2 := HGS.out
      have c7 : w6.cell? ⟨M, 2 * s + p, none⟩ = some (.slice none 0 0) := cellAt hs6 (2 * s + p) _ (by have e := slV_next (c := n6) (gs := gs) (r := n) (by rw [HG2]; exact hlt); rwa [HG2] at e)
      have c8 : w6.frozen? ⟨M, 2 * s + p, none⟩ = false := frozen_of_row _ _ _ _ _ hs6
      have hW : ∀ (k0 : Nat) (o : Obj), k0 ≠ M → w6.heap[k0]? = some o → (w6.setCell ⟨M, 2 * s + p, none⟩ (.slice (some ⟨g6, 0, none⟩) n6 n6)).heap[k0]? = some o := fun k0 o h1 h2 => (heap_setCell_other _ _ _ _ h1).trans h2
      have HT6 : Hid ((w6.setCell ⟨M, 2 * s + p, none⟩ (.slice (some ⟨g6, 0, none⟩) n6 n6)).heap[M]? = some (.cells (slV n6 (gs ++ [g6]) n) 22 (0, 0))) := by
        show _ = _
        rw [heap_setCell_same _ _ _ _ _ _ hs6, ← HG2, slV_set g6 (by omega)]
      have HROW : Hid (∀ i g, (gs ++ [g6])[i]? = some g → g ≠ M ∧ (w6.setCell ⟨M, 2 * s + p, none⟩ (.slice (some ⟨g6, 0, none⟩) n6 n6)).heap[g]? = some (.cells (vfs (rowF n6 (halfF k (carN gr) i))) 5 (0, 0))) := by
        intro i g hi
        by_cases hjk : i < gs.length
        · rw [List.getElem?_append_left hjk] at hi
          obtain ⟨h1, h2⟩ := HR.out i g hi
          exact ⟨h1, hW _ _ h1 (heap_later (HR5b.out _ _ h2) hb6)⟩
        · have hj2 := (List.getElem?_eq_some_iff.1 hi).1
          simp only [List.length_append, List.length_singleton] at hj2
          obtain rfl : i = 2 * s + p := by omega
          rw [List.getElem?_append_right (by omega), show 2 * s + p - gs.length = 0 from by omega] at hi
          obtain rfl : g6 = g := by simpa using hi
          exact ⟨hg6M, hW _ _ hg6M hh6⟩
      have hB6 := HB5.out.trans (hb6.mono HB5.out.size)
      have hBX := hB6.setCell (p := ⟨M, 2 * s + p, none⟩) (by show w.heap.size ≤ M; omega) (.slice (some ⟨g6, 0, none⟩) n6 n6)
      have HBX : Hid _ := hBX
      have hX0 := holds_later HH5.out hb6
      have HHX : Hid (Holds (w6.setCell ⟨M, 2 * s + p, none⟩ (.slice (some ⟨g6, 0, none⟩) n6 n6)) [(M, .cells (slV n6 (gs ++ [g6]) n) 22 (0, 0)), (w1.heap.size, .cells #[.int .i64 t, .int .i64 k, .slice (some ⟨g1, 0, none⟩) m1 m1] 65 (0, 0)), (g1, .cells (vfs (genM k r)) 5 (0, 0)), (w.heap.size, .cells #[.int .i64 0, .int .i64 0, .slice none 0 0] 65 (0, 0))]) :=
        holds_cons (holds_cons (holds_cons (holds_cons (holds_nil _) (hW _ _ (by omega) (holds_at hX0 4 rfl))) (hW _ _ (hkind_ne (holds_at hX0 3 rfl) hs6 (by decide)) (holds_at hX0 3 rfl))) (hW _ _ (by omega) (holds_at hX0 2 rfl))) HT6.out
      clear hs6 hb6 hh6 hW hB6 hBX hX0 hn6 c1 c2 HG2
      go_wp2
      refine ⟨⟨2 * s + p + 1, gs ++ [g6], by omega, by go_num, by simp [HGS.out], HBX.out, HHX.out, HROW.out⟩, by simp [intOf]; omega⟩
    · obtain rfl : j = n := by omega
      have k1 := holds_at HH.out 0 rfl
      go_wp2_with fail
      refine Calls.mono (of_F c j j _ ((List.range j).map fun i => rowF c (halfF k (carN gr) i)) _ (by omega) (by simp) (by omega) (fun x hx => ?_) (.inr ⟨M, 0, rfl, fun i x hx => ?_⟩)) ?_
      · obtain ⟨i, _, rfl⟩ := List.mem_map.1 hx
        exact rowF_len _ _
      · simp only [List.getElem?_map, Option.map_eq_some_iff] at hx
        obtain ⟨l, hi, rfl⟩ := hx
        obtain ⟨hjk, hi2⟩ := List.getElem?_eq_some_iff.1 hi
        simp only [List.length_range] at hjk
        simp only [List.getElem_range] at hi2
        subst hi2
        have hjg : i < gs.length := by rw [HGS.out]; exact hjk
        have hgj : gs[i]? = some gs[i] := List.getElem?_eq_getElem hjg
        refine ⟨some ⟨gs[i], 0, none⟩, c, ?_, row8_own (HR.out i _ hgj).2⟩
        rw [Nat.zero_add, rowF_len]
        exact cellAt k1 i _ (slV_at hjg)
      rintro e w5 ⟨g, m, rfl, hm, hg, hh, hb5⟩
      rw [← grid_flat, ← HHM.out] at hh
      have k2 := heap_later (holds_at HH.out 3 rfl) hb5
      have c4 := cellAt k2 0 _ rfl
      have c5 := cellAt k2 1 _ rfl
      have c6 := cellAt k2 2 _ rfl
      have d4 : w5.frozen? ⟨w.heap.size, 0, none⟩ = false := frozen_of_row _ _ _ _ _ k2
      have d5 : w5.frozen? ⟨w.heap.size, 1, none⟩ = false := frozen_of_row _ _ _ _ _ k2
      have d6 : w5.frozen? ⟨w.heap.size, 2, none⟩ = false := frozen_of_row _ _ _ _ _ k2
      have HMM : Hid _ := hm
      have HHH : Hid _ := hh
      have HBW : Hid (Below w.heap.size w w5) := HB.out.trans (hb5.mono HB.out.size)
      have hgw : w.heap.size < g := by
        have h1 := ltHeap k1
        omega
      clear hm hh hb5 k2 k1
      go_wp2
      refine bodyPost_ret (v := .tuple #[.agg #[.int .i64 j, .int .i64 c, .slice (some ⟨g, 0, none⟩) m m], .nilIface]) (by simp [results, Tryd.results28, go_sem, c4, c5, c6]) rfl ⟨g, m, rfl, HMM.out, by omega, ?_, ?_⟩
      · rw [heap_setCell_other _ _ _ _ (by show g ≠ w.heap.size; omega), heap_setCell_other _ _ _ _ (by show g ≠ w.heap.size; omega), heap_setCell_other _ _ _ _ (by show g ≠ w.heap.size; omega)]
        exact HHH.out
      · exact ((HBW.out.setCell (by simp) _).setCell (by simp) _).setCell (by simp) _
end Go.Proofs.YtmlpijlcpeoeaaaDoor

/- Elimination in the program, eliminate: the labelled loops, of all lists of rows. -/
namespace Go.Proofs.YtmlpijlcpeoeaaaDoor
open Go.RowKit Gf
set_option linter.unusedVariables false
set_option maxRecDepth 20000
def natV (p : List Nat) : List Value := p.map fun x => Value.int .i64 ((x : Nat) : Int)
theorem natV_snoc (p : List Nat) (k : Nat) : natV p ++ [.int .i64 (k : Int)] = natV (p ++ [k]) := by simp [natV]
set_option maxHeartbeats 8000000 in
theorem eliminate_F (M n c cn cols : Nat) (f : Nat → Option Addr × Nat) (R : Mt) (w : World) (hn : n ≤ 64) (hc : c ≤ 128) (hcols : cols ≤ c) (hR : RowsW w M n c f R) :
    Calls Tryd.prog 90 #[.slice (some ⟨M, 0, none⟩) n cn, .int .i64 cols] w fun e w' => ∃ a cap p f' R', e = .returned (.slice a p.length cap) ∧ w'.ownsRow w.heap.size 3 1 (.slice a p.length cap) p.length (natV p) ∧
      RowsW w' M n c f' R' ∧ Red R' p n cols ∧ RowsIn R' n R n c ∧ RowsIn R n R' n c ∧ w.grownBy w' (some M) := by
  have HR : Hid _ := hR
  clear hR
  go_enter Tryd.func90, Tryd.ntmps90
  go_wp2
  go_step3
  go_wp2
  go_step3
  go_wp2
  go_loopw [5, 9] (fun v i wr => ∃ (k : Nat) (p : List Nat) (f' : Nat → Option Addr × Nat) (R' : Mt), k ≤ cols ∧ i = .int .i64 k ∧ wr.ownsRow w.heap.size 3 1 v p.length (natV p) ∧
    RowsW wr M n c f' R' ∧ Red R' p n k ∧ RowsIn R' n R n c ∧ RowsIn R n R' n c ∧ w.grownBy wr (some M)) (fun _ i _ => cols - (intOf i).toNat)
  case atStart => exact ⟨0, [], f, R, by omega, rfl, ⟨rfl, .inl ⟨rfl, rfl⟩⟩, HR.out, Red.start _ _, RowsIn.refl _ _ _, RowsIn.refl _ _ _, World.grownBy.refl _ _⟩
  case round =>
    obtain ⟨k, p, f5, R5, hk, rfl, hown, hrw, hred, hin, hback, hgb⟩ := hrel
    obtain ⟨av, cv, rfl⟩ := own_shape hown
    have hpl := hred.len
    have HOWN : Hid _ := hown
    have HRW : Hid _ := hrw
    have HRED : Hid _ := hred
    have HIN : Hid _ := hin
    have HBACK : Hid _ := hback
    have HGB : Hid _ := hgb
    clear hown hrw hred hin hback hgb
    generalize wr = W5 at *
    by_cases hlt : k < cols
    · go_wp2
      go_loopw [5, 7] (fun v i wq => ∃ r0 : Nat, p.length ≤ r0 ∧ r0 ≤ n ∧ v = .slice av p.length cv ∧ i = .int .i64 r0 ∧ wq = W5 ∧ ∀ i, p.length ≤ i → i < r0 → R5 i k = 0) (fun _ i _ => n - (intOf i).toNat)
      case atStart => exact ⟨p.length, by omega, hpl, rfl, rfl, rfl, fun i h1 h2 => by omega⟩
      case round =>
        obtain ⟨r0, h1, h2, rfl, rfl, rfl, hz⟩ := hrel
        have HZ : Hid _ := hz
        clear hz
        by_cases hr : r0 < n
        · obtain ⟨b, off, m, hf, hm, hbM, hb, c1, c2⟩ := HRW.out.get hr (show k < c by omega)
          by_cases hzero : R5 r0 k = 0
          · rw [hzero] at c2
            clear hf
            go_wp2
            exact ⟨⟨r0 + 1, by omega, by omega, by first | rfl | trivial, by go_num, by first | rfl | trivial, fun i h3 h4 => by
              by_cases e : i = r0
              · rw [e]; exact hzero
              · exact HZ.out i h3 (by omega)⟩, by simp [intOf]; omega⟩
          · have hnz : ((R5 r0 k).toNat : Int) ≠ 0 := by
              intro e; exact hzero (F.val_eq_zero.1 (by omega))
            clear hf
            go_wp2_with fail
            refine Calls.mono (makePivot_F M n c cn r0 p.length k f5 R5 _ hn hc hr (by omega) (by omega) hzero HRW.out) ?_
            rintro e w2 ⟨rfl, ⟨f6, hrw2⟩, hg2⟩
            have hsz := HGB.out.size
            have hsz2 := hg2.size
            have ho2 := own_rows HOWN.out HRW.out.blk (by decide) hg2
            have ho := ho2.alloc (.cells #[.int .i64 k] 3)
            obtain ⟨g2, cap2, w6, hrun, ho3, hgr, hor, hlt2⟩ := appendI (b := w2.heap.size) (c := 1) (x := (k : Int)) 54 ho (cellAt (heap_alloc_last w2 (.cells #[.int .i64 k] 3)) 0 _ rfl) (by omega) (by simp; omega)
            rw [natV_snoc] at ho3
            have hrw3 := (hrw2.below ((Below.refl _ _).alloc (Nat.le_refl _) (.cells #[.int .i64 k] 3))).own ho (by decide) (by decide) hgr
            have hgA : w.grownBy (w2.alloc (.cells #[.int .i64 k] 3)) (some M) := grown_below (grown_trans HGB.out hg2 (fun j _ h => h)) ((Below.refl _ _).alloc (Nat.le_refl _) _)
            have hgB := grown_own hgA ho hgr
            have hredN := HRED.out.take h1 hr hzero
            have hinN := (pivF_in R5 k c hr (show p.length < n by omega)).trans HIN.out
            have hbackN := RowsIn.trans HBACK.out (pivF_back R5 k c hr (show p.length < n by omega) hzero)
            have hlen : (p ++ [k]).length = p.length + 1 := by simp
            rw [← hlen] at ho3
            have HRun : Hid _ := hrun
            have HO3 : Hid _ := ho3
            have HRW3 : Hid _ := hrw3
            have HGB3 : Hid _ := hgB
            have HRED3 : Hid _ := hredN
            have HIN3 : Hid _ := hinN
            have HBACK3 : Hid _ := hbackN
            have HLEN : Hid _ := hlen
            clear hrun ho3 hrw3 hgB hredN hinN hbackN hgA ho2 ho hrw2 hg2 hgr hor c1 c2 hlen hsz hsz2 hlt2 hb
            by_cases hfull : p.length + 1 = n
            · go_wp2_with (at_builtin; refine wpList_append_run rfl _ _ 54 rfl _ _ _ _ rfl rfl HRun.out ?_)
              rw [Exit.noGoto_ret]
              go_ret
              exact ⟨some ⟨g2, 0, none⟩, cap2, p ++ [k], f6, _, by rw [HLEN.out, hfull]; rfl, HO3.out, HRW3.out, HRED3.out.full (by rw [HLEN.out, hfull]) (by omega), HIN3.out, HBACK3.out, HGB3.out⟩
            · go_wp2_with (at_builtin; refine wpList_append_run rfl _ _ 54 rfl _ _ _ _ rfl rfl HRun.out ?_)
              exact ⟨⟨k + 1, p ++ [k], f6, _, by omega, by go_num, by have h := HO3.out; rw [HLEN.out] at h ⊢; exact h, HRW3.out, HRED3.out, HIN3.out, HBACK3.out, HGB3.out⟩, by simp [intOf]; omega⟩
        · obtain rfl : r0 = n := by omega
          go_wp2
          exact ⟨⟨k + 1, p, f5, R5, by omega, by go_num, HOWN.out, HRW.out, HRED.out.skip HZ.out, HIN.out, HBACK.out, HGB.out⟩, by simp [intOf]; omega⟩
    · obtain rfl : k = cols := by omega
      go_wp2
      rw [Exit.noGoto_ret]
      go_ret
      exact ⟨av, cv, p, f5, R5, rfl, HOWN.out, HRW.out, HRED.out, HIN.out, HBACK.out, HGB.out⟩
end Go.Proofs.YtmlpijlcpeoeaaaDoor

/- What eliminated answers, of all matrices in form with as many rows, and of all others. -/
namespace Go.Proofs.YtmlpijlcpeoeaaaDoor
open Go.RowKit Gf
set_option linter.unusedVariables false
set_option maxRecDepth 20000
/-- two lists of cells, row beside row -/
def augL (c q : Nat) (xs ys : List F) : Mt := fun i j => if j < c then at8 xs (i * c + j) else at8 ys (i * q + (j - c))
/-- n slices, the first k of c elements each, the others none -/
def slP (n c k : Nat) (f : Nat → Option Addr × Nat) : Array Value := ((List.range n).map fun x => if x < k then Value.slice (f x).1 c (f x).2 else Value.slice none 0 0).toArray
theorem slP_size (n c k : Nat) (f : Nat → Option Addr × Nat) : (slP n c k f).size = n := by simp [slP]
theorem slP_at {n c k x : Nat} {f : Nat → Option Addr × Nat} (h : x < n) : (slP n c k f)[x]? = some (if x < k then Value.slice (f x).1 c (f x).2 else Value.slice none 0 0) := by simp [slP, h]
theorem slP_zero (n c : Nat) (f : Nat → Option Addr × Nat) : slV 0 [] n = slP n c 0 f := by
  apply Array.ext_getElem?
  intro i
  by_cases h : i < n <;> simp [slP, slV, h]
theorem slP_all (n c : Nat) (f : Nat → Option Addr × Nat) : slP n c n f = slF n c f := by
  apply Array.ext_getElem?
  intro i
  by_cases h : i < n
  · rw [slP_at h, slF_at h, if_pos h]
  · rw [Array.getElem?_eq_none (by rw [slP_size]; omega), Array.getElem?_eq_none (by rw [slF_size]; omega)]
theorem slP_set {n c k : Nat} {f : Nat → Option Addr × Nat} (a : Option Addr) (m : Nat) (h : k < n) : (slP n c k f).setIfInBounds k (.slice a c m) = slP n c (k + 1) (fun x => if x = k then (a, m) else f x) := by
  apply Array.ext_getElem?
  intro i
  rw [Array.getElem?_setIfInBounds]
  by_cases hi : i < n
  · rw [slP_at hi, slP_at hi, slP_size]
    by_cases e : k = i
    · subst e; simp [hi]
    · by_cases e2 : i < k
      · simp [e, e2, show ¬ i = k from fun h => e h.symm, show i < k + 1 by omega]
      · simp [e, e2, show ¬ i < k + 1 by omega]
  · rw [Array.getElem?_eq_none (by rw [slP_size]; omega), Array.getElem?_eq_none (by rw [slP_size]; omega), slP_size]
    simp; omega
set_option maxHeartbeats 8000000 in
theorem eliminated_F (r c q la ca lb cb : Nat) (a b : Option Addr) (xs ys : List F) (w : World) (hr : r ≤ 64) (hc : c ≤ 64) (hq : q ≤ 64) (hla : la = r * c) (hx : xs.length = r * c) (hca : la ≤ ca) (hX : Row8 w a xs) (hna : a = none → ca = 0)
    (hlb : lb = r * q) (hy : ys.length = r * q) (hcb : lb ≤ cb) (hY : Row8 w b ys) (hnb : b = none → cb = 0) :
    Calls Tryd.prog 83 #[.agg #[.int .i64 r, .int .i64 c, .slice a la ca], .agg #[.int .i64 r, .int .i64 q, .slice b lb cb]] w fun e w' => ∃ M av cv p f' R',
      e = .returned (.tuple #[.slice (some ⟨M, 0, none⟩) r r, .slice av p.length cv, .nilIface]) ∧ w.heap.size ≤ M ∧ w'.ownsRow w.heap.size 3 1 (.slice av p.length cv) p.length (natV p) ∧
      RowsW w' M r (c + q) f' R' ∧ Red R' p r c ∧ RowsIn R' r (augL c q xs ys) r (c + q) ∧ RowsIn (augL c q xs ys) r R' r (c + q) ∧ Below w.heap.size w w' := by
  have HLA : Hid _ := hla
  have HLB : Hid _ := hlb
  have HX : Hid _ := hx
  have HY : Hid _ := hy
  have HRX : Hid (Row8 w a xs) := hX
  have HRY : Hid (Row8 w b ys) := hY
  have HNA : Hid _ := hna
  have HNB : Hid _ := hnb
  clear hla hlb hx hy hX hY hna hnb
  have hmk := run_makeS r hr
  go_enter Tryd.func83, Tryd.ntmps83
  go_wp2_with fail
  refine Calls.mono (check_ok r c a la ca _ hr hc HLA.out) ?_
  rintro e w2 ⟨rfl, hb2⟩
  have hA := holds_later (holds_new (holds_new (holds_nil w) #[.int .i64 r, .int .i64 c, .slice a la ca] 65) #[.int .i64 r, .int .i64 q, .slice b lb cb] 65) hb2
  rw [World.size_alloc] at hA
  have hB2 : Below w.heap.size w w2 := (((Below.refl w.heap.size w).alloc (Nat.le_refl _) _).alloc (by simp) _).trans (hb2.mono (by simp; omega))
  have hz2 : w.heap.size + 2 ≤ w2.heap.size := by have := hb2.size; simpa using this
  have hA3 := holds_alloc hA (.cells (slV 0 [] r) 22)
  have hB3 : Below w.heap.size w (w2.alloc (.cells (slV 0 [] r) 22)) := hB2.alloc hB2.size _
  have hM3 := heap_alloc_last w2 (.cells (slV 0 [] r) 22)
  have c1 := cellAt (holds_at hA 1 rfl) 0 _ rfl
  have c2 := cellAt (holds_at hA 0 rfl) 0 _ rfl
  have HA3 : Hid _ := hA3
  have HB3 : Hid _ := hB3
  have HM3 : Hid _ := hM3
  clear hA hB2 hA3 hB3 hM3 hb2
  go_wp2
  generalize hM : w2.heap.size = M at *
  generalize (w2.alloc (.cells (slV 0 [] r) 22)) = W3 at *
  clear hM c1 c2 hmk
  go_loopw [28] (fun i wr => ∃ (k : Nat) (f : Nat → Option Addr × Nat), k ≤ r ∧ i = .int .i64 k ∧ W3.grownBy wr (some M) ∧ wr.heap[M]? = some (.cells (slP r (c + q) k f) 22 (0, 0)) ∧
    ∀ x, x < k → Row8T wr (f x).1 (rowF (c + q) (augL c q xs ys x)) ∧ c + q ≤ (f x).2 ∧ ((f x).1 = none → (f x).2 = 0)) (fun i _ => r - (intOf i).toNat)
  case atStart => exact ⟨0, fun _ => (none, 0), by omega, rfl, World.grownBy.refl _ _, by rw [← slP_zero]; exact HM3.out, fun x h => by omega⟩
  case round =>
    obtain ⟨k, f, hk, rfl, hgb, hs, hrows⟩ := hrel
    have k0 := grown_block hgb (holds_at HA3.out 1 rfl) (by omega)
    have k1 := grown_block hgb (holds_at HA3.out 0 rfl) (by omega)
    by_cases hlt : k < r
    · have c1 := cellAt k0 0 _ rfl
      have c2 := cellAt k0 1 _ rfl
      have c3 := cellAt k0 2 _ rfl
      have hbw := below_grown HB3.out hgb (by omega)
      have HBW : Hid _ := hbw
      have HS : Hid _ := hs
      have HR : Hid _ := hrows
      have HG : Hid _ := hgb
      have HK1 : Hid _ := k1
      clear hbw hs hrows hgb k0 k1
      go_wp2_with fail
      refine Calls.mono (row_F r c la ca k a xs _ hr hc HLA.out HX.out hca (row8_below HRX.out HBW.out) HNA.out hlt) ?_
      rintro e w4 ⟨a', cap', rfl, hr4, hn4, _, hb4⟩
      have k1 := heap_later HK1.out hb4
      have c4 := cellAt k1 0 _ rfl
      have c5 := cellAt k1 1 _ rfl
      have c6 := cellAt k1 2 _ rfl
      have hB4 : Below w.heap.size w w4 := HBW.out.trans (hb4.mono HBW.out.size)
      have HB4 : Hid _ := hB4
      have Hb4 : Hid _ := hb4
      have HR4 : Hid _ := hr4
      have HN4 : Hid _ := hn4
      clear k1 hB4 hb4 hr4 hn4 c1 c2 c3
      go_wp2_with fail
      refine Calls.mono (row_F r q lb cb k b ys _ hr hq HLB.out HY.out hcb (row8_below HRY.out HB4.out) HNB.out hlt) ?_
      rintro e w5 ⟨b', capb, rfl, hr5, hn5, _, hb5⟩
      have HR5 : Hid _ := hr5
      have HN5 : Hid _ := hn5
      have Hb5 : Hid _ := hb5
      clear hr5 hn5 hb5 c4 c5 c6
      go_wp2_with fail
      have hal : Below w5.heap.size w5 (w5.alloc (.cells #[.slice a' c cap', .slice b' q capb] 22)) := (Below.refl _ _).alloc (Nat.le_refl _) _
      have ex : rowF c (fun j => at8 xs (k * c + j)) = rowAt c xs k := (rowAt_rowF HX.out hlt).symm
      have ey : rowF q (fun j => at8 ys (k * q + j)) = rowAt q ys k := (rowAt_rowF HY.out hlt).symm
      refine Calls.mono (concat_F w5.heap.size a' b' c cap' q capb (fun j => at8 xs (k * c + j)) (fun j => at8 ys (k * q + j)) _ (heap_alloc_last w5 _) HN4.out HN5.out hc hq (by rw [ex]; exact row8_below (row8_below HR4.out Hb5.out) hal) (by rw [ey]; exact row8_below HR5.out hal)) ?_
      rintro e w6 ⟨g6, G6, rfl, hG6, hn6, hb6, hr6⟩
      have hB6 : Below wr.heap.size wr w6 := (Hb4.out.trans (Hb5.out.mono Hb4.out.size)).trans ((hal.trans (hb6.mono hal.size)).mono (Nat.le_trans Hb4.out.size Hb5.out.size))
      have hs6 := heap_later HS.out hB6
      have c7 := cellAt hs6 k _ (slP_at hlt)
      rw [if_neg (Nat.lt_irrefl k)] at c7
      have d7 : w6.frozen? ⟨M, k, none⟩ = false := frozen_of_row _ _ _ _ _ hs6
      have hgS : w6.grownBy (w6.setCell ⟨M, k, none⟩ (.slice g6 (c + q) G6)) (some M) := grownBy_setCell (World.grownBy.refl _ _) _
      have HS6 : Hid ((w6.setCell ⟨M, k, none⟩ (.slice g6 (c + q) G6)).heap[M]? = some (.cells (slP r (c + q) (k + 1) (fun x => if x = k then (g6, G6) else f x)) 22 (0, 0))) := by
        show _ = _
        rw [heap_setCell_same _ _ _ _ _ _ hs6, slP_set _ _ hlt]
      have HG6 : Hid (W3.grownBy (w6.setCell ⟨M, k, none⟩ (.slice g6 (c + q) G6)) (some M)) := grownBy_setCell (grown_below HG.out hB6) _
      have HR6 : Hid (∀ x, x < k + 1 → Row8T (w6.setCell ⟨M, k, none⟩ (.slice g6 (c + q) G6)) (if x = k then (g6, G6) else f x).1 (rowF (c + q) (augL c q xs ys x)) ∧ c + q ≤ (if x = k then (g6, G6) else f x).2 ∧ ((if x = k then (g6, G6) else f x).1 = none → (if x = k then (g6, G6) else f x).2 = 0)) := by
        intro x hx
        have hne : NoElems w6 (some M) := noElems_some hs6 (by decide)
        by_cases e : x = k
        · subst e
          rw [if_pos rfl]
          exact ⟨row8T_grown hr6 hgS hne, hG6, hn6⟩
        · rw [if_neg e]
          obtain ⟨h1, h2, h3⟩ := HR.out x (by omega)
          exact ⟨row8T_grown (row8T_below h1 hB6) hgS hne, h2, h3⟩
      clear hs6 hgS hr6 hb6 hB6 hal ex ey
      go_wp2
      exact ⟨⟨k + 1, _, by omega, by go_num, HG6.out, HS6.out, HR6.out⟩, by simp [intOf]; omega⟩
    · obtain rfl : k = r := by omega
      have hRW : RowsW wr M k (c + q) f (augL c q xs ys) := ⟨by rw [← slP_all]; exact hs, fun x hx => (hrows x hx).1, fun x hx => (hrows x hx).2.1, fun x hx => (hrows x hx).2.2⟩
      have hbw := below_grown HB3.out hgb (by omega)
      have c1 := cellAt k1 1 _ rfl
      have c2 := cellAt k0 1 _ rfl
      have HRW : Hid _ := hRW
      have HBW : Hid _ := hbw
      clear hs hrows hgb k0 k1 hRW hbw
      go_wp2_with fail
      refine Calls.mono (eliminate_F M k (c + q) k c f _ _ hr (by omega) (by omega) HRW.out) ?_
      rintro e w4 ⟨av, cv, p, f', R', rfl, hown, hrw, hred, hin, hback, hg4⟩
      have H1 : Hid _ := hown
      have H2 : Hid _ := hrw
      have H3 : Hid _ := hred
      have H4 : Hid _ := hin
      have H5 : Hid _ := hback
      have H6 : Hid _ := below_grown HBW.out hg4 (by omega)
      have hsz := HBW.out.size
      clear hown hrw hred hin hback hg4
      go_wp2
      refine bodyPost_ret (v := .tuple #[.slice (some ⟨M, 0, none⟩) k k, .slice av p.length cv, .nilIface]) (by simp [results, Tryd.results83, go_sem]) rfl ?_
      exact ⟨M, av, cv, p, f', R', rfl, by omega, own_lower H1.out hsz, H2.out, H3.out, H4.out, H5.out, H6.out⟩
end Go.Proofs.YtmlpijlcpeoeaaaDoor

/- What Reduce, Rank and Basis of package solve answer, of all matrices. -/
namespace Go.Proofs.YtmlpijlcpeoeaaaDoor
open Go.RowKit Gf
set_option linter.unusedVariables false
set_option maxRecDepth 20000
/-- the cells of a matrix of c columns -/
def cellF (c : Nat) (xs : List F) : Mt := fun i j => at8 xs (i * c + j)
theorem RowsIn.congr_left {A B B' : Mt} {n m c : Nat} (h : RowsIn B n A m c) (e : ∀ i, i < n → ∀ j, j < c → B' i j = B i j) : RowsIn B' n A m c := fun i hi => by
  obtain ⟨x, hx⟩ := h i hi
  exact ⟨x, fun j hj => (e i hi j hj).trans (hx j hj)⟩
theorem RowsIn.congr_right {A A' B : Mt} {n m c : Nat} (h : RowsIn B n A m c) (e : ∀ i, i < m → ∀ j, j < c → A' i j = A i j) : RowsIn B n A' m c := fun i hi => by
  obtain ⟨x, hx⟩ := h i hi
  exact ⟨x, fun j hj => (hx j hj).trans (sumF_congr fun k hk => by rw [e k hk j hj])⟩
/-- a matrix in form, as it comes -/
def FormOk (r c : Int) (l : Nat) : Prop := 0 ≤ r ∧ r ≤ 64 ∧ 0 ≤ c ∧ c ≤ 64 ∧ (l : Int) = r * c
set_option maxHeartbeats 1000000 in
theorem eliminated_bad (r c r2 q : Int) (l ca lb cb : Nat) (a b : Option Addr) (w : World) (s : Addr) (hs : w.cell? ⟨2, 0, none⟩ = some (errAt s)) (h : ¬ FormOk r c l) :
    Calls Tryd.prog 83 #[.agg #[.int .i64 r, .int .i64 c, .slice a l ca], .agg #[.int .i64 r2, .int .i64 q, .slice b lb cb]] w fun e w' =>
      e = .returned (.tuple #[.slice none 0 0, .slice none 0 0, errAt s]) ∧ Below w.heap.size w w' := by
  have H : Hid _ := h
  clear h
  have HS : Hid _ := cell?_alloc_old (.cells #[.int .i64 r2, .int .i64 q, .slice b lb cb] 65) (cell?_alloc_old (.cells #[.int .i64 r, .int .i64 c, .slice a l ca] 65) hs)
  clear hs
  unfold errAt at *
  go_enter Tryd.func83, Tryd.ntmps83
  go_wp2_with fail
  refine Calls.mono (check_bad r c a l ca _ _ HS.out H.out) ?_
  rintro e w1 ⟨rfl, hb1⟩
  have c9 := cell_later hb1 HS.out
  have HB1 : Hid (Below w.heap.size w w1) := (((Below.refl w.heap.size w).alloc (Nat.le_refl _) _).alloc (by simp) _).trans (hb1.mono (by simp; omega))
  clear hb1
  go_wp2
  go_region
  go_wp2
  refine bodyPost_ret (v := .tuple #[.slice none 0 0, .slice none 0 0, .iface 140 (.pointer (some s))]) (by simp [results, Tryd.results83, go_sem]) rfl ⟨rfl, HB1.out.drew⟩
set_option maxHeartbeats 1000000 in
theorem eliminated_odd (r c : Nat) (r2 q : Int) (l ca lb cb : Nat) (a b : Option Addr) (w : World) (s : Addr) (hs : w.cell? ⟨2, 0, none⟩ = some (errAt s)) (hr : r ≤ 64) (hc : c ≤ 64) (hl : l = r * c) (h : (r : Int) ≠ r2) :
    Calls Tryd.prog 83 #[.agg #[.int .i64 r, .int .i64 c, .slice a l ca], .agg #[.int .i64 r2, .int .i64 q, .slice b lb cb]] w fun e w' =>
      e = .returned (.tuple #[.slice none 0 0, .slice none 0 0, errAt s]) ∧ Below w.heap.size w w' := by
  have H : Hid _ := hl
  clear hl
  have HS : Hid _ := cell?_alloc_old (.cells #[.int .i64 r2, .int .i64 q, .slice b lb cb] 65) (cell?_alloc_old (.cells #[.int .i64 r, .int .i64 c, .slice a l ca] 65) hs)
  clear hs
  unfold errAt at *
  have hne : ((r : Int) != r2) = true := by simpa using h
  go_enter Tryd.func83, Tryd.ntmps83
  go_wp2_with fail
  refine Calls.mono (check_ok r c a l ca _ hr hc H.out) ?_
  rintro e w1 ⟨rfl, hb1⟩
  have hA := holds_later (holds_new (holds_new (holds_nil w) #[.int .i64 r, .int .i64 c, .slice a l ca] 65) #[.int .i64 r2, .int .i64 q, .slice b lb cb] 65) hb1
  rw [World.size_alloc] at hA
  have c1 := cellAt (holds_at hA 1 rfl) 0 _ rfl
  have c2 := cellAt (holds_at hA 0 rfl) 0 _ rfl
  have c9 := cell_later hb1 HS.out
  have HB1 : Hid (Below w.heap.size w w1) := (((Below.refl w.heap.size w).alloc (Nat.le_refl _) _).alloc (by simp) _).trans (hb1.mono (by simp; omega))
  clear hb1 hA
  go_wp2
  go_region
  go_wp2
  refine bodyPost_ret (v := .tuple #[.slice none 0 0, .slice none 0 0, .iface 140 (.pointer (some s))]) (by simp [results, Tryd.results83, go_sem]) rfl ⟨rfl, HB1.out.drew⟩
theorem rowsW_rows8 {w : World} {M n c : Nat} {f : Nat → Option Addr × Nat} {R : Mt} (h : RowsW w M n c f R) : Rows8 w (some ⟨M, 0, none⟩) ((List.range n).map fun k => rowF c (R k)) := by
  refine .inr ⟨M, 0, rfl, fun j x hx => ?_⟩
  simp only [List.getElem?_map, Option.map_eq_some_iff] at hx
  obtain ⟨i, hi, rfl⟩ := hx
  obtain ⟨hjk, hi2⟩ := List.getElem?_eq_some_iff.1 hi
  simp only [List.length_range] at hjk
  simp only [List.getElem_range] at hi2
  subst hi2
  refine ⟨(f j).1, (f j).2, ?_, (h.row j hjk).row8⟩
  rw [Nat.zero_add, rowF_len]
  exact cellAt h.blk j _ (slF_at hjk)
theorem cellF_tr {r c : Nat} {xs : List F} : ∀ i, i < c → ∀ j, j < r → cellF r (trM r c xs) i j = tr (cellF c xs) i j := fun i hi j hj => by
  simp only [cellF, tr, trM]; exact at8_grid hi hj
end Go.Proofs.YtmlpijlcpeoeaaaDoor

/- What Solve and Express of package solve answer, of all matrices and lists. -/
namespace Go.Proofs.YtmlpijlcpeoeaaaDoor
open Go.RowKit Gf
set_option linter.unusedVariables false
set_option maxRecDepth 20000
/-- the solution of a reduced matrix, as far as the first k pivots go -/
def solX (c : Nat) (p : List Nat) (R : Mt) (k : Nat) : List F := rowF c (onF (p.getD · 0) (fun i => R i c) k)
theorem solX_len (c : Nat) (p : List Nat) (R : Mt) (k : Nat) : (solX c p R k).length = c := rowF_len _ _
theorem solX_zero (c : Nat) (p : List Nat) (R : Mt) : zeros c = solX c p R 0 := rowF_eq (zeros_len _) fun j _ => at8_zeros _ _
theorem solX_step {c k j : Nat} {p : List Nat} (R : Mt) (hp : p.Pairwise (· < ·)) (hk : p[k]? = some j) (hj : j < c) : (solX c p R k).set j (R k c) = solX c p R (k + 1) := by
  have hkl := (List.getElem?_eq_some_iff.1 hk).1
  have hg : p.getD k 0 = j := by simp [List.getD, hk]
  refine rowF_eq (by rw [List.length_set, solX_len]) fun l hl => ?_
  have h1 : at8 (solX c p R k) l = onF (p.getD · 0) (fun i => R i c) k l := at8_rowF hl
  have h2 : at8 ((solX c p R k).set j (R k c)) l = if l = j then R k c else at8 (solX c p R k) l := by
    simp only [at8, List.getD, List.getElem?_set, solX_len]
    by_cases e : j = l
    · subst e; simp [hl]
    · simp [e, show ¬ l = j from fun h => e h.symm]
  rw [h2, h1]
  simp only [onF, sumF, hg]
  by_cases e : l = j
  · subst e
    rw [if_pos rfl, if_pos rfl, sumF_none, F.zero_add]
    intro i hi
    have hil : i < p.length := by omega
    have := List.pairwise_iff_getElem.1 hp i k hil hkl hi
    have e1 : p[k] = l := by rw [List.getElem?_eq_getElem hkl] at hk; exact Option.some.inj hk
    rw [if_neg]
    simp only [List.getD, List.getElem?_eq_getElem hil, Option.getD_some]
    omega
  · rw [if_neg e, if_neg (fun h => e h.symm), F.add_zero]
theorem natV_at {p : List Nat} {k j : Nat} (h : p[k]? = some j) : (natV p)[k]? = some (.int .i64 j) := by simp [natV, h]
/-- what Solve tells where there is a solution: the only one that is 0 off the pivots -/
structure SolOf (A : Mt) (r c : Nat) (v x : Nat → F) : Prop where
  sol : ∀ i, i < r → v i = sumF (fun l => gm (A i l) (x l)) c
  off : ∀ l, l < c → l ∉ pivL A r c → x l = 0
theorem SolOf.same {A : Mt} {r c : Nat} {v x y : Nat → F} (h : SolOf A r c v x) (k : SolOf A r c v y) : ∀ l, l < c → x l = y l :=
  sols_eq h.off k.off fun i hi => (h.sol i hi).symm.trans (k.sol i hi)
theorem own_nat {w : World} {B cp k j : Nat} {av : Option Addr} {p : List Nat} (ho : w.ownsRow B 3 1 (.slice av p.length cp) p.length (natV p)) (hk : p[k]? = some j) : ∃ g, av = some ⟨g, 0, none⟩ ∧ g < w.heap.size ∧ w.cell? ⟨g, k, none⟩ = some (.int .i64 j) := by
  have hkl := (List.getElem?_eq_some_iff.1 hk).1
  rcases ho.2 with ⟨e, e0⟩ | ⟨g, cap, cur, e, h1, h2, h3⟩
  · omega
  · cases e
    refine ⟨g, rfl, ltHeap h2, ?_⟩
    rw [ho.cellAt k (by omega), natV_at hk]
end Go.Proofs.YtmlpijlcpeoeaaaDoor

/- What Solve answers of lists of another length, and what Express answers. -/
namespace Go.Proofs.YtmlpijlcpeoeaaaDoor
open Go.RowKit Gf
set_option linter.unusedVariables false
set_option maxRecDepth 20000
theorem SolOf.congr {A B : Mt} {r c : Nat} {v x : Nat → F} (h : SolOf A r c v x) (e : ∀ i, i < r → ∀ j, j < c → A i j = B i j) : SolOf B r c v x :=
  ⟨fun i hi => (h.sol i hi).trans (sumF_congr fun l hl => by rw [e i hi l hl]), fun l hl hn => h.off l hl (by rw [pivL_congr e]; exact hn)⟩
theorem Dep.congr {A B : Mt} {n c : Nat} {b : Nat → F} (h : Dep A n c b) (e : ∀ i, i < n → ∀ j, j < c → A i j = B i j) : Dep B n c b := by
  obtain ⟨x, hx⟩ := h
  exact ⟨x, fun i hi => (hx i hi).trans (sumF_congr fun l hl => by rw [e i hi l hl])⟩
/-- the answer of Solve or Express where the arguments don't fit -/
def noSol (s : Addr) : Value := .tuple #[.slice none 0 0, .bool false, errAt s]
theorem FormOk.nat {r c : Int} {l : Nat} (h : FormOk r c l) : ∃ r' c' : Nat, r = r' ∧ c = c' ∧ r' ≤ 64 ∧ c' ≤ 64 ∧ l = r' * c' := by
  obtain ⟨h0, h1, h2, h3, h4⟩ := h
  obtain ⟨r', rfl⟩ := Int.eq_ofNat_of_zero_le h0
  obtain ⟨c', rfl⟩ := Int.eq_ofNat_of_zero_le h2
  exact ⟨r', c', rfl, rfl, by omega, by omega, by exact_mod_cast h4⟩
end Go.Proofs.YtmlpijlcpeoeaaaDoor

/- What Inverse of package solve answers, of all matrices. -/
namespace Go.Proofs.YtmlpijlcpeoeaaaDoor
open Go.RowKit Gf
set_option linter.unusedVariables false
set_option maxRecDepth 20000
def slX (n : Nat) (g : Nat → Value) : Array Value := ((List.range n).map g).toArray
theorem slX_size (n : Nat) (g : Nat → Value) : (slX n g).size = n := by simp [slX]
theorem slX_at {n k : Nat} {g : Nat → Value} (h : k < n) : (slX n g)[k]? = some (g k) := by simp [slX, h]
theorem slX_set {n k : Nat} {g : Nat → Value} (v : Value) (h : k < n) : (slX n g).setIfInBounds k v = slX n (fun x => if x = k then v else g x) := by
  apply Array.ext_getElem?
  intro i
  rw [Array.getElem?_setIfInBounds]
  by_cases hi : i < n
  · rw [slX_at hi, slX_at hi, slX_size]
    by_cases e : k = i
    · subst e; simp [hi]
    · simp [e, show ¬ i = k from fun h => e h.symm]
  · rw [Array.getElem?_eq_none (by rw [slX_size]; omega), Array.getElem?_eq_none (by rw [slX_size]; omega), slX_size]
    simp; omega
theorem augL_one {n : Nat} {xs : List F} : ∀ i, i < n → ∀ j, j < n + n → augL n n xs (oneM n) i j = augI n (cellF n xs) i j := fun i hi j hj => by
  simp only [augL, augI, cellF]
  by_cases h : j < n
  · rw [if_pos h, if_pos h]
  · rw [if_neg h, if_neg h, oneM, at8_grid hi (by omega)]
    by_cases e : i = j - n
    · rw [if_pos e, if_pos (by omega)]
    · rw [if_neg e, if_neg (by omega)]
theorem row8T_tail {w : World} {b off n c : Nat} {f : Nat → F} (h : Row8T w (some ⟨b, off, none⟩) (rowF (c + n) f)) (hn : 0 < n) : Row8T w (some ⟨b, off + c, none⟩) (rowF n fun j => f (c + j)) := by
  rcases h with e | ⟨b', off', cs, fr, e, hb, h⟩
  · have := congrArg List.length e
    rw [rowF_len] at this
    simp at this; omega
  · cases e
    refine .inr ⟨b, off + c, cs, fr, rfl, hb, fun j hj => ?_⟩
    rw [rowF_len] at hj
    have := h (c + j) (by rw [rowF_len]; omega)
    rw [at8_rowF (by omega)] at this
    rw [at8_rowF hj, Nat.add_assoc]
    exact this
/-- a matrix that undoes another one, on either side -/
structure InvOf (n : Nat) (A B : Mt) : Prop where
  right : ∀ i, i < n → ∀ j, j < n → mulF n A B i j = if i = j then 1 else 0
  left : ∀ i, i < n → ∀ j, j < n → mulF n B A i j = if i = j then 1 else 0
set_option maxHeartbeats 8000000 in
theorem inverse_F (n l cap : Nat) (a : Option Addr) (xs : List F) (w : World) (hn : n ≤ 64) (hl : l = n * n) (hx : xs.length = n * n) (hcap : l ≤ cap) (hX : Row8 w a xs) (hnil : a = none → cap = 0) (s : Addr) (hs : w.cell? ⟨3, 0, none⟩ = some (errAt s)) :
    Calls Tryd.prog 60 #[.agg #[.int .i64 n, .int .i64 n, .slice a l cap]] w fun e w' =>
      ((pivL (cellF n xs) n n).length = n ∧ ∃ g m Y, e = .returned (.tuple #[.agg #[.int .i64 n, .int .i64 n, .slice (some ⟨g, 0, none⟩) m m], .nilIface]) ∧ m = n * n ∧ w.heap.size ≤ g ∧ w'.heap[g]? = some (.cells (vfs (grid n Y n)) 5 (0, 0)) ∧ InvOf n (cellF n xs) Y ∧ Below w.heap.size w w') ∨
      ((pivL (cellF n xs) n n).length ≠ n ∧ e = .returned (.tuple #[.agg #[.int .i64 0, .int .i64 0, .slice none 0 0], errAt s]) ∧ Below w.heap.size w w') := by
  have HL : Hid _ := hl
  have HX : Hid _ := hx
  have HRX : Hid (Row8 w a xs) := hX
  have HNA : Hid _ := hnil
  have HS : Hid _ := hs
  have hlt0 := World.block_lt_of_cell? w _ hs
  simp at hlt0
  clear hl hx hX hnil hs
  go_enter Tryd.func60, Tryd.ntmps60
  go_wp2_with fail
  refine Calls.mono (one_F n _ hn) ?_
  rintro e w2 ⟨g1, n1, rfl, hn1, hg1, hh1, hb2⟩
  have hal := (((Below.refl w.heap.size w).alloc (Nat.le_refl _) (.cells #[.int .i64 n, .int .i64 n, .slice a l cap] 65)).alloc (by simp) (.cells #[.int .i64 0, .int .i64 0, .slice none 0 0] 65))
  have hA := holds_cons (holds_later (holds_new (holds_new (holds_nil w) #[.int .i64 n, .int .i64 n, .slice a l cap] 65) #[.int .i64 0, .int .i64 0, .slice none 0 0] 65) hb2) hh1
  rw [World.size_alloc] at hA
  have HW2 : Hid (Below w.heap.size w w2) := hal.trans (hb2.mono (by simp; omega))
  have hA := holds_new hA #[.int .i64 n, .int .i64 n, .slice (some ⟨g1, 0, none⟩) n1 n1] 65
  have HW3 : Hid (Below w.heap.size w (w2.alloc (.cells #[.int .i64 n, .int .i64 n, .slice (some ⟨g1, 0, none⟩) n1 n1] 65))) := HW2.out.alloc HW2.out.size _
  have hsz : w.heap.size + 2 ≤ w2.heap.size := by have := hb2.size; simpa using this
  have c1 := cellAt (holds_at hA 0 rfl) 0 _ rfl
  have c2 := cellAt (holds_at hA 0 rfl) 1 _ rfl
  have c3 := cellAt (holds_at hA 0 rfl) 2 _ rfl
  have c4 := cellAt (holds_at hA 3 rfl) 0 _ rfl
  have c5 := cellAt (holds_at hA 3 rfl) 1 _ rfl
  have c6 := cellAt (holds_at hA 3 rfl) 2 _ rfl
  have HA : Hid _ := hA
  have HN1 : Hid _ := hn1
  clear hn1 hh1 hb2 hA HW2 hal
  go_wp2_with fail
  refine Calls.mono (eliminated_F n n n l cap n1 n1 a (some ⟨g1, 0, none⟩) xs (oneM n) _ hn hn hn HL.out HX.out hcap (row8_below HRX.out HW3.out) HNA.out HN1.out (by simp [oneM, grid_len]) (Nat.le_refl _) (holds_row HA.out 1 rfl) (fun h => by cases h)) ?_
  rintro e w4 ⟨M, av, cv, p, f', R', rfl, hM, hown, hrw, hred, hin, hback, hb4⟩
  have hA := holds_later HA.out hb4
  have hp : p = pivL (cellF n xs) n n := (hred.eq hin hback (by omega)).trans (pivL_congr fun i hi j hj => by simp [augL, cellF, hj])
  have hin2 := RowsIn.congr_right hin (A' := augI n (cellF n xs)) fun i hi j hj => (augL_one i hi j hj).symm
  have hback2 := RowsIn.congr_left hback (B' := augI n (cellF n xs)) fun i hi j hj => (augL_one i hi j hj).symm
  have HP : Hid _ := hp
  have HRW : Hid _ := hrw
  have HRED : Hid _ := hred
  have HIN : Hid _ := hin2
  have HBACK : Hid _ := hback2
  have HA4 : Hid _ := hA
  have HW4 : Hid (Below w.heap.size w w4) := HW3.out.trans (hb4.mono HW3.out.size)
  have hM2 : w2.heap.size + 1 ≤ M := by simpa using hM
  have hplen := hred.len
  have c1' := cellAt (holds_at hA 3 rfl) 1 _ rfl
  have k1 := holds_at hA 2 rfl
  clear hA hown hrw hred hin hback hin2 hback2 hb4 hp c1 c2 c3 c4 c5 c6 hM
  by_cases hfull : p.length = n
  · have HFULL : Hid _ := hfull
    rw [hfull]
    clear hfull
    go_wp2
    go_loopw [40] (fun i wr => ∃ (k : Nat) (g : Nat → Value), k ≤ n ∧ i = .int .i64 k ∧ w4.grownBy wr (some M) ∧ wr.heap[M]? = some (.cells (slX n g) 22 (0, 0)) ∧
      (∀ x, x < k → ∃ a' cap', g x = .slice a' n cap' ∧ Row8T wr a' (rowF n fun j => R' x (n + j))) ∧ ∀ x, k ≤ x → x < n → g x = .slice (f' x).1 (n + n) (f' x).2) (fun i _ => n - (intOf i).toNat)
    case atStart => exact ⟨0, fun x => .slice (f' x).1 (n + n) (f' x).2, by omega, rfl, World.grownBy.refl _ _, HRW.out.blk, fun x h => by omega, fun x _ _ => rfl⟩
    case round =>
      obtain ⟨k, g, hk, rfl, hgb, hs, hdone, hrest⟩ := hrel
      have HGB : Hid _ := hgb
      have HSS : Hid _ := hs
      have HDONE : Hid _ := hdone
      have HREST : Hid _ := hrest
      have zM := ltHeap HRW.out.blk
      have z0 := ltHeap (holds_at HA4.out 3 rfl)
      have c2 := cellAt (grown_block hgb (holds_at HA4.out 3 rfl) (by omega)) 1 _ rfl
      by_cases hlt : k < n
      · have c3 := cellAt hs k _ (slX_at hlt)
        rw [hrest k (Nat.le_refl _) hlt] at c3
        obtain ⟨bo, oo, mo, hfo, hmo, hboM, hbo, _, _⟩ := HRW.out.get hlt (show 0 < n + n by omega)
        rw [hfo] at c3
        have d3 : wr.frozen? ⟨M, k, none⟩ = false := frozen_of_row _ _ _ _ _ hs
        have HFO : Hid _ := hfo
        have hmn : n < mo := by omega
        have hNE : NoElems wr (some M) := noElems_some hs (by decide)
        have hgS : wr.grownBy (wr.setCell ⟨M, k, none⟩ (.slice (some ⟨bo, oo + n, none⟩) n (mo - n))) (some M) := grownBy_setCell (World.grownBy.refl _ _) _
        have hrow := row8T_grown (HRW.out.row k hlt) hgb (noElems_some HRW.out.blk (by decide))
        rw [hfo] at hrow
        have HROW : Hid _ := row8T_grown (row8T_tail hrow (by omega)) hgS hNE
        have HS1 : Hid ((wr.setCell ⟨M, k, none⟩ (.slice (some ⟨bo, oo + n, none⟩) n (mo - n))).heap[M]? = some (.cells (slX n fun x => if x = k then .slice (some ⟨bo, oo + n, none⟩) n (mo - n) else g x) 22 (0, 0))) := by
          show _ = _
          rw [heap_setCell_same _ _ _ _ _ _ hs, slX_set _ hlt]
        have HGS : Hid _ := hgS
        have HNE : Hid _ := hNE
        clear hgb hs hdone hrest hfo hgS hNE hrow
        go_wp2
        refine ⟨⟨k + 1, _, by omega, by go_num, grownBy_setCell HGB.out _, HS1.out, fun x hx => ?_, fun x h1 h2 => ?_⟩, by simp [intOf]; omega⟩
        · by_cases e : x = k
          · subst e
            rw [if_pos rfl]
            exact ⟨_, _, rfl, HROW.out⟩
          · rw [if_neg e]
            obtain ⟨a', cap', h1, h2⟩ := HDONE.out x (by omega)
            exact ⟨a', cap', h1, row8T_grown h2 HGS.out HNE.out⟩
        · show (if x = k then _ else g x) = _
          rw [if_neg (by omega)]
          exact HREST.out x (by omega) h2
      · obtain rfl : k = n := by omega
        have hW : Below w.heap.size w wr := below_grown HW4.out hgb (by omega)
        have HW5 : Hid _ := hW
        have hA5 : Holds wr [(w.heap.size + 1, .cells #[.int .i64 0, .int .i64 0, .slice none 0 0] 65 (0, 0))] := holds_cons (holds_nil _) (grown_block hgb (holds_at HA4.out 2 rfl) (by omega))
        have HA5 : Hid _ := hA5
        clear hgb hs hdone hrest hA5 hW
        have HR8 : Hid (Rows8 wr (some ⟨M, 0, none⟩) ((List.range k).map fun x => rowF k fun j => R' x (k + j))) := .inr ⟨M, 0, rfl, fun j x hx => by
          simp only [List.getElem?_map, Option.map_eq_some_iff] at hx
          obtain ⟨i, hi, rfl⟩ := hx
          obtain ⟨hjk, hi2⟩ := List.getElem?_eq_some_iff.1 hi
          simp only [List.length_range] at hjk
          simp only [List.getElem_range] at hi2
          subst hi2
          obtain ⟨a', cap', h1, h2⟩ := HDONE.out j hjk
          refine ⟨a', cap', ?_, h2.row8⟩
          rw [Nat.zero_add, rowF_len, ← h1]
          exact cellAt HSS.out j _ (slX_at hjk)⟩
        go_wp2_with fail
        refine Calls.mono (of_F k k k _ ((List.range k).map fun x => rowF k fun j => R' x (k + j)) _ hn (by simp) hn (fun x hx => ?_) HR8.out) ?_
        · obtain ⟨i, _, rfl⟩ := List.mem_map.1 hx
          exact rowF_len _ _
        rintro e w5 ⟨g5, m5, rfl, hm5, hg5, hh5, hb5⟩
        rw [← grid_flat k (fun x j => R' x (k + j))] at hh5
        have k1 := holds_at (holds_later HA5.out hb5) 0 rfl
        have c4 := cellAt k1 0 _ rfl
        have c5 := cellAt k1 1 _ rfl
        have c6 := cellAt k1 2 _ rfl
        have d4 : w5.frozen? ⟨w.heap.size + 1, 0, none⟩ = false := frozen_of_row _ _ _ _ _ k1
        have d5 : w5.frozen? ⟨w.heap.size + 1, 1, none⟩ = false := frozen_of_row _ _ _ _ _ k1
        have d6 : w5.frozen? ⟨w.heap.size + 1, 2, none⟩ = false := frozen_of_row _ _ _ _ _ k1
        have hgw : w.heap.size + 1 < g5 := by have := ltHeap (holds_at HA5.out 0 rfl); omega
        have HW6 : Hid (Below w.heap.size w w5) := HW5.out.trans (hb5.mono HW5.out.size)
        have HH5 : Hid _ := hh5
        have HM5 : Hid _ := hm5
        clear hh5 hm5 hb5 hg5 k1 c2
        go_wp2
        refine bodyPost_ret (v := .tuple #[.agg #[.int .i64 k, .int .i64 k, .slice (some ⟨g5, 0, none⟩) m5 m5], .nilIface]) (by simp [results, Tryd.results60, go_sem, c4, c5, c6]) rfl ?_
        refine .inl ⟨by rw [← HP.out]; exact HFULL.out, g5, m5, fun x j => R' x (k + j), rfl, HM5.out, by omega, ?_, ⟨inv_right HRED.out HFULL.out HBACK.out, inv_left HRED.out HFULL.out HIN.out⟩, ?_⟩
        · rw [heap_setCell_other _ _ _ _ (by show g5 ≠ w.heap.size + 1; omega), heap_setCell_other _ _ _ _ (by show g5 ≠ w.heap.size + 1; omega), heap_setCell_other _ _ _ _ (by show g5 ≠ w.heap.size + 1; omega)]
          exact HH5.out
        · exact ((HW6.out.setCell (by simp) _).setCell (by simp) _).setCell (by simp) _
  · have hlt : p.length < n := by omega
    have c4 := cellAt k1 0 _ rfl
    have c5 := cellAt k1 1 _ rfl
    have c6 := cellAt k1 2 _ rfl
    have d4 : w4.frozen? ⟨w.heap.size + 1, 0, none⟩ = false := frozen_of_row _ _ _ _ _ k1
    have d5 : w4.frozen? ⟨w.heap.size + 1, 1, none⟩ = false := frozen_of_row _ _ _ _ _ k1
    have d6 : w4.frozen? ⟨w.heap.size + 1, 2, none⟩ = false := frozen_of_row _ _ _ _ _ k1
    have c9 := cell_later HW4.out HS.out
    have HNF : Hid _ := hfull
    unfold errAt at *
    clear hfull k1
    go_wp2
    go_region
    go_wp2
    refine bodyPost_ret (v := .tuple #[.agg #[.int .i64 0, .int .i64 0, .slice none 0 0], .iface 140 (.pointer (some s))]) (by simp [results, Tryd.results60, go_sem, c4, c5, c6]) rfl ?_
    exact .inr ⟨by rw [← HP.out]; exact HNF.out, rfl, (((HW4.out.setCell (by simp) _).setCell (by simp) _).setCell (by simp) _).drew⟩
set_option maxHeartbeats 2000000 in
theorem inverse_bad (r c : Int) (l cap : Nat) (a : Option Addr) (w : World) (s : Addr) (hs : w.cell? ⟨2, 0, none⟩ = some (errAt s)) (h : ¬ (FormOk r c l ∧ r = c)) :
    Calls Tryd.prog 60 #[.agg #[.int .i64 r, .int .i64 c, .slice a l cap]] w fun e w' => e = .returned (.tuple #[.agg #[.int .i64 0, .int .i64 0, .slice none 0 0], errAt s]) ∧ Below w.heap.size w w' := by
  have H : Hid _ := h
  have hlt0 := World.block_lt_of_cell? w _ hs
  simp at hlt0
  have HS : Hid _ := cell?_alloc_old (.cells #[.int .i64 0, .int .i64 0, .slice none 0 0] 65) (cell?_alloc_old (.cells #[.int .i64 r, .int .i64 c, .slice a l cap] 65) hs)
  have hal := (((Below.refl w.heap.size w).alloc (Nat.le_refl _) (.cells #[.int .i64 r, .int .i64 c, .slice a l cap] 65)).alloc (by simp) (.cells #[.int .i64 0, .int .i64 0, .slice none 0 0] 65))
  clear h hs
  by_cases hc : 0 ≤ c ∧ c ≤ 64
  · obtain ⟨h0, h1⟩ := hc
    obtain ⟨n, rfl⟩ := Int.eq_ofNat_of_zero_le h0
    go_enter Tryd.func60, Tryd.ntmps60
    go_wp2_with fail
    refine Calls.mono (one_F n _ (by omega)) ?_
    rintro e w2 ⟨g1, n1, rfl, hn1, hg1, hh1, hb2⟩
    have hA := holds_cons (holds_later (holds_new (holds_new (holds_nil w) #[.int .i64 r, .int .i64 n, .slice a l cap] 65) #[.int .i64 0, .int .i64 0, .slice none 0 0] 65) hb2) hh1
    rw [World.size_alloc] at hA
    have HW2 : Hid (Below w.heap.size w w2) := hal.trans (hb2.mono (by simp; omega))
    have hA := holds_new hA #[.int .i64 n, .int .i64 n, .slice (some ⟨g1, 0, none⟩) n1 n1] 65
    have HW3 : Hid (Below w.heap.size w (w2.alloc (.cells #[.int .i64 n, .int .i64 n, .slice (some ⟨g1, 0, none⟩) n1 n1] 65))) := HW2.out.alloc HW2.out.size _
    have hsz : w.heap.size + 2 ≤ w2.heap.size := by have := hb2.size; simpa using this
    have c1 := cellAt (holds_at hA 0 rfl) 0 _ rfl
    have c2 := cellAt (holds_at hA 0 rfl) 1 _ rfl
    have c3 := cellAt (holds_at hA 0 rfl) 2 _ rfl
    have c4 := cellAt (holds_at hA 3 rfl) 0 _ rfl
    have c5 := cellAt (holds_at hA 3 rfl) 1 _ rfl
    have c6 := cellAt (holds_at hA 3 rfl) 2 _ rfl
    have HA : Hid _ := hA
    have HS3 : Hid _ := cell?_alloc_old (.cells #[.int .i64 n, .int .i64 n, .slice (some ⟨g1, 0, none⟩) n1 n1] 65) (cell_later hb2 HS.out)
    have HE : Hid (Calls Tryd.prog 83 #[.agg #[.int .i64 r, .int .i64 n, .slice a l cap], .agg #[.int .i64 n, .int .i64 n, .slice (some ⟨g1, 0, none⟩) n1 n1]] (w2.alloc (.cells #[.int .i64 n, .int .i64 n, .slice (some ⟨g1, 0, none⟩) n1 n1] 65)) fun e w' =>
        e = .returned (.tuple #[.slice none 0 0, .slice none 0 0, errAt s]) ∧ Below (w2.alloc (.cells #[.int .i64 n, .int .i64 n, .slice (some ⟨g1, 0, none⟩) n1 n1] 65)).heap.size (w2.alloc (.cells #[.int .i64 n, .int .i64 n, .slice (some ⟨g1, 0, none⟩) n1 n1] 65)) w') := by
      by_cases hf : FormOk r n l
      · obtain ⟨r', c', rfl, hc, h1, h2, h3⟩ := hf.nat
        have hc : n = c' := by omega
        subst hc
        exact eliminated_odd r' n n n l cap n1 n1 a _ _ s HS3.out h1 h2 h3 (fun e => H.out ⟨hf, e⟩)
      · exact eliminated_bad r n n n l cap n1 n1 a _ _ s HS3.out hf
    clear hn1 hh1 hb2 hA HW2 hal H
    go_wp2_with fail
    refine Calls.mono HE.out ?_
    rintro e w4 ⟨rfl, hb4⟩
    have k1 := holds_at (holds_later HA.out hb4) 2 rfl
    have HW4 : Hid (Below w.heap.size w w4) := HW3.out.trans (hb4.mono HW3.out.size)
    have b4 := cellAt k1 0 _ rfl
    have b5 := cellAt k1 1 _ rfl
    have b6 := cellAt k1 2 _ rfl
    have d4 : w4.frozen? ⟨w.heap.size + 1, 0, none⟩ = false := frozen_of_row _ _ _ _ _ k1
    have d5 : w4.frozen? ⟨w.heap.size + 1, 1, none⟩ = false := frozen_of_row _ _ _ _ _ k1
    have d6 : w4.frozen? ⟨w.heap.size + 1, 2, none⟩ = false := frozen_of_row _ _ _ _ _ k1
    unfold errAt at *
    clear k1 hb4 c1 c2 c3 c4 c5 c6 HE
    go_wp2
    refine bodyPost_ret (v := .tuple #[.agg #[.int .i64 0, .int .i64 0, .slice none 0 0], .iface 140 (.pointer (some s))]) (by simp [results, Tryd.results60, go_sem, b4, b5, b6]) rfl ?_
    exact ⟨rfl, ((HW4.out.setCell (by simp) _).setCell (by simp) _).setCell (by simp) _⟩
  · have HC : Hid _ := hc
    clear hc H
    go_enter Tryd.func60, Tryd.ntmps60
    go_wp2_with fail
    refine Calls.mono (one_bad c _ s HS.out HC.out) ?_
    rintro e w2 ⟨rfl, hb2⟩
    have hA := holds_later (holds_new (holds_new (holds_nil w) #[.int .i64 r, .int .i64 c, .slice a l cap] 65) #[.int .i64 0, .int .i64 0, .slice none 0 0] 65) hb2
    rw [World.size_alloc] at hA
    have HW2 : Hid (Below w.heap.size w w2) := hal.trans (hb2.mono (by simp; omega))
    have hA := holds_alloc hA (.cells #[.int .i64 0, .int .i64 0, .slice none 0 0] 65)
    have k1 := holds_at hA 0 rfl
    have b4 := cellAt k1 0 _ rfl
    have b5 := cellAt k1 1 _ rfl
    have b6 := cellAt k1 2 _ rfl
    have d4 : (w2.alloc (.cells #[.int .i64 0, .int .i64 0, .slice none 0 0] 65)).frozen? ⟨w.heap.size + 1, 0, none⟩ = false := frozen_of_row _ _ _ _ _ k1
    have d5 : (w2.alloc (.cells #[.int .i64 0, .int .i64 0, .slice none 0 0] 65)).frozen? ⟨w.heap.size + 1, 1, none⟩ = false := frozen_of_row _ _ _ _ _ k1
    have d6 : (w2.alloc (.cells #[.int .i64 0, .int .i64 0, .slice none 0 0] 65)).frozen? ⟨w.heap.size + 1, 2, none⟩ = false := frozen_of_row _ _ _ _ _ k1
    have HW3 : Hid (Below w.heap.size w (w2.alloc (.cells #[.int .i64 0, .int .i64 0, .slice none 0 0] 65))) := HW2.out.alloc HW2.out.size _
    unfold errAt at *
    clear hA k1 hb2
    go_wp2
    refine bodyPost_ret (v := .tuple #[.agg #[.int .i64 0, .int .i64 0, .slice none 0 0], .iface 140 (.pointer (some s))]) (by simp [results, Tryd.results60, go_sem, b4, b5, b6]) rfl ?_
    exact ⟨rfl, ((HW3.out.setCell (by simp) _).setCell (by simp) _).setCell (by simp) _⟩
end Go.Proofs.YtmlpijlcpeoeaaaDoor
