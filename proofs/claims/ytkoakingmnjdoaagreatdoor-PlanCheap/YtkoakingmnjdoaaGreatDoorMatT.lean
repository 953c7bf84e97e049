/- What Transpose of package mat answers, of every matrix in form. -/
import Derived.Test.YtkoakingmnjdoaaGreatDoorMatA
namespace Go.Proofs.YtkoakingmnjdoaaGreatDoor
open Go.RowKit Gf
set_option linter.unusedVariables false
set_option maxRecDepth 20000
/-- transposed as far as row i, place j -/
def trP (r c : Nat) (xs : List F) (i j : Nat) : List F := grid r (fun b a => if a < i ∨ a = i ∧ b < j then at8 xs (a * c + b) else 0) c
theorem trP_len (r c : Nat) (xs : List F) (i j : Nat) : (trP r c xs i j).length = c * r := grid_len _ _ _
theorem trP_zero (r c : Nat) (xs : List F) : zeros (c * r) = trP r c xs 0 0 := by
  rw [zeros_grid]; exact grid_congr fun b a _ _ => by rw [if_neg (by omega)]
theorem trP_done (r c : Nat) (xs : List F) : trP r c xs r 0 = trM r c xs := grid_congr fun b a _ h => by rw [if_pos (by omega)]
theorem trP_row (r c : Nat) (xs : List F) (i : Nat) : trP r c xs i c = trP r c xs (i + 1) 0 := grid_congr fun b a h _ => by
  by_cases e : a < i + 1
  · rw [if_pos (by omega), if_pos (by omega)]
  · rw [if_neg (by omega), if_neg (by omega)]
theorem trP_step {r c : Nat} {xs : List F} {i j : Nat} (hi : i < r) (hj : j < c) : (trP r c xs i j).set (j * r + i) (at8 xs (i * c + j)) = trP r c xs i (j + 1) := by
  rw [trP, grid_set hj hi]
  refine grid_congr fun b a hb ha => ?_
  by_cases e : b = j ∧ a = i
  · rw [if_pos e, if_pos (by omega), e.1, e.2]
  · rw [if_neg e]
    by_cases e2 : a < i ∨ a = i ∧ b < j
    · rw [if_pos e2, if_pos (by omega)]
    · rw [if_neg e2, if_neg (by omega)]
set_option maxHeartbeats 1000000 in
theorem transpose_F (r c l cap : Nat) (a : Option Addr) (xs : List F) (w : World) (hr : r ≤ 64) (hc : c ≤ 64) (hl : l = r * c) (hx : xs.length = r * c) (hcap : l ≤ cap) (hX : Row8 w a xs) :
    Calls Tryz.prog 117 #[.agg #[.int .i64 r, .int .i64 c, .slice a l cap]] w fun e w' => ∃ g n, e = .returned (.tuple #[.agg #[.int .i64 c, .int .i64 r, .slice (some ⟨g, 0, none⟩) n n], .nilIface]) ∧ n = c * r ∧ w.heap.size ≤ g ∧
      w'.heap[g]? = some (.cells (vfs (trM r c xs)) 5 (0, 0)) ∧ Below w.heap.size w w' := by
  have HL : Hid _ := hl
  have HX : Hid _ := hx
  have HR : Hid (Row8 w a xs) := hX
  clear hl hx hX
  go_enter Tryz.func117, Tryz.ntmps117
  go_wp2_with fail
  refine Calls.mono (check_ok r c a l cap _ hr hc HL.out) ?_
  rintro e w1 ⟨rfl, hb1⟩
  obtain ⟨q1, q2⟩ := bcell hb1
  have z1 := hb1.size
  simp only [World.size_alloc] at z1
  go_wp2_with fail
  refine Calls.mono (zero_F c r _ hc hr) ?_
  rintro e w2 ⟨g, n, rfl, hn, hg, hh, hb2⟩
  obtain ⟨q3, q4⟩ := bcell hb2
  have z2 := hb2.size
  have z3 : w.heap.size < w1.heap.size := by omega
  have z4 : w.heap.size < w2.heap.size := by omega
  have z5 : w.heap.size + 1 < w2.heap.size := by omega
  have zg : g < w2.heap.size := (Array.getElem?_eq_some_iff.1 hh).1
  have HB : Below w.heap.size w w2 := (((Below.refl w.heap.size w).alloc (Nat.le_refl _) _).alloc (by simp) _).trans ((hb1.trans (hb2.mono (by simpa using z1))).mono (by simp; omega))
  have HN : Hid _ := hn
  have HG : Hid _ := hh
  have HB' : Hid (Below w.heap.size w w2) := HB
  clear hn hh HB
  go_wp2
  have B2 : Hid _ := heap_alloc_last w2 (.cells #[.int .i64 c, .int .i64 r, .slice (some ⟨g, 0, none⟩) n n] 73)
  have B0 : Hid ((w2.alloc (.cells #[.int .i64 c, .int .i64 r, .slice (some ⟨g, 0, none⟩) n n] 73)).heap[w.heap.size]? = some (.cells #[.int .i64 r, .int .i64 c, .slice a l cap] 73 (0, 0))) :=
    (Below.heap_alloc _ _ _ z4).trans ((hb2.block _ z3).trans ((hb1.block _ (by simp; omega)).trans (heap_alloc2_old w _ _)))
  have B1 : Hid ((w2.alloc (.cells #[.int .i64 c, .int .i64 r, .slice (some ⟨g, 0, none⟩) n n] 73)).heap[w.heap.size + 1]? = some (.cells #[.int .i64 0, .int .i64 0, .slice none 0 0] 73 (0, 0))) :=
    (Below.heap_alloc _ _ _ z5).trans ((hb2.block _ (by omega)).trans ((hb1.block _ (by simp)).trans (heap_alloc2_new w _ _)))
  have B3 : Hid ((w2.alloc (.cells #[.int .i64 c, .int .i64 r, .slice (some ⟨g, 0, none⟩) n n] 73)).heap[g]? = some (.cells (vfs (zeros (c * r))) 5 (0, 0))) := (Below.heap_alloc _ _ _ zg).trans HG.out
  have B4 : Hid (Below w.heap.size w (w2.alloc (.cells #[.int .i64 c, .int .i64 r, .slice (some ⟨g, 0, none⟩) n n] 73))) := HB'.out.alloc (by omega) _
  clear hb1 hb2 q1 q2 q3 q4 z3 HG HB'
  generalize hM : w2.heap.size = M at *
  generalize (w2.alloc (.cells #[.int .i64 c, .int .i64 r, .slice (some ⟨g, 0, none⟩) n n] 73)) = W3 at *
  clear hM
  go_loopw [30] (fun i wr => ∃ k : Nat, k ≤ r ∧ i = .int .i64 k ∧ W3.grownBy wr (some g) ∧ wr.heap[g]? = some (.cells (vfs (trP r c xs k 0)) 5 (0, 0))) (fun i _ => r - (intOf i).toNat)
  case atStart => exact ⟨0, by omega, rfl, World.grownBy.refl _ _, by rw [← trP_zero]; exact B3.out⟩
  case round =>
    obtain ⟨k, hk, rfl, hgb, hs⟩ := hrel
    by_cases hlt : k < r
    · have k0 := grown_block hgb B0.out (by omega)
      have c0 := cellAt k0 0 _ rfl
      have c1 := cellAt k0 1 _ rfl
      have c2 := cellAt k0 2 _ rfl
      have HGB : Hid _ := hgb
      have HS : Hid _ := hs
      clear k0 hgb hs
      go_wp2_with fail
      refine Calls.mono (rowOf_F r c k l cap a xs w _ hr hc hlt HL.out HX.out hcap HR.out) ?_
      rintro e w4 ⟨a', cap', rfl, hr4, hc4, hb4⟩
      have HGB4 : Hid _ := grown_below HGB.out hb4
      have HS4 : Hid _ := heap_later HS.out hb4
      have HR4 : Hid _ := hr4
      clear c0 c1 c2 HGB HS hb4 hr4
      go_wp2
      go_loopw [37] (fun i wr => ∃ j : Nat, j ≤ c ∧ i = .int .i64 j ∧ W3.grownBy wr (some g) ∧ wr.heap[g]? = some (.cells (vfs (trP r c xs k j)) 5 (0, 0))) (fun i _ => c - (intOf i).toNat)
      case atStart => exact ⟨0, by omega, rfl, HGB4.out, HS4.out⟩
      case round =>
        obtain ⟨j, hj, rfl, hgb, hs⟩ := hrel
        by_cases hlj : j < c
        · obtain ⟨b', off', rfl, hbl, hcl⟩ := row8_cell HR4.out (show j < _ by rw [rowAt_len HX.out hlt]; exact hlj)
          have c0 := (below_grown B4.out hgb (by omega)).cell (p := ⟨b', off' + j, none⟩) hbl
          rw [hcl j (by rw [rowAt_len HX.out hlt]; exact hlj), at8_rowAt hlj] at c0
          have k0 := grown_block hgb B2.out (by omega)
          have c1 := cellAt k0 0 _ rfl
          have c2 := cellAt k0 1 _ rfl
          have c3 := cellAt k0 2 _ rfl
          have HGB : Hid _ := hgb
          have HS : Hid _ := hs
          clear k0 hgb hs hcl
          go_wp2_with fail
          refine Calls.mono (rowOf_some c r j g 0 n n _ hc hr hlj HN.out (Nat.le_refl _)) ?_
          rintro e w5 ⟨rfl, hb5⟩
          have hp := place_lt (c := r) hlj hlt
          have hro : rof 0 (j * r) n = j * r := by rw [rof_room (by rw [HN.out]; omega), Nat.zero_add]
          have hs5 := heap_later HS.out hb5
          have c4 : w5.cell? ⟨g, j * r + k, none⟩ = some (.int .u8 ((at8 (trP r c xs k j) (j * r + k)).toNat : Int)) := cellAt hs5 _ _ (vfs_get _ _ (by rw [trP_len]; exact hp))
          have c5 : w5.frozen? ⟨g, j * r + k, none⟩ = false := frozen_of_row _ _ _ _ _ hs5
          have HS5 : Hid _ := hs5
          have HGB5 : Hid _ := grown_below HGB.out hb5
          have HT : Hid _ := trP_step (xs := xs) hlt hlj
          have hm : j * r + k < n := by rw [HN.out]; exact hp
          clear hs5 hb5 c0 c1 c2 c3
          rw [hro]
          go_wp2
          refine ⟨⟨j + 1, by omega, by go_num, grownBy_setCell HGB5.out _, ?_⟩, by simp [intOf]; omega⟩
          rw [heap_setCell_same _ _ _ _ _ _ HS5.out, vfs_set, HT.out]
        · have e : j = c := by omega
          subst e
          rw [trP_row] at hs
          have HGB : Hid _ := hgb
          have HS : Hid _ := hs
          clear hgb hs
          go_wp2
          exact ⟨⟨k + 1, by omega, by go_num, HGB.out, HS.out⟩, by simp [intOf]; omega⟩
    · have e : k = r := by omega
      subst e
      rw [trP_done] at hs
      have k0 := grown_block hgb B2.out (by omega)
      have c1 := cellAt k0 0 _ rfl
      have c2 := cellAt k0 1 _ rfl
      have c3 := cellAt k0 2 _ rfl
      have k1 := grown_block hgb B1.out (by omega)
      have c4 := cellAt k1 0 _ rfl
      have c5 := cellAt k1 1 _ rfl
      have c6 := cellAt k1 2 _ rfl
      have d4 : wr.frozen? ⟨w.heap.size + 1, 0, none⟩ = false := frozen_of_row _ _ _ _ _ k1
      have d5 : wr.frozen? ⟨w.heap.size + 1, 1, none⟩ = false := frozen_of_row _ _ _ _ _ k1
      have d6 : wr.frozen? ⟨w.heap.size + 1, 2, none⟩ = false := frozen_of_row _ _ _ _ _ k1
      have HGB : Hid _ := hgb
      have HS : Hid _ := hs
      have HK : Hid _ := k1
      clear k0 k1 hgb hs
      go_wp2
      refine bodyPost_ret (v := .tuple #[.agg #[.int .i64 c, .int .i64 k, .slice (some ⟨g, 0, none⟩) n n], .nilIface]) (by simp [results, Tryz.results117, go_sem, c4, c5, c6]) rfl ⟨g, n, rfl, HN.out, by omega, ?_, ?_⟩
      · rw [heap_setCell_other _ _ _ _ (by show g ≠ w.heap.size + 1; omega), heap_setCell_other _ _ _ _ (by show g ≠ w.heap.size + 1; omega), heap_setCell_other _ _ _ _ (by show g ≠ w.heap.size + 1; omega)]
        exact HS.out
      · exact (((below_grown B4.out HGB.out (by omega)).setCell (by simp) _).setCell (by simp) _).setCell (by simp) _
set_option maxHeartbeats 400000 in
theorem transpose_bad (r c : Int) (a : Option Addr) (l cap : Nat) (w : World) (s : Addr) (hs : w.cell? ⟨4, 0, none⟩ = some (errAt s)) (h : ¬ (0 ≤ r ∧ r ≤ 64 ∧ 0 ≤ c ∧ c ≤ 64 ∧ (l : Int) = r * c)) :
    Calls Tryz.prog 117 #[.agg #[.int .i64 r, .int .i64 c, .slice a l cap]] w fun e w' => e = .returned (.tuple #[.agg #[.int .i64 0, .int .i64 0, .slice none 0 0], errAt s]) ∧ Below w.heap.size w w' := by
  have hs1 := fun o1 o2 => cell?_alloc_old o2 (cell?_alloc_old o1 hs)
  have H : Hid _ := h
  have HS : Hid _ := hs1
  clear hs h hs1
  unfold errAt at *
  go_enter Tryz.func117, Tryz.ntmps117
  go_wp2_with fail
  refine Calls.mono (check_bad r c a l cap _ _ (HS.out _ _) H.out) ?_
  rintro e w1 ⟨rfl, hb1⟩
  have k1 := heap_later (heap_alloc2_new w (.cells #[.int .i64 r, .int .i64 c, .slice a l cap] 73) (.cells #[.int .i64 0, .int .i64 0, .slice none 0 0] 73)) hb1
  have c4 := cellAt k1 0 _ rfl
  have c5 := cellAt k1 1 _ rfl
  have c6 := cellAt k1 2 _ rfl
  have d4 : w1.frozen? ⟨w.heap.size + 1, 0, none⟩ = false := frozen_of_row _ _ _ _ _ k1
  have d5 : w1.frozen? ⟨w.heap.size + 1, 1, none⟩ = false := frozen_of_row _ _ _ _ _ k1
  have d6 : w1.frozen? ⟨w.heap.size + 1, 2, none⟩ = false := frozen_of_row _ _ _ _ _ k1
  have HB1 : Hid (Below w.heap.size w w1) := (((Below.refl w.heap.size w).alloc (Nat.le_refl _) _).alloc (by simp) _).trans (hb1.mono (by simp; omega))
  clear hb1 k1
  go_wp2
  refine bodyPost_ret (v := .tuple #[.agg #[.int .i64 0, .int .i64 0, .slice none 0 0], .iface 191 (.pointer (some s))]) (by simp [results, Tryz.results117, go_sem, c4, c5, c6]) rfl ⟨rfl, ?_⟩
  exact ((HB1.out.setCell (by simp) _).setCell (by simp) _).setCell (by simp) _
end Go.Proofs.YtkoakingmnjdoaaGreatDoor
