/- The document's own Transpose of package mat's chapter, as the program walks it. -/
import Derived.Test.YtkmlanolaogaiaaDoorRef2
import Derived.Test.YtkmlanolaogaiaaDoorMatT
import Derived.BigRegion
namespace Go.Proofs.YtkmlanolaogaiaaDoor
open Go.RowKit Gf
set_option linter.unusedVariables false
set_option maxRecDepth 20000
set_option maxHeartbeats 2000000 in
theorem rtranspose_F (r c la ca : Nat) (a : Option Addr) (xs : List F) (w : World) (hr : r ≤ 64) (hc : c ≤ 64) (hla : la = r * c) (hx : xs.length = r * c) (hca : la ≤ ca) (hX : Row8 w a xs) :
    Calls Tryd.prog 15 #[.agg #[.int .i64 r, .int .i64 c, .slice a la ca]] w fun e w' => ∃ g m, e = .returned (.agg #[.int .i64 c, .int .i64 r, .slice (some ⟨g, 0, none⟩) m m]) ∧ m = c * r ∧ w.heap.size ≤ g ∧
      w'.heap[g]? = some (.cells (vfs (trM r c xs)) 5 (0, 0)) ∧ Below w.heap.size w w' := by
  have HLA : Hid _ := hla
  have HX : Hid _ := hx
  have HRX : Hid (Row8 w a xs) := hX
  clear hla hx hX
  go_enter Tryd.func15, Tryd.ntmps15
  go_wp2_with fail
  refine Calls.mono (rzero_F c r _ hc hr) ?_
  rintro e w2 ⟨g, m, rfl, hm, hg, hh, hb2⟩
  have hA := holds_later (holds_new (holds_new (holds_nil w) #[.int .i64 r, .int .i64 c, .slice a la ca] 24) #[.int .i64 0, .int .i64 0, .slice none 0 0] 24) hb2
  rw [World.size_alloc] at hA
  have z0 := ltHeap (holds_at hA 0 rfl)
  have zg : g < w2.heap.size := ltHeap hh
  simp only [World.size_alloc] at hg
  have HM : Hid _ := hm
  have HB' : Hid (Below w.heap.size w w2) := (((Below.refl w.heap.size w).alloc (Nat.le_refl _) _).alloc (by simp) _).trans (hb2.mono (by simp; omega))
  have hA := holds_new (holds_cons hA hh) #[.int .i64 c, .int .i64 r, .slice (some ⟨g, 0, none⟩) m m] 24
  have HA : Hid _ := hA
  have B4 : Hid (Below w.heap.size w (w2.alloc (.cells #[.int .i64 c, .int .i64 r, .slice (some ⟨g, 0, none⟩) m m] 24))) := HB'.out.alloc (by omega) _
  clear hm hh hb2 hA HB'
  go_wp2
  generalize hM : w2.heap.size = M at *
  generalize (w2.alloc (.cells #[.int .i64 c, .int .i64 r, .slice (some ⟨g, 0, none⟩) m m] 24)) = W3 at *
  clear hM
  go_loopw [4] (fun i wr => ∃ k : Nat, k ≤ r ∧ i = .int .i64 k ∧ W3.grownBy wr (some g) ∧ wr.heap[g]? = some (.cells (vfs (trP r c xs k 0)) 5 (0, 0))) (fun i _ => r - (intOf i).toNat)
  case atStart => exact ⟨0, by omega, rfl, World.grownBy.refl _ _, by rw [← trP_zero]; exact holds_at HA.out 1 rfl⟩
  case round =>
    obtain ⟨k, hk, rfl, hgb, hs⟩ := hrel
    have HGB : Hid _ := hgb
    have HS : Hid _ := hs
    have c1 := cellAt (grown_block hgb (holds_at HA.out 3 rfl) (by omega)) 0 _ rfl
    by_cases hlt : k < r
    · clear hgb hs
      go_wp2
      go_loopw [5] (fun i wq => ∃ j : Nat, j ≤ c ∧ i = .int .i64 j ∧ W3.grownBy wq (some g) ∧ wq.heap[g]? = some (.cells (vfs (trP r c xs k j)) 5 (0, 0))) (fun i _ => c - (intOf i).toNat)
      case atStart => exact ⟨0, by omega, rfl, HGB.out, HS.out⟩
      case round =>
        obtain ⟨j, hj, rfl, hgb, hs⟩ := hrel
        have HGB2 : Hid _ := hgb
        have HS2 : Hid _ := hs
        have k3 := grown_block hgb (holds_at HA.out 3 rfl) (by omega)
        have c2 := cellAt k3 1 _ rfl
        by_cases hltj : j < c
        · have c3 := cellAt k3 0 _ rfl
          have c4 := cellAt k3 2 _ rfl
          have c5 := cellAt (grown_block hgb (holds_at HA.out 0 rfl) (by omega)) 2 _ rfl
          obtain ⟨p, hp⟩ : ∃ p, p = k * c := ⟨_, rfl⟩
          obtain ⟨q, hq⟩ : ∃ q, q = j * r := ⟨_, rfl⟩
          have h1 := place_lt (c := c) hlt hltj
          have h2 := place_lt (c := r) hltj hlt
          have m1 : (k : Int) * (c : Int) = (p : Int) := by rw [hp]; simp
          have m2 : (j : Int) * (r : Int) = (q : Int) := by rw [hq]; simp
          have e1 : p + j < la := by rw [hp, HLA.out]; exact h1
          have e2 : q + k < m := by rw [hq, HM.out]; exact h2
          have n1 : la ≤ 4096 := by have := mul_small hr hc; have := HLA.out; have e : (r : Int) * (c : Int) = ((r * c : Nat) : Int) := by simp
                                    omega
          have n2 : m ≤ 4096 := by have := mul_small hc hr; have := HM.out; have e : (c : Int) * (r : Int) = ((c * r : Nat) : Int) := by simp
                                   omega
          obtain ⟨b1, o1, rfl, hb1, f1⟩ := row8_get HRX.out (show p + j < xs.length by rw [HX.out, ← HLA.out]; exact e1)
          have hbw := below_grown B4.out hgb (by omega)
          have c7 := cell_later hbw (f1 (p + j) (by rw [HX.out, ← HLA.out]; exact e1))
          have c8 : wr.cell? ⟨g, q + k, none⟩ = some (.int .u8 ((at8 (trP r c xs k j) (q + k)).toNat : Int)) := cellAt hs _ _ (vfs_get _ _ (by rw [trP_len, ← HM.out]; exact e2))
          have c9 : wr.frozen? ⟨g, q + k, none⟩ = false := frozen_of_row _ _ _ _ _ hs
          have HT : Hid ((trP r c xs k j).set (q + k) (at8 xs (p + j)) = trP r c xs k (j + 1)) := by
            show _ = _
            rw [hp, hq]; exact trP_step hlt hltj
          clear hgb hs f1 hp hq h1 h2 hbw k3
          go_wp2
          go_region
          go_wp2
          refine ⟨⟨j + 1, by omega, by go_num, grownBy_drew (grownBy_setCell HGB2.out _), ?_⟩, by simp [intOf]; omega⟩
          show (wr.setCell _ _).heap[g]? = _
          rw [heap_setCell_same _ _ _ _ _ _ HS2.out, vfs_set, HT.out]
        · obtain rfl : j = c := by omega
          rw [trP_row] at hs
          have HS4 : Hid _ := hs
          clear hgb hs k3
          go_wp2
          exact ⟨⟨k + 1, by omega, by go_num, HGB2.out, HS4.out⟩, by simp [intOf]; omega⟩
    · obtain rfl : k = r := by omega
      rw [trP_done] at hs
      have HS2 : Hid _ := hs
      have k0 := grown_block hgb (holds_at HA.out 0 rfl) (by omega)
      have k1 := grown_block hgb (holds_at HA.out 2 rfl) (by omega)
      have c2 := cellAt k0 0 _ rfl
      have c3 := cellAt k0 1 _ rfl
      have c7 := cellAt k0 2 _ rfl
      have c4 := cellAt k1 0 _ rfl
      have c5 := cellAt k1 1 _ rfl
      have c6 := cellAt k1 2 _ rfl
      have d4 : wr.frozen? ⟨w.heap.size + 1, 0, none⟩ = false := frozen_of_row _ _ _ _ _ k1
      have d5 : wr.frozen? ⟨w.heap.size + 1, 1, none⟩ = false := frozen_of_row _ _ _ _ _ k1
      have d6 : wr.frozen? ⟨w.heap.size + 1, 2, none⟩ = false := frozen_of_row _ _ _ _ _ k1
      clear k0 k1 hgb hs
      go_wp2
      refine bodyPost_ret (v := .agg #[.int .i64 c, .int .i64 k, .slice (some ⟨g, 0, none⟩) m m]) (by simp [results, Tryd.results15, go_sem, c4, c5, c6]) rfl ⟨g, m, rfl, HM.out, by omega, ?_, ?_⟩
      · rw [heap_setCell_other _ _ _ _ (by show g ≠ w.heap.size + 1; omega), heap_setCell_other _ _ _ _ (by show g ≠ w.heap.size + 1; omega), heap_setCell_other _ _ _ _ (by show g ≠ w.heap.size + 1; omega)]
        exact HS2.out
      · exact (((below_grown B4.out HGB.out (by omega)).setCell (by simp) _).setCell (by simp) _).setCell (by simp) _
end Go.Proofs.YtkmlanolaogaiaaDoor
