/- What Of of package mat answers where its rows are not in form; nothing that was there turns. -/
import Derived.Test.YtkoakingmnjdoabDoorMatO
import Derived.Test.YtkoakingmnjdoabDoorHolds
namespace Go.Proofs.YtkoakingmnjdoabDoor
open Go.RowKit Gf
set_option linter.unusedVariables false
set_option maxRecDepth 20000
set_option maxHeartbeats 400000 in
theorem of_no (c : Int) (l cap : Nat) (a : Option Addr) (w : World) (s : Addr) (hs : w.cell? ⟨5, 0, none⟩ = some (errAt s)) (h : ¬ (0 ≤ c ∧ c ≤ 64 ∧ l ≤ 64)) :
    Calls Tryd.prog 24 #[.int .i64 c, .slice a l cap] w fun e w' => e = .returned (.tuple #[.agg #[.int .i64 0, .int .i64 0, .slice none 0 0], errAt s]) ∧ Below w.heap.size w w' := by
  have hs1 := cell?_alloc_old (.cells #[.int .i64 0, .int .i64 0, .slice none 0 0] 42) hs
  have H : Hid _ := h
  have HS : Hid _ := hs1
  clear hs h hs1
  unfold errAt at *
  go_enter Tryd.func24, Tryd.ntmps24
  go_wp2_with fail
  refine Calls.mono (zero_bad l c _ _ HS.out (fun h => H.out ⟨h.2.2.1, h.2.2.2, by have := h.2.1; omega⟩)) ?_
  rintro e w1 ⟨rfl, hb1⟩
  have k1 := heap_later (heap_alloc_last w (.cells #[.int .i64 0, .int .i64 0, .slice none 0 0] 42)) hb1
  have c4 := cellAt k1 0 _ rfl
  have c5 := cellAt k1 1 _ rfl
  have c6 := cellAt k1 2 _ rfl
  have d4 : w1.frozen? ⟨w.heap.size, 0, none⟩ = false := frozen_of_row _ _ _ _ _ k1
  have d5 : w1.frozen? ⟨w.heap.size, 1, none⟩ = false := frozen_of_row _ _ _ _ _ k1
  have d6 : w1.frozen? ⟨w.heap.size, 2, none⟩ = false := frozen_of_row _ _ _ _ _ k1
  have z1 := ltHeap k1
  have HB1 : Hid (Below w.heap.size w w1) := ((Below.refl w.heap.size w).alloc (Nat.le_refl _) _).trans (hb1.mono (by simp))
  clear hb1 k1
  go_wp2
  refine bodyPost_ret (v := .tuple #[.agg #[.int .i64 0, .int .i64 0, .slice none 0 0], .iface 102 (.pointer (some s))]) (by simp [results, Tryd.results24, go_sem, c4, c5, c6, z1]) rfl ⟨rfl, ?_⟩
  exact (((HB1.out.setCell (by simp) _).setCell (by simp) _).setCell (by simp) _).alloc (by simp; omega) _
set_option maxHeartbeats 400000 in
theorem one_bad (n : Int) (w : World) (s : Addr) (hs : w.cell? ⟨5, 0, none⟩ = some (errAt s)) (h : ¬ (0 ≤ n ∧ n ≤ 64)) :
    Calls Tryd.prog 34 #[.int .i64 n] w fun e w' => e = .returned (.tuple #[.agg #[.int .i64 0, .int .i64 0, .slice none 0 0], errAt s]) ∧ Below w.heap.size w w' := by
  have hs1 := cell?_alloc_old (.cells #[.int .i64 0, .int .i64 0, .slice none 0 0] 42) hs
  have H : Hid _ := h
  have HS : Hid _ := hs1
  clear hs h hs1
  unfold errAt at *
  go_enter Tryd.func34, Tryd.ntmps34
  go_wp2_with fail
  refine Calls.mono (zero_bad n n _ _ HS.out (fun h => H.out ⟨h.1, h.2.1⟩)) ?_
  rintro e w1 ⟨rfl, hb1⟩
  have k1 := heap_later (heap_alloc_last w (.cells #[.int .i64 0, .int .i64 0, .slice none 0 0] 42)) hb1
  have c4 := cellAt k1 0 _ rfl
  have c5 := cellAt k1 1 _ rfl
  have c6 := cellAt k1 2 _ rfl
  have d4 : w1.frozen? ⟨w.heap.size, 0, none⟩ = false := frozen_of_row _ _ _ _ _ k1
  have d5 : w1.frozen? ⟨w.heap.size, 1, none⟩ = false := frozen_of_row _ _ _ _ _ k1
  have d6 : w1.frozen? ⟨w.heap.size, 2, none⟩ = false := frozen_of_row _ _ _ _ _ k1
  have z1 := ltHeap k1
  have HB1 : Hid (Below w.heap.size w w1) := ((Below.refl w.heap.size w).alloc (Nat.le_refl _) _).trans (hb1.mono (by simp))
  clear hb1 k1
  go_wp2
  refine bodyPost_ret (v := .tuple #[.agg #[.int .i64 0, .int .i64 0, .slice none 0 0], .iface 102 (.pointer (some s))]) (by simp [results, Tryd.results34, go_sem, c4, c5, c6, z1]) rfl ⟨rfl, ?_⟩
  exact (((HB1.out.setCell (by simp) _).setCell (by simp) _).setCell (by simp) _).alloc (by simp; omega) _
/-- where the first row that is too long, or too short, stands -/
theorem odd_split {c : Nat} : ∀ {L : List (List F)}, ¬ (∀ xs ∈ L, xs.length = c) → ∃ (k : Nat) (xs : List F), L[k]? = some xs ∧ xs.length ≠ c ∧ ∀ (j : Nat) (ys : List F), j < k → L[j]? = some ys → ys.length = c
  | [], h => absurd (fun _ h => by cases h) h
  | zs :: L, h => by
    by_cases hz : zs.length = c
    · obtain ⟨k, xs, h1, h2, h3⟩ := odd_split (L := L) (c := c) (fun h' => h (fun xs hx => by
        rcases List.mem_cons.1 hx with rfl | hx
        · exact hz
        · exact h' xs hx))
      refine ⟨k + 1, xs, h1, h2, fun j ys hj hy => ?_⟩
      cases j with
      | zero => obtain rfl := Option.some.inj hy; exact hz
      | succ j => exact h3 j ys (by omega) hy
    · exact ⟨0, zs, rfl, hz, fun j ys hj => absurd hj (Nat.not_lt_zero _)⟩
set_option maxHeartbeats 1000000 in
theorem of_odd (c l cap : Nat) (a : Option Addr) (L : List (List F)) (w : World) (hc : c ≤ 64) (hl : l = L.length) (hl6 : l ≤ 64) (hX : Rows8 w a L) (s : Addr) (hs : w.cell? ⟨5, 0, none⟩ = some (errAt s)) (h : ¬ (∀ xs ∈ L, xs.length = c)) :
    Calls Tryd.prog 24 #[.int .i64 c, .slice a l cap] w fun e w' => e = .returned (.tuple #[.agg #[.int .i64 0, .int .i64 0, .slice none 0 0], errAt s]) ∧ Below w.heap.size w w' := by
  have hlt0 := World.block_lt_of_cell? w _ hs
  simp at hlt0
  obtain ⟨k0, bad, hbad, hodd, hgood⟩ := odd_split h
  have hk0 : k0 < l := by rw [hl]; exact (List.getElem?_eq_some_iff.1 hbad).1
  have HL : Hid _ := hl
  have HR : Hid (Rows8 w a L) := hX
  have HS : Hid _ := hs
  have HBad : Hid _ := hbad
  have HOdd : Hid _ := hodd
  have HGood : Hid _ := hgood
  clear hl hX hs h hbad hodd hgood
  unfold errAt at *
  go_enter Tryd.func24, Tryd.ntmps24
  go_wp2_with fail
  refine Calls.mono (zero_F l c _ hl6 hc) ?_
  rintro e w2 ⟨g, n, rfl, hn, hg, hh, hb2⟩
  have z2 := hb2.size
  simp only [World.size_alloc] at z2 hg
  have z4 : w.heap.size < w2.heap.size := by omega
  have zg : g < w2.heap.size := ltHeap hh
  have HN : Hid _ := hn
  have HG : Hid _ := hh
  have HB' : Hid (Below w.heap.size w w2) := ((Below.refl w.heap.size w).alloc (Nat.le_refl _) _).trans (hb2.mono (by simp))
  have B1' : Hid _ := heap_later (heap_alloc_last w (.cells #[.int .i64 0, .int .i64 0, .slice none 0 0] 42)) hb2
  clear hn hh hb2
  go_wp2
  have B2 : Hid _ := heap_alloc_last w2 (.cells #[.int .i64 l, .int .i64 c, .slice (some ⟨g, 0, none⟩) n n] 42)
  have B1 : Hid ((w2.alloc (.cells #[.int .i64 l, .int .i64 c, .slice (some ⟨g, 0, none⟩) n n] 42)).heap[w.heap.size]? = some (.cells #[.int .i64 0, .int .i64 0, .slice none 0 0] 42 (0, 0))) :=
    (Below.heap_alloc _ _ _ z4).trans B1'.out
  have B3 : Hid ((w2.alloc (.cells #[.int .i64 l, .int .i64 c, .slice (some ⟨g, 0, none⟩) n n] 42)).heap[g]? = some (.cells (vfs (zeros (l * c))) 5 (0, 0))) := (Below.heap_alloc _ _ _ zg).trans HG.out
  have B4 : Hid (Below w.heap.size w (w2.alloc (.cells #[.int .i64 l, .int .i64 c, .slice (some ⟨g, 0, none⟩) n n] 42))) := HB'.out.alloc (by omega) _
  clear HG HB' B1'
  generalize hM : w2.heap.size = M at *
  generalize (w2.alloc (.cells #[.int .i64 l, .int .i64 c, .slice (some ⟨g, 0, none⟩) n n] 42)) = W3 at *
  clear hM
  go_loopw [23] (fun i wr => ∃ k : Nat, ∃ zs : List F, k ≤ k0 ∧ i = .int .i64 k ∧ W3.grownBy wr (some g) ∧ zs.length = l * c ∧ wr.heap[g]? = some (.cells (vfs zs) 5 (0, 0))) (fun i _ => l - (intOf i).toNat)
  case atStart => exact ⟨0, _, by omega, rfl, World.grownBy.refl _ _, zeros_len _, B3.out⟩
  case round =>
    obtain ⟨k, zs, hk, rfl, hgb, hzl, hs⟩ := hrel
    have hlt : k < l := by omega
    have hkL : k < L.length := by rw [← HL.out]; exact hlt
    have hget : L[k]? = some L[k] := List.getElem?_eq_getElem hkL
    generalize L[k] = xs at hget
    have HGet : Hid _ := hget
    rcases HR.out with e0 | ⟨b, off, rfl, hrows⟩
    · rw [e0] at hkL; simp at hkL
    obtain ⟨a', cap', hc1, hr1⟩ := hrows k xs hget
    have hbw := below_grown B4.out hgb (by omega)
    have c0 := cell_later hbw hc1
    have HGB : Hid _ := hgb
    have HZ : Hid _ := hzl
    have HG : Hid _ := hs
    have HBW : Hid _ := hbw
    have HR1 : Hid (Row8 w a' xs) := hr1
    have k0' := grown_block hgb B2.out (by omega)
    by_cases hbe : k < k0
    · have hxl := HGood.out k xs hbe hget
      rw [hxl] at c0
      have c1 := cellAt k0' 0 _ rfl
      have c2 := cellAt k0' 1 _ rfl
      have c3 := cellAt k0' 2 _ rfl
      have HXL : Hid _ := hxl
      clear k0' hgb hs hc1 hr1 hrows hget hxl hbw hzl
      go_wp2_with fail
      refine Calls.mono (rowOf_some l c k g 0 n n _ hl6 hc hlt HN.out (Nat.le_refl _)) ?_
      rintro e w5 ⟨rfl, hb5⟩
      rw [rof_row hlt HN.out]
      have hr5 := row8_below HR1.out (HBW.out.trans (hb5.mono HBW.out.size))
      have hs5 := heap_later HG.out hb5
      have hle : k * c + xs.length ≤ zs.length := by
        have h1 := Nat.mul_le_mul_right c (show k + 1 ≤ l from hlt)
        rw [Nat.succ_mul] at h1
        rw [HZ.out, HXL.out]; exact h1
      have hcp := fun ty => run_copyAt g (k * c) c (n - k * c) a' c cap' zs xs w5 ty HXL.out.symm HXL.out.symm hle hs5 hr5
      have hz5 : (zs.take (k * c) ++ xs ++ zs.drop (k * c + xs.length)).length = l * c := by
        rw [List.length_append, List.length_append, List.length_take, List.length_drop, ← HZ.out]; omega
      have hs6 := setRow_heap _ _ _ (vfs (zs.take (k * c) ++ xs ++ zs.drop (k * c + xs.length))) _ _ hs5
      have hg6 := grownBy_setRow (grown_below HGB.out hb5) (vfs (zs.take (k * c) ++ xs ++ zs.drop (k * c + xs.length)))
      generalize zs.take (k * c) ++ xs ++ zs.drop (k * c + xs.length) = us at hcp hz5 hs6 hg6
      have HZ5 : Hid _ := hz5
      have HS5 : Hid _ := hs6
      have HGB5 : Hid _ := hg6
      clear hs5 hb5 c0 c1 c2 c3 hr5 hle hz5 hs6 hg6
      go_wp2
      exact ⟨⟨k + 1, _, by omega, by go_num, HGB5.out, HZ5.out, HS5.out⟩, by simp [intOf]; omega⟩
    · obtain rfl : k = k0 := by omega
      obtain rfl : bad = xs := Option.some.inj (HBad.out.symm.trans hget)
      have hne : ((bad.length : Int) != (c : Int)) = true := by rw [bne_iff_ne]; have := HOdd.out; exact fun e => this (by omega)
      have k1 := grown_block hgb B1.out (by omega)
      have c4 := cellAt k1 0 _ rfl
      have c5 := cellAt k1 1 _ rfl
      have c6 := cellAt k1 2 _ rfl
      have d4 : wr.frozen? ⟨w.heap.size, 0, none⟩ = false := frozen_of_row _ _ _ _ _ k1
      have d5 : wr.frozen? ⟨w.heap.size, 1, none⟩ = false := frozen_of_row _ _ _ _ _ k1
      have d6 : wr.frozen? ⟨w.heap.size, 2, none⟩ = false := frozen_of_row _ _ _ _ _ k1
      have c9 := cell_later hbw HS.out
      clear k0' k1 hgb hs hc1 hr1 hrows hget hbw hzl
      go_wp2
      go_region
      go_wp2
      refine bodyPost_ret (v := .tuple #[.agg #[.int .i64 0, .int .i64 0, .slice none 0 0], .iface 102 (.pointer (some s))]) (by simp [results, Tryd.results24, go_sem, c4, c5, c6]) rfl ⟨rfl, ?_⟩
      exact (((HBW.out.drew).setCell (by simp) _).setCell (by simp) _).setCell (by simp) _
end Go.Proofs.YtkoakingmnjdoabDoor
