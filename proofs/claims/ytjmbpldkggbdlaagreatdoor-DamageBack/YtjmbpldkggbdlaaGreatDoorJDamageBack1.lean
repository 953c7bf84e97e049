/- What the document's own Parity and Generator answer, of all legal numbers; nothing that was there turns. -/
import Derived.Test.YtjmbpldkggbdlaaGreatDoorMatO
import Derived.Test.YtjmbpldkggbdlaaGreatDoorHolds
import Derived.Test.YtjmbpldkggbdlaaGreatDoorBaseW
import Derived.Test.YtjmbpldkggbdlaaGreatDoorBaseL
import Derived.Test.YtjmbpldkggbdlaaGreatDoorMatP
import Derived.Test.YtjmbpldkggbdlaaGreatDoorMatRow
import Derived.Test.YtjmbpldkggbdlaaGreatDoorMatV
import Derived.Test.YtjmbpldkggbdlaaGreatDoorHalfR
import Derived.Test.YtjmbpldkggbdlaaGreatDoorMatT
import Derived.Test.YtjmbpldkggbdlaaGreatDoorGfRefW
import Derived.Deep.RegionHeld3
/- What Of of package mat answers where its rows are not in form; nothing that was there turns. -/
namespace Go.Proofs.YtjmbpldkggbdlaaGreatDoor
open Go.RowKit Gf
set_option linter.unusedVariables false
set_option maxRecDepth 20000
set_option maxHeartbeats 400000 in
theorem of_no (c : Int) (l cap : Nat) (a : Option Addr) (w : World) (s : Addr) (hs : w.cell? ⟨2, 0, none⟩ = some (errAt s)) (h : ¬ (0 ≤ c ∧ c ≤ 64 ∧ l ≤ 64)) :
    Calls Tryz.prog 52 #[.int .i64 c, .slice a l cap] w fun e w' => e = .returned (.tuple #[.agg #[.int .i64 0, .int .i64 0, .slice none 0 0], errAt s]) ∧ Below w.heap.size w w' := by
  have hs1 := cell?_alloc_old (.cells #[.int .i64 0, .int .i64 0, .slice none 0 0] 63) hs
  have H : Hid _ := h
  have HS : Hid _ := hs1
  clear hs h hs1
  unfold errAt at *
  go_enter Tryz.func52, Tryz.ntmps52
  go_wp2_with fail
  refine Calls.mono (zero_bad l c _ _ HS.out (fun h => H.out ⟨h.2.2.1, h.2.2.2, by have := h.2.1; omega⟩)) ?_
  rintro e w1 ⟨rfl, hb1⟩
  have k1 := heap_later (heap_alloc_last w (.cells #[.int .i64 0, .int .i64 0, .slice none 0 0] 63)) hb1
  have c4 := cellAt k1 0 _ rfl
  have c5 := cellAt k1 1 _ rfl
  have c6 := cellAt k1 2 _ rfl
  have d4 : w1.frozen? ⟨w.heap.size, 0, none⟩ = false := frozen_of_row _ _ _ _ _ k1
  have d5 : w1.frozen? ⟨w.heap.size, 1, none⟩ = false := frozen_of_row _ _ _ _ _ k1
  have d6 : w1.frozen? ⟨w.heap.size, 2, none⟩ = false := frozen_of_row _ _ _ _ _ k1
  have z1 := ltHeap k1
  have HB1 : Hid (Below w.heap.size w w1) := ((Below.refl w.heap.size w).alloc (Nat.le_refl _) _).trans (hb1.mono (by simp))
  clear hb1 k1
  go_wp2
  refine bodyPost_ret (v := .tuple #[.agg #[.int .i64 0, .int .i64 0, .slice none 0 0], .iface 188 (.pointer (some s))]) (by simp [results, Tryz.results52, go_sem, c4, c5, c6, z1]) rfl ⟨rfl, ?_⟩
  exact (((HB1.out.setCell (by simp) _).setCell (by simp) _).setCell (by simp) _).alloc (by simp; omega) _
set_option maxHeartbeats 400000 in
theorem one_bad (n : Int) (w : World) (s : Addr) (hs : w.cell? ⟨2, 0, none⟩ = some (errAt s)) (h : ¬ (0 ≤ n ∧ n ≤ 64)) :
    Calls Tryz.prog 70 #[.int .i64 n] w fun e w' => e = .returned (.tuple #[.agg #[.int .i64 0, .int .i64 0, .slice none 0 0], errAt s]) ∧ Below w.heap.size w w' := by
  have hs1 := cell?_alloc_old (.cells #[.int .i64 0, .int .i64 0, .slice none 0 0] 63) hs
  have H : Hid _ := h
  have HS : Hid _ := hs1
  clear hs h hs1
  unfold errAt at *
  go_enter Tryz.func70, Tryz.ntmps70
  go_wp2_with fail
  refine Calls.mono (zero_bad n n _ _ HS.out (fun h => H.out ⟨h.1, h.2.1⟩)) ?_
  rintro e w1 ⟨rfl, hb1⟩
  have k1 := heap_later (heap_alloc_last w (.cells #[.int .i64 0, .int .i64 0, .slice none 0 0] 63)) hb1
  have c4 := cellAt k1 0 _ rfl
  have c5 := cellAt k1 1 _ rfl
  have c6 := cellAt k1 2 _ rfl
  have d4 : w1.frozen? ⟨w.heap.size, 0, none⟩ = false := frozen_of_row _ _ _ _ _ k1
  have d5 : w1.frozen? ⟨w.heap.size, 1, none⟩ = false := frozen_of_row _ _ _ _ _ k1
  have d6 : w1.frozen? ⟨w.heap.size, 2, none⟩ = false := frozen_of_row _ _ _ _ _ k1
  have z1 := ltHeap k1
  have HB1 : Hid (Below w.heap.size w w1) := ((Below.refl w.heap.size w).alloc (Nat.le_refl _) _).trans (hb1.mono (by simp))
  clear hb1 k1
  go_wp2
  refine bodyPost_ret (v := .tuple #[.agg #[.int .i64 0, .int .i64 0, .slice none 0 0], .iface 188 (.pointer (some s))]) (by simp [results, Tryz.results70, go_sem, c4, c5, c6, z1]) rfl ⟨rfl, ?_⟩
  exact (((HB1.out.setCell (by simp) _).setCell (by simp) _).setCell (by simp) _).alloc (by simp; omega) _
/-- where the first row that is too long, or too short, stands -/
theorem odd_split {c : Nat} : ∀ {L : List (List F)}, ¬ (∀ xs ∈ L, xs.length = c) → ∃ (k : Nat) (xs : List F), L[k]? = some xs ∧ xs.length ≠ c ∧ ∀ (j : Nat) (ys : List F), j < k → L[j]? = some ys → ys.length = c
  | [], h => absurd (fun _ h => by cases h) h
  | zs :: L, h => by
    by_cases hz : zs.length = c
    · obtain ⟨k, xs, h1, h2, h3⟩ := odd_split (L := L) (c := c) (fun h' => h (fun xs hx => by
        rcases List.mem_cons.1 hx with rfl | hx
        · exact hz
        · exact h' xs hx))
      refine ⟨k + 1, xs, h1, h2, fun j ys hj hy => ?_⟩
      cases j with
      | zero => obtain rfl := Option.some.inj hy; exact hz
      | succ j => exact h3 j ys (by omega) hy
    · exact ⟨0, zs, rfl, hz, fun j ys hj => absurd hj (Nat.not_lt_zero _)⟩
set_option maxHeartbeats 1000000 in
theorem of_odd (c l cap : Nat) (a : Option Addr) (L : List (List F)) (w : World) (hc : c ≤ 64) (hl : l = L.length) (hl6 : l ≤ 64) (hX : Rows8 w a L) (s : Addr) (hs : w.cell? ⟨2, 0, none⟩ = some (errAt s)) (h : ¬ (∀ xs ∈ L, xs.length = c)) :
    Calls Tryz.prog 52 #[.int .i64 c, .slice a l cap] w fun e w' => e = .returned (.tuple #[.agg #[.int .i64 0, .int .i64 0, .slice none 0 0], errAt s]) ∧ Below w.heap.size w w' := by
  have hlt0 := World.block_lt_of_cell? w _ hs
  simp at hlt0
  obtain ⟨k0, bad, hbad, hodd, hgood⟩ := odd_split h
  have hk0 : k0 < l := by rw [hl]; exact (List.getElem?_eq_some_iff.1 hbad).1
  have HL : Hid _ := hl
  have HR : Hid (Rows8 w a L) := hX
  have HS : Hid _ := hs
  have HBad : Hid _ := hbad
  have HOdd : Hid _ := hodd
  have HGood : Hid _ := hgood
  clear hl hX hs h hbad hodd hgood
  unfold errAt at *
  go_enter Tryz.func52, Tryz.ntmps52
  go_wp2_with fail
  refine Calls.mono (zero_F l c _ hl6 hc) ?_
  rintro e w2 ⟨g, n, rfl, hn, hg, hh, hb2⟩
  have z2 := hb2.size
  simp only [World.size_alloc] at z2 hg
  have z4 : w.heap.size < w2.heap.size := by omega
  have zg : g < w2.heap.size := ltHeap hh
  have HN : Hid _ := hn
  have HG : Hid _ := hh
  have HB' : Hid (Below w.heap.size w w2) := ((Below.refl w.heap.size w).alloc (Nat.le_refl _) _).trans (hb2.mono (by simp))
  have B1' : Hid _ := heap_later (heap_alloc_last w (.cells #[.int .i64 0, .int .i64 0, .slice none 0 0] 63)) hb2
  clear hn hh hb2
  go_wp2
  have B2 : Hid _ := heap_alloc_last w2 (.cells #[.int .i64 l, .int .i64 c, .slice (some ⟨g, 0, none⟩) n n] 63)
  have B1 : Hid ((w2.alloc (.cells #[.int .i64 l, .int .i64 c, .slice (some ⟨g, 0, none⟩) n n] 63)).heap[w.heap.size]? = some (.cells #[.int .i64 0, .int .i64 0, .slice none 0 0] 63 (0, 0))) :=
    (Below.heap_alloc _ _ _ z4).trans B1'.out
  have B3 : Hid ((w2.alloc (.cells #[.int .i64 l, .int .i64 c, .slice (some ⟨g, 0, none⟩) n n] 63)).heap[g]? = some (.cells (vfs (zeros (l * c))) 5 (0, 0))) := (Below.heap_alloc _ _ _ zg).trans HG.out
  have B4 : Hid (Below w.heap.size w (w2.alloc (.cells #[.int .i64 l, .int .i64 c, .slice (some ⟨g, 0, none⟩) n n] 63))) := HB'.out.alloc (by omega) _
  clear HG HB' B1'
  generalize hM : w2.heap.size = M at *
  generalize (w2.alloc (.cells #[.int .i64 l, .int .i64 c, .slice (some ⟨g, 0, none⟩) n n] 63)) = W3 at *
  clear hM
  go_loopw [23] (fun i wr => ∃ k : Nat, ∃ zs : List F, k ≤ k0 ∧ i = .int .i64 k ∧ W3.grownBy wr (some g) ∧ zs.length = l * c ∧ wr.heap[g]? = some (.cells (vfs zs) 5 (0, 0))) (fun i _ => l - (intOf i).toNat)
  case atStart => exact ⟨0, _, by omega, rfl, World.grownBy.refl _ _, zeros_len _, B3.out⟩
  case round =>
    obtain ⟨k, zs, hk, rfl, hgb, hzl, hs⟩ := hrel
    have hlt : k < l := by omega
    have hkL : k < L.length := by rw [← HL.out]; exact hlt
    have hget : L[k]? = some L[k] := List.getElem?_eq_getElem hkL
    generalize L[k] = xs at hget
    have HGet : Hid _ := hget
    rcases HR.out with e0 | ⟨b, off, rfl, hrows⟩
    · rw [e0] at hkL; simp at hkL
    obtain ⟨a', cap', hc1, hr1⟩ := hrows k xs hget
    have hbw := below_grown B4.out hgb (by omega)
    have c0 := cell_later hbw hc1
    have HGB : Hid _ := hgb
    have HZ : Hid _ := hzl
    have HG : Hid _ := hs
    have HBW : Hid _ := hbw
    have HR1 : Hid (Row8 w a' xs) := hr1
    have k0' := grown_block hgb B2.out (by omega)
    by_cases hbe : k < k0
    · have hxl := HGood.out k xs hbe hget
      rw [hxl] at c0
      have c1 := cellAt k0' 0 _ rfl
      have c2 := cellAt k0' 1 _ rfl
      have c3 := cellAt k0' 2 _ rfl
      have HXL : Hid _ := hxl
      clear k0' hgb hs hc1 hr1 hrows hget hxl hbw hzl
      go_wp2_with fail
      refine Calls.mono (rowOf_some l c k g 0 n n _ hl6 hc hlt HN.out (Nat.le_refl _)) ?_
      rintro e w5 ⟨rfl, hb5⟩
      rw [rof_row hlt HN.out]
      have hr5 := row8_below HR1.out (HBW.out.trans (hb5.mono HBW.out.size))
      have hs5 := heap_later HG.out hb5
      have hle : k * c + xs.length ≤ zs.length := by
        have h1 := Nat.mul_le_mul_right c (show k + 1 ≤ l from hlt)
        rw [Nat.succ_mul] at h1
        rw [HZ.out, HXL.out]; exact h1
      have hcp := fun ty => run_copyAt g (k * c) c (n - k * c) a' c cap' zs xs w5 ty HXL.out.symm HXL.out.symm hle hs5 hr5
      have hz5 : (zs.take (k * c) ++ xs ++ zs.drop (k * c + xs.length)).length = l * c := by
        rw [List.length_append, List.length_append, List.length_take, List.length_drop, ← HZ.out]; omega
      have hs6 := setRow_heap _ _ _ (vfs (zs.take (k * c) ++ xs ++ zs.drop (k * c + xs.length))) _ _ hs5
      have hg6 := grownBy_setRow (grown_below HGB.out hb5) (vfs (zs.take (k * c) ++ xs ++ zs.drop (k * c + xs.length)))
      generalize zs.take (k * c) ++ xs ++ zs.drop (k * c + xs.length) = us at hcp hz5 hs6 hg6
      have HZ5 : Hid _ := hz5
      have HS5 : Hid _ := hs6
      have HGB5 : Hid _ := hg6
      clear hs5 hb5 c0 c1 c2 c3 hr5 hle hz5 hs6 hg6
      go_wp2
      exact ⟨⟨k + 1, _, by omega, by go_num, HGB5.out, HZ5.out, HS5.out⟩, by simp [intOf]; omega⟩
    · obtain rfl : k = k0 := by omega
      obtain rfl : bad = xs := Option.some.inj (HBad.out.symm.trans hget)
      have hne : ((bad.length : Int) != (c : Int)) = true := by rw [bne_iff_ne]; have := HOdd.out; exact fun e => this (by omega)
      have k1 := grown_block hgb B1.out (by omega)
      have c4 := cellAt k1 0 _ rfl
      have c5 := cellAt k1 1 _ rfl
      have c6 := cellAt k1 2 _ rfl
      have d4 : wr.frozen? ⟨w.heap.size, 0, none⟩ = false := frozen_of_row _ _ _ _ _ k1
      have d5 : wr.frozen? ⟨w.heap.size, 1, none⟩ = false := frozen_of_row _ _ _ _ _ k1
      have d6 : wr.frozen? ⟨w.heap.size, 2, none⟩ = false := frozen_of_row _ _ _ _ _ k1
      have c9 := cell_later hbw HS.out
      clear k0' k1 hgb hs hc1 hr1 hrows hget hbw hzl
      go_wp2
      go_region
      go_wp2
      refine bodyPost_ret (v := .tuple #[.agg #[.int .i64 0, .int .i64 0, .slice none 0 0], .iface 188 (.pointer (some s))]) (by simp [results, Tryz.results52, go_sem, c4, c5, c6]) rfl ⟨rfl, ?_⟩
      exact (((HBW.out.drew).setCell (by simp) _).setCell (by simp) _).setCell (by simp) _
end Go.Proofs.YtjmbpldkggbdlaaGreatDoor

/- What Parity of package base answers, of all legal numbers; nothing that was there turns. -/
namespace Go.Proofs.YtjmbpldkggbdlaaGreatDoor
open Go.RowKit Gf
set_option linter.unusedVariables false
set_option maxRecDepth 20000
theorem elN_val {k : Nat} (h : k < 256) : ((elN k).toNat : Int) = (k : Int) := el_val h
theorem cyN_inv (w : World) {s j : Nat} (hs : s < 256) (hj : j < 256) (hne : s ≠ j) :
    Calls Tryz.prog 117 #[.int .u8 ((ga (elN s) (elN j)).toNat : Int)] w fun e w' => e = .returned (.tuple #[.int .u8 ((cyN s j).toNat : Int), .bool true]) ∧ w = w' := by
  have h0 : ga (elN s) (elN j) ≠ 0 := ga_ne fun e => hne (elN_inj hs hj e)
  have := inv_F (ga (elN s) (elN j)) w
  rw [if_neg h0, decide_eq_true h0] at this
  exact this
theorem xor_el {s j : Nat} (hs : s < 256) (hj : j < 256) : bits .xor .u8 (s : Int) (j : Int) = ((ga (elN s) (elN j)).toNat : Int) := by
  rw [← elN_val hs, ← elN_val hj, xor_val]
set_option maxHeartbeats 1000000 in
theorem factors_F (k s : Nat) (w : World) (hk : k ≤ s) (hs : s < 32) :
    Calls Tryz.prog 97 #[.int .i64 k, .int .i64 s] w fun e w' => ∃ g, e = .returned (.slice (some ⟨g, 0, none⟩) k k) ∧ w.heap.size ≤ g ∧
      w'.heap[g]? = some (.cells (vfs (rowF k (cyN s))) 5 (0, 0)) ∧ Below w.heap.size w w' := by
  have hmk := run_make8 k (by omega)
  go_enter Tryz.func97, Tryz.ntmps97
  go_wp2
  have B1 : Hid _ := heap_alloc_last w (.cells (vfs (zeros k)) 5)
  have B3 : Hid _ := (Below.refl w.heap.size w).alloc (Nat.le_refl _) (.cells (vfs (zeros k)) 5)
  clear hmk
  generalize (w.alloc (.cells (vfs (zeros k)) 5)) = W3 at *
  go_loopw [11] (fun i wr => ∃ j : Nat, j ≤ k ∧ i = .int .i64 j ∧ W3.grownBy wr (some w.heap.size) ∧ wr.heap[w.heap.size]? = some (.cells (vfs (colP k (cyN s) j)) 5 (0, 0))) (fun i _ => k - (intOf i).toNat)
  case atStart => exact ⟨0, by omega, rfl, World.grownBy.refl _ _, by rw [← colP_zero]; exact B1.out⟩
  case round =>
    obtain ⟨j, hj, rfl, hgb, hh⟩ := hrel
    by_cases hlt : j < k
    · have hj2 : (j : Int) < 256 := by omega
      have hs2 : (s : Int) < 256 := by omega
      have hx := xor_el (s := s) (j := j) (by omega) (by omega)
      have c4 := cellAt hh j _ (vfs_get _ _ (by rw [colP_len]; exact hlt))
      have c5 : wr.frozen? ⟨w.heap.size, j, none⟩ = false := frozen_of_row _ _ _ _ _ hh
      have HG : Hid _ := hh
      have HGB : Hid _ := hgb
      clear hh hgb
      go_wp2_with fail
      refine Calls.mono (cyN_inv _ (by omega) (by omega) (by omega)) ?_
      rintro e w' ⟨rfl, rfl⟩
      go_wp2
      refine ⟨⟨j + 1, by omega, by go_num, grownBy_setCell HGB.out _, ?_⟩, by simp [intOf]; omega⟩
      rw [heap_setCell_same _ _ _ _ _ _ HG.out, vfs_set, colP_step]
    · have e : j = k := by omega
      subst e
      rw [colP_done] at hh
      have HG : Hid _ := hh
      have HGB : Hid _ := hgb
      clear hh hgb
      go_wp2
      go_ret
      exact ⟨w.heap.size, rfl, by omega, HG.out, below_grown B3.out HGB.out (by omega)⟩
/-- the matrix of the parities -/
def parM (k r : Nat) : List F := grid k (fun i j => cyN (k + i) j) r
theorem parM_len (k r : Nat) : (parM k r).length = r * k := grid_len _ _ _
set_option maxHeartbeats 2000000 in
theorem parity_F (k r : Nat) (w : World) (h1 : 1 ≤ k) (h2 : 2 ≤ r) (h3 : k + r ≤ 16) :
    Calls Tryz.prog 69 #[.int .i64 k, .int .i64 r] w fun e w' => ∃ g m, e = .returned (.tuple #[.agg #[.int .i64 r, .int .i64 k, .slice (some ⟨g, 0, none⟩) m m], .nilIface]) ∧ m = r * k ∧ w.heap.size ≤ g ∧
      w'.heap[g]? = some (.cells (vfs (parM k r)) 5 (0, 0)) ∧ Below w.heap.size w w' := by
  have hmk := run_makeS r (by omega)
  go_enter Tryz.func69, Tryz.ntmps69
  go_wp2_with fail
  refine (bcheck_ok _ _ _ h1 h2 h3).mono ?_
  rintro e w' ⟨rfl, rfl⟩
  go_wp2
  have B0 : Hid _ := heap_alloc2_old w (.cells #[.int .i64 0, .int .i64 0, .slice none 0 0] 63) (.cells (slV 0 [] r) 61)
  have B1 : Hid _ := heap_alloc2_new w (.cells #[.int .i64 0, .int .i64 0, .slice none 0 0] 63) (.cells (slV 0 [] r) 61)
  have B3 : Hid _ := ((Below.refl w.heap.size w).alloc (Nat.le_refl _) (.cells #[.int .i64 0, .int .i64 0, .slice none 0 0] 63)).alloc (by simp) (.cells (slV 0 [] r) 61)
  clear hmk
  generalize hW : ((w.alloc (.cells #[.int .i64 0, .int .i64 0, .slice none 0 0] 63)).alloc (.cells (slV 0 [] r) 61)) = W3 at *
  clear hW
  go_loopw [20] (fun i wr => ∃ j : Nat, ∃ gs : List Nat, j ≤ r ∧ i = .int .i64 j ∧ gs.length = j ∧ W3.grownBy wr (some (w.heap.size + 1)) ∧ wr.heap[w.heap.size + 1]? = some (.cells (slV k gs r) 61 (0, 0)) ∧
    ∀ i g, gs[i]? = some g → g ≠ w.heap.size + 1 ∧ wr.heap[g]? = some (.cells (vfs (rowF k (cyN (k + i)))) 5 (0, 0))) (fun i _ => r - (intOf i).toNat)
  case atStart => exact ⟨0, [], by omega, rfl, rfl, World.grownBy.refl _ _, B1.out, fun j g h => by simp at h⟩
  case round =>
    obtain ⟨j, gs, hj, rfl, hgs, hgb, hs, hrows⟩ := hrel
    have HS : Hid _ := hs
    have HG : Hid _ := hgs
    have HR : Hid _ := hrows
    have HGB : Hid _ := hgb
    clear hs hgs hrows hgb
    by_cases hlt : j < r
    · go_wp2_with fail
      have e0 : (k : Int) + j = ((k + j : Nat) : Int) := by omega
      rw [e0]
      clear e0
      refine Calls.mono (factors_F k (k + j) _ (by omega) (by omega)) ?_
      rintro e w5 ⟨g5, rfl, hg5, hh5, hb5⟩
      have hs5 := heap_later HS.out hb5
      have hg5M : g5 ≠ w.heap.size + 1 := by
        have h1 := ltHeap HS.out
        omega
      have c7 : w5.cell? ⟨w.heap.size + 1, j, none⟩ = some (.slice none 0 0) := cellAt hs5 j _ (by have e := slV_next (c := k) (gs := gs) (r := r) (by rw [HG.out]; exact hlt); rwa [HG.out] at e)
      have c8 : w5.frozen? ⟨w.heap.size + 1, j, none⟩ = false := frozen_of_row _ _ _ _ _ hs5
      have HT : Hid ((w5.setCell ⟨w.heap.size + 1, j, none⟩ (.slice (some ⟨g5, 0, none⟩) k k)).heap[w.heap.size + 1]? = some (.cells (slV k (gs ++ [g5]) r) 61 (0, 0))) := by
        show _ = _
        have hgs := HG.out
        rw [heap_setCell_same _ _ _ _ _ _ hs5, ← hgs, slV_set g5 (by omega)]
      have HROW : Hid (∀ i g, (gs ++ [g5])[i]? = some g → g ≠ w.heap.size + 1 ∧ (w5.setCell ⟨w.heap.size + 1, j, none⟩ (.slice (some ⟨g5, 0, none⟩) k k)).heap[g]? = some (.cells (vfs (rowF k (cyN (k + i)))) 5 (0, 0))) := by
        intro i g hi
        have hgs := HG.out
        by_cases hjk : i < gs.length
        · rw [List.getElem?_append_left hjk] at hi
          obtain ⟨h1, h2⟩ := HR.out i g hi
          exact ⟨h1, (heap_setCell_other _ _ _ _ h1).trans (heap_later h2 hb5)⟩
        · have hj2 := (List.getElem?_eq_some_iff.1 hi).1
          simp only [List.length_append, List.length_singleton] at hj2
          obtain rfl : i = j := by omega
          rw [List.getElem?_append_right (by omega), show i - gs.length = 0 from by omega] at hi
          obtain rfl : g5 = g := by simpa using hi
          exact ⟨hg5M, (heap_setCell_other _ _ _ _ hg5M).trans hh5⟩
      have HGB5 : Hid (W3.grownBy (w5.setCell ⟨w.heap.size + 1, j, none⟩ (.slice (some ⟨g5, 0, none⟩) k k)) (some (w.heap.size + 1))) := grownBy_setCell (grown_below HGB.out hb5) _
      clear hs5 hb5 hh5
      go_wp2
      exact ⟨⟨j + 1, gs ++ [g5], by omega, by go_num, by simp [HG.out], HGB5.out, HT.out, HROW.out⟩, by simp [intOf]; omega⟩
    · obtain rfl : j = r := by omega
      go_wp2_with fail
      refine Calls.mono (of_F k j j _ ((List.range j).map fun i => rowF k (cyN (k + i))) _ (by omega) (by simp) (by omega) (fun x hx => ?_) (.inr ⟨w.heap.size + 1, 0, rfl, fun i x hx => ?_⟩)) ?_
      · obtain ⟨i, _, rfl⟩ := List.mem_map.1 hx
        exact rowF_len _ _
      · simp only [List.getElem?_map, Option.map_eq_some_iff] at hx
        obtain ⟨l, hi, rfl⟩ := hx
        obtain ⟨hjk, hi2⟩ := List.getElem?_eq_some_iff.1 hi
        simp only [List.length_range] at hjk
        simp only [List.getElem_range] at hi2
        subst hi2
        have hjg : i < gs.length := by rw [HG.out]; exact hjk
        have hgj : gs[i]? = some gs[i] := List.getElem?_eq_getElem hjg
        refine ⟨some ⟨gs[i], 0, none⟩, k, ?_, row8_own (HR.out i _ hgj).2⟩
        rw [Nat.zero_add, rowF_len]
        exact cellAt HS.out i _ (slV_at hjg)
      rintro e w5 ⟨g, m, rfl, hm, hg, hh, hb5⟩
      have k2 := heap_later (grown_block HGB.out B0.out (by omega)) hb5
      have c4 := cellAt k2 0 _ rfl
      have c5 := cellAt k2 1 _ rfl
      have c6 := cellAt k2 2 _ rfl
      have d4 : w5.frozen? ⟨w.heap.size, 0, none⟩ = false := frozen_of_row _ _ _ _ _ k2
      have d5 : w5.frozen? ⟨w.heap.size, 1, none⟩ = false := frozen_of_row _ _ _ _ _ k2
      have d6 : w5.frozen? ⟨w.heap.size, 2, none⟩ = false := frozen_of_row _ _ _ _ _ k2
      have HM : Hid _ := hm
      have HH : Hid _ := hh
      have HBW : Hid (Below w.heap.size w w5) := (below_grown B3.out HGB.out (by omega)).trans (hb5.mono (below_grown B3.out HGB.out (by omega)).size)
      have hgw : w.heap.size + 1 < g := by
        have := ltHeap HS.out
        omega
      clear hm hh hb5 k2
      go_wp2
      refine bodyPost_ret (v := .tuple #[.agg #[.int .i64 j, .int .i64 k, .slice (some ⟨g, 0, none⟩) m m], .nilIface]) (by simp [results, Tryz.results69, go_sem, c4, c5, c6]) rfl ⟨g, m, rfl, HM.out, by omega, ?_, ?_⟩
      · rw [heap_setCell_other _ _ _ _ (by show g ≠ w.heap.size; omega), heap_setCell_other _ _ _ _ (by show g ≠ w.heap.size; omega), heap_setCell_other _ _ _ _ (by show g ≠ w.heap.size; omega), parM, grid_flat]
        exact HH.out
      · exact ((HBW.out.setCell (by simp) _).setCell (by simp) _).setCell (by simp) _
end Go.Proofs.YtjmbpldkggbdlaaGreatDoor

/- What Take of package mat answers, of all matrices in form and lists of numbers; nothing that was there turns. -/
namespace Go.Proofs.YtjmbpldkggbdlaaGreatDoor
open Go.RowKit Gf
set_option linter.unusedVariables false
set_option maxRecDepth 20000
/-- the first lists of a list of lists -/
def slW (vs : List Value) (r : Nat) : Array Value := (vs ++ List.replicate (r - vs.length) (Value.slice none 0 0)).toArray
theorem slW_nil (r : Nat) : slV 0 [] r = slW [] r := by
  apply Array.ext_getElem?
  intro i
  by_cases h : i < r <;> simp [slV, slW, h]
theorem slW_at {vs : List Value} {r i : Nat} {v : Value} (h : vs[i]? = some v) : (slW vs r)[i]? = some v := by
  have hi := (List.getElem?_eq_some_iff.1 h).1
  simp only [slW, List.getElem?_toArray]
  rw [List.getElem?_append_left hi, h]
theorem slW_next {vs : List Value} {r : Nat} (h : vs.length < r) : (slW vs r)[vs.length]? = some (.slice none 0 0) := by
  simp only [slW, List.getElem?_toArray]
  rw [List.getElem?_append_right (Nat.le_refl _), Nat.sub_self, List.getElem?_replicate, if_pos (by omega)]
theorem slW_set {vs : List Value} {r : Nat} (v : Value) (h : vs.length < r) : (slW vs r).setIfInBounds vs.length v = slW (vs ++ [v]) r := by
  apply Array.ext_getElem?
  intro i
  rw [Array.getElem?_setIfInBounds]
  simp only [slW, List.getElem?_toArray, List.size_toArray, List.length_append, List.length_replicate]
  by_cases hi : vs.length = i
  · subst hi
    rw [if_pos rfl, if_pos (by omega), List.getElem?_append_left (by simp), List.getElem?_append_right (Nat.le_refl _), Nat.sub_self]; rfl
  · rw [if_neg hi]
    by_cases h2 : i < vs.length
    · rw [List.getElem?_append_left h2, List.getElem?_append_left (by simp; omega), List.getElem?_append_left h2]
    · rw [List.getElem?_append_right (by omega), List.getElem?_append_right (by simp; omega)]
      simp only [List.length_append, List.length_cons, List.length_nil, List.getElem?_replicate]
      by_cases h3 : i < r
      · rw [if_pos (by omega), if_pos (by omega)]
      · rw [if_neg (by omega), if_neg (by omega)]
/-- these values are lists of bytes, of c bytes each -/
def Lists8 (w : World) (c : Nat) (vs : List Value) (L : List (List F)) : Prop :=
  vs.length = L.length ∧ ∀ (j : Nat) (v : Value) (xs : List F), vs[j]? = some v → L[j]? = some xs → ∃ (a : Option Addr) (cap : Nat), v = .slice a c cap ∧ xs.length = c ∧ Row8 w a xs
theorem lists8_nil (w : World) (c : Nat) : Lists8 w c [] [] := ⟨rfl, fun j v xs h => by simp at h⟩
theorem lists8_snoc {w : World} {c cap : Nat} {vs : List Value} {L : List (List F)} {a : Option Addr} {xs : List F} (h : Lists8 w c vs L) (hx : xs.length = c) (hr : Row8 w a xs) : Lists8 w c (vs ++ [.slice a c cap]) (L ++ [xs]) := by
  refine ⟨by simp [h.1], fun j v ys hv hy => ?_⟩
  by_cases hj : j < vs.length
  · rw [List.getElem?_append_left hj] at hv
    rw [List.getElem?_append_left (by rw [← h.1]; exact hj)] at hy
    exact h.2 j v ys hv hy
  · have e := (List.getElem?_eq_some_iff.1 hv).1
    simp at e
    obtain rfl : j = vs.length := by omega
    rw [List.getElem?_append_right (Nat.le_refl _), Nat.sub_self] at hv
    rw [h.1, List.getElem?_append_right (Nat.le_refl _), Nat.sub_self] at hy
    obtain rfl := Option.some.inj hv
    obtain rfl := Option.some.inj hy
    exact ⟨a, cap, rfl, hx, hr⟩
theorem lists8_rows {w w' : World} {c M : Nat} {vs : List Value} {L : List (List F)} (h : Lists8 w c vs L) (hb : Below w.heap.size w w') (hc : ∀ j v, vs[j]? = some v → w'.cell? ⟨M, j, none⟩ = some v) : Rows8 w' (some ⟨M, 0, none⟩) L := by
  refine .inr ⟨M, 0, rfl, fun j xs hj => ?_⟩
  have hlt : j < vs.length := by rw [h.1]; exact (List.getElem?_eq_some_iff.1 hj).1
  have hv := List.getElem?_eq_getElem hlt
  obtain ⟨a, cap, e, hx, hr⟩ := h.2 j _ xs hv hj
  refine ⟨a, cap, ?_, row8_below hr hb⟩
  rw [Nat.zero_add, hc j _ hv, e, hx]
theorem lists8_len {w : World} {c : Nat} {vs : List Value} {L : List (List F)} (h : Lists8 w c vs L) : ∀ xs ∈ L, xs.length = c := fun xs hx => by
  obtain ⟨j, hj, e⟩ := List.getElem_of_mem hx
  have hlt : j < vs.length := by rw [h.1]; exact hj
  obtain ⟨a, cap, _, hl, _⟩ := h.2 j _ xs (List.getElem?_eq_getElem hlt) (by rw [List.getElem?_eq_getElem hj, e])
  exact hl
/-- the rows with these numbers -/
def takeM (c : Nat) (xs : List F) (ns : List Int) : List (List F) := ns.map fun n => rowAt c xs n.toNat
set_option maxHeartbeats 1000000 in
theorem take_F (r c l cap ln cn : Nat) (a an : Option Addr) (xs : List F) (ns : List Int) (w : World) (hr : r ≤ 64) (hc : c ≤ 64) (hl : l = r * c) (hx : xs.length = r * c) (hcap : l ≤ cap) (hX : Row8 w a xs) (hnil : a = none → cap = 0)
    (hln : ln = ns.length) (hn : ln ≤ 64) (hN : RowI w an ns) (s : Addr) (hs : w.cell? ⟨3, 0, none⟩ = some (errAt s)) :
    Calls Tryz.prog 35 #[.agg #[.int .i64 r, .int .i64 c, .slice a l cap], .slice an ln cn] w fun e w' =>
      (∀ n ∈ ns, 0 ≤ n ∧ n < r) ∧ (∃ g m, e = .returned (.tuple #[.agg #[.int .i64 ln, .int .i64 c, .slice (some ⟨g, 0, none⟩) m m], .nilIface]) ∧ m = ln * c ∧ w.heap.size ≤ g ∧
        w'.heap[g]? = some (.cells (vfs (takeM c xs ns).flatten) 5 (0, 0)) ∧ Below w.heap.size w w') ∨
      ¬ (∀ n ∈ ns, 0 ≤ n ∧ n < r) ∧ e = .returned (.tuple #[.agg #[.int .i64 0, .int .i64 0, .slice none 0 0], errAt s]) ∧ Below w.heap.size w w' := by
  have hlt0 := World.block_lt_of_cell? w _ hs
  simp at hlt0
  have HL : Hid _ := hl
  have HX : Hid _ := hx
  have HR : Hid (Row8 w a xs) := hX
  have HN : Hid _ := hnil
  have HLN : Hid _ := hln
  have HI : Hid _ := hN
  have HS : Hid _ := hs
  clear hl hx hX hnil hln hN hs
  have hmk := run_makeS ln hn
  rw [slW_nil] at hmk
  unfold errAt at *
  go_enter Tryz.func35, Tryz.ntmps35
  go_wp2_with fail
  refine Calls.mono (check_ok r c a l cap _ hr hc HL.out) ?_
  rintro e w1 ⟨rfl, hb1⟩
  have z1 := hb1.size
  simp only [World.size_alloc] at z1
  have z2 : w.heap.size < w1.heap.size := by omega
  have z3 : w.heap.size + 1 < w1.heap.size := by omega
  have B0' : Hid _ := heap_later (heap_alloc2_old w (.cells #[.int .i64 r, .int .i64 c, .slice a l cap] 63) (.cells #[.int .i64 0, .int .i64 0, .slice none 0 0] 63)) hb1
  have B1' : Hid _ := heap_later (heap_alloc2_new w (.cells #[.int .i64 r, .int .i64 c, .slice a l cap] 63) (.cells #[.int .i64 0, .int .i64 0, .slice none 0 0] 63)) hb1
  have HB1 : Hid (Below w.heap.size w w1) := (((Below.refl w.heap.size w).alloc (Nat.le_refl _) _).alloc (by simp) _).trans (hb1.mono (by simp; omega))
  clear hb1
  go_wp2
  have B0 : Hid _ := (Below.heap_alloc w1 (.cells (slW [] ln) 61) _ z2).trans B0'.out
  have B1 : Hid _ := (Below.heap_alloc w1 (.cells (slW [] ln) 61) _ z3).trans B1'.out
  have B3 : Hid _ := heap_alloc_last w1 (.cells (slW [] ln) 61)
  have B4 : Hid (Below w.heap.size w (w1.alloc (.cells (slW [] ln) 61))) := HB1.out.alloc (by omega) _
  clear HB1 B0' B1' hmk
  generalize hM : w1.heap.size = M at *
  generalize (w1.alloc (.cells (slW [] ln) 61)) = W3 at *
  clear hM
  go_loopw [24] (fun i wr => ∃ k : Nat, ∃ vs : List Value, k ≤ ln ∧ i = .int .i64 k ∧ vs.length = k ∧ W3.grownBy wr (some M) ∧ wr.heap[M]? = some (.cells (slW vs ln) 61 (0, 0)) ∧ Lists8 w c vs (takeM c xs (ns.take k)) ∧ ∀ n ∈ ns.take k, 0 ≤ n ∧ n < r) (fun i _ => ln - (intOf i).toNat)
  case atStart => exact ⟨0, [], by omega, rfl, rfl, World.grownBy.refl _ _, B3.out, by simpa [takeM] using lists8_nil w c, by simp⟩
  case round =>
    obtain ⟨k, vs, hk, rfl, hvs, hgb, hs, hls, hall⟩ := hrel
    have hbw := below_grown B4.out hgb (by omega)
    have k0 := grown_block hgb B0.out (by omega)
    have k1 := grown_block hgb B1.out (by omega)
    have HGB : Hid _ := hgb
    have HG : Hid _ := hs
    have HV : Hid _ := hvs
    have HLS : Hid _ := hls
    have HA : Hid _ := hall
    have HBW : Hid _ := hbw
    by_cases hlt : k < ln
    · have hkn : k < ns.length := by rw [← HLN.out]; exact hlt
      have hget : ns[k]? = some ns[k] := List.getElem?_eq_getElem hkn
      generalize ns[k] = x at hget
      have c0 := cellAt k0 0 _ rfl
      have c1 := cellAt k0 1 _ rfl
      have c2 := cellAt k0 2 _ rfl
      have HGet : Hid _ := hget
      rcases HI.out with e0 | ⟨b, off, rfl, hrows⟩
      · rw [e0] at hkn; simp at hkn
      have c3 := cell_later hbw (hrows k x hget)
      have HK1 : Hid _ := k1
      clear k0 k1 hgb hs hls hall hbw hget hrows hvs
      by_cases hin : 0 ≤ x ∧ x < r
      · obtain ⟨i, rfl⟩ := Int.eq_ofNat_of_zero_le hin.1
        have hi : i < r := by omega
        clear hin
        go_wp2_with (go_at_call 54; refine (there_yes _ _ _ (by omega) (by omega)).mono ?_; rintro e w' ⟨rfl, rfl⟩)
        refine Calls.mono (rowOf_G r c i l cap a xs w _ hr hc hi HL.out HX.out hcap HR.out HN.out) ?_
        rintro e w4 ⟨a', cap', rfl, hr4, hc4, hn4, hs4, hb4⟩
        have hs5 := heap_later HG.out hb4
        have c7 : w4.cell? ⟨M, k, none⟩ = some (.slice none 0 0) := cellAt hs5 k _ (by have e := slW_next (vs := vs) (r := ln) (by rw [HV.out]; exact hlt); rwa [HV.out] at e)
        have c8 : w4.frozen? ⟨M, k, none⟩ = false := frozen_of_row _ _ _ _ _ hs5
        have HGB4 : Hid _ := grown_below HGB.out hb4
        have HG4 : Hid _ := hs5
        have HR4 : Hid _ := hr4
        clear hs5 hb4 hr4 hc4 hn4 hs4 c0 c1 c2 c3
        go_wp2
        refine ⟨⟨k + 1, vs ++ [.slice a' c cap'], by omega, by go_num, by simp [HV.out], grownBy_setCell HGB4.out _, ?_, ?_, ?_⟩, by simp [intOf]; omega⟩
        · have e := slW_set (.slice a' c cap') (vs := vs) (r := ln) (by rw [HV.out]; exact hlt)
          rw [HV.out] at e
          rw [heap_setCell_same _ _ _ _ _ _ HG4.out, e]
        · rw [List.take_succ_eq_append_getElem (by omega)]
          have e2 : ns[k]'(by omega) = (i : Int) := by have := HGet.out; rw [List.getElem?_eq_getElem (by omega)] at this; exact Option.some.inj this
          rw [e2, takeM, List.map_append]
          exact lists8_snoc HLS.out (rowAt_len HX.out hi) HR4.out
        · rw [List.take_succ_eq_append_getElem (by omega)]
          have e2 : ns[k]'(by omega) = (i : Int) := by have := HGet.out; rw [List.getElem?_eq_getElem (by omega)] at this; exact Option.some.inj this
          intro n hn
          rw [e2, List.mem_append, List.mem_singleton] at hn
          rcases hn with hn | rfl
          · exact HA.out n hn
          · omega
      · have HIN : Hid _ := hin
        have c9 := (HBW.out.cell (p := ⟨3, 0, none⟩) hlt0).trans HS.out
        have c4 := cellAt HK1.out 0 _ rfl
        have c5 := cellAt HK1.out 1 _ rfl
        have c6 := cellAt HK1.out 2 _ rfl
        have d4 : wr.frozen? ⟨w.heap.size + 1, 0, none⟩ = false := frozen_of_row _ _ _ _ _ HK1.out
        have d5 : wr.frozen? ⟨w.heap.size + 1, 1, none⟩ = false := frozen_of_row _ _ _ _ _ HK1.out
        have d6 : wr.frozen? ⟨w.heap.size + 1, 2, none⟩ = false := frozen_of_row _ _ _ _ _ HK1.out
        clear hin
        go_wp2_with (go_at_call 54; refine (there_no _ _ _ HIN.out).mono ?_; rintro e w' ⟨rfl, rfl⟩)
        go_region
        go_wp2
        refine bodyPost_ret (v := .tuple #[.agg #[.int .i64 0, .int .i64 0, .slice none 0 0], .iface 188 (.pointer (some s))]) (by simp [results, Tryz.results35, go_sem, c4, c5, c6]) rfl (.inr ⟨fun h => HIN.out (h x (List.mem_of_getElem? HGet.out)), rfl, ?_⟩)
        exact (((HBW.out.drew).setCell (by simp) _).setCell (by simp) _).setCell (by simp) _
    · have e : k = ln := by omega
      subst e
      have hd : ns.take k = ns := List.take_of_length_le (by rw [HLN.out]; exact Nat.le_refl _)
      have c0 := cellAt k0 0 _ rfl
      have c1 := cellAt k0 1 _ rfl
      have c2 := cellAt k0 2 _ rfl
      rw [hd] at hall hls
      have hr8 := lists8_rows hls hbw (M := M) (fun j v hj => cellAt hs j v (slW_at hj))
      have HALL : Hid _ := hall
      have HLL : Hid _ := lists8_len hls
      have HR8 : Hid _ := hr8
      have HL2 : Hid (k = (takeM c xs ns).length) := by show _ = _; rw [takeM, List.length_map]; exact HLN.out
      have HK1 : Hid _ := k1
      clear k0 k1 hgb hs hls hall hbw hvs hd hr8
      go_wp2_with fail
      refine Calls.mono (of_F c k k _ (takeM c xs ns) _ hc HL2.out hn HLL.out HR8.out) ?_
      rintro e w5 ⟨g, m, rfl, hm, hg, hh, hb5⟩
      have k5 := heap_later HK1.out hb5
      have c4 := cellAt k5 0 _ rfl
      have c5 := cellAt k5 1 _ rfl
      have c6 := cellAt k5 2 _ rfl
      have d4 : w5.frozen? ⟨w.heap.size + 1, 0, none⟩ = false := frozen_of_row _ _ _ _ _ k5
      have d5 : w5.frozen? ⟨w.heap.size + 1, 1, none⟩ = false := frozen_of_row _ _ _ _ _ k5
      have d6 : w5.frozen? ⟨w.heap.size + 1, 2, none⟩ = false := frozen_of_row _ _ _ _ _ k5
      have zg := HBW.out.size
      have z5 := ltHeap HK1.out
      have HB5 : Hid (Below w.heap.size w w5) := HBW.out.trans (hb5.mono zg)
      have HH : Hid _ := hh
      have HM : Hid _ := hm
      clear k5 hb5 hh hm c0 c1 c2
      go_wp2
      refine bodyPost_ret (v := .tuple #[.agg #[.int .i64 k, .int .i64 c, .slice (some ⟨g, 0, none⟩) m m], .nilIface]) (by simp [results, Tryz.results35, go_sem, c4, c5, c6]) rfl (.inl ⟨HALL.out, g, m, rfl, HM.out, by omega, ?_, ?_⟩)
      · rw [heap_setCell_other _ _ _ _ (by show g ≠ w.heap.size + 1; omega), heap_setCell_other _ _ _ _ (by show g ≠ w.heap.size + 1; omega), heap_setCell_other _ _ _ _ (by show g ≠ w.heap.size + 1; omega)]
        exact HH.out
      · exact ((HB5.out.setCell (by simp) _).setCell (by simp) _).setCell (by simp) _
end Go.Proofs.YtjmbpldkggbdlaaGreatDoor

/- What Stack of package mat answers, of all lists of matrices; nothing that was there turns. -/
namespace Go.Proofs.YtjmbpldkggbdlaaGreatDoor
open Go.RowKit Gf
set_option linter.unusedVariables false
set_option maxRecDepth 20000
/-- a matrix as it comes: its numbers, its list, the elements -/
structure Mx where
  r : Int
  c : Int
  a : Option Addr
  l : Nat
  cap : Nat
  xs : List F
/-- a matrix in form, of these columns -/
def Mx.Good (m : Mx) (c : Nat) : Prop := ∃ r : Nat, m.r = r ∧ m.c = c ∧ r ≤ 64 ∧ c ≤ 64 ∧ m.l = r * c
/-- what is known of it -/
def Mx.Lies (m : Mx) (w : World) : Prop := m.l = m.xs.length ∧ m.l ≤ m.cap ∧ Row8 w m.a m.xs ∧ (m.a = none → m.cap = 0)
/-- a list of matrices in memory -/
def MxsAt (w : World) (b : Nat) (ms : List Mx) : Prop := ∀ j m, ms[j]? = some m → w.cell? ⟨b, j * 3, none⟩ = some (.int .i64 m.r) ∧ w.cell? ⟨b, j * 3 + 1, none⟩ = some (.int .i64 m.c) ∧ w.cell? ⟨b, j * 3 + 2, none⟩ = some (.slice m.a m.l m.cap)
def rowsOf (ms : List Mx) : Nat := (ms.map fun m => m.r.toNat).sum
def rowsM (c : Nat) (ms : List Mx) : List (List F) := (ms.map fun m => (List.range m.r.toNat).map (rowAt c m.xs)).flatten
theorem rowsM_snoc (c : Nat) (ms : List Mx) (m : Mx) : rowsM c (ms ++ [m]) = rowsM c ms ++ (List.range m.r.toNat).map (rowAt c m.xs) := by simp [rowsM]
theorem rowsOf_snoc (ms : List Mx) (m : Mx) : rowsOf (ms ++ [m]) = rowsOf ms + m.r.toNat := by simp [rowsOf]
theorem rowsM_len (c : Nat) (ms : List Mx) : (rowsM c ms).length = rowsOf ms := by
  simp only [rowsM, rowsOf, List.length_flatten, List.map_map]
  congr 1
  apply List.map_congr_left
  intro m _
  simp
/-- the whole is as the call wants it -/
def StackOk (c : Int) (ms : List Mx) : Prop := 0 ≤ c ∧ c ≤ 64 ∧ (∀ m ∈ ms, m.Good c.toNat) ∧ rowsOf ms ≤ 64
theorem rowsOf_take_le (ms : List Mx) (k : Nat) : rowsOf (ms.take k) ≤ rowsOf ms := by
  have h := List.take_append_drop k ms
  have : rowsOf (ms.take k ++ ms.drop k) = rowsOf (ms.take k) + rowsOf (ms.drop k) := by simp only [rowsOf, List.map_append, List.sum_append]
  rw [h] at this; omega
set_option maxHeartbeats 2000000 in
theorem stack_F (c : Int) (b n cn : Nat) (ms : List Mx) (w : World) (hb : b < w.heap.size) (hn : n = ms.length) (hn6 : n ≤ 100) (hA : MxsAt w b ms) (hM : ∀ m ∈ ms, m.Lies w) (s : Addr) (hs : w.cell? ⟨2, 0, none⟩ = some (errAt s)) :
    Calls Tryz.prog 71 #[.int .i64 c, .slice (some ⟨b, 0, none⟩) n cn] w fun e w' =>
      (StackOk c ms ∧ ∃ g m, e = .returned (.tuple #[.agg #[.int .i64 (rowsOf ms), .int .i64 c, .slice (some ⟨g, 0, none⟩) m m], .nilIface]) ∧ m = rowsOf ms * c.toNat ∧ w.heap.size ≤ g ∧
        w'.heap[g]? = some (.cells (vfs (rowsM c.toNat ms).flatten) 5 (0, 0)) ∧ Below w.heap.size w w') ∨
      ¬ StackOk c ms ∧ e = .returned (.tuple #[.agg #[.int .i64 0, .int .i64 0, .slice none 0 0], errAt s]) ∧ Below w.heap.size w w' := by
  have hlt0 := World.block_lt_of_cell? w _ hs
  simp at hlt0
  have HN : Hid _ := hn
  have HA : Hid _ := hA
  have HM : Hid _ := hM
  have HS : Hid _ := hs
  clear hn hA hM hs
  unfold errAt at *
  have B1 : Hid _ := heap_alloc_last w (.cells #[.int .i64 0, .int .i64 0, .slice none 0 0] 63)
  have B4 : Hid (Below w.heap.size w (w.alloc (.cells #[.int .i64 0, .int .i64 0, .slice none 0 0] 63))) := (Below.refl _ _).alloc (Nat.le_refl _) _
  go_enter Tryz.func71, Tryz.ntmps71
  go_wp2
  have z0 : w.heap.size < (w.alloc (.cells #[.int .i64 0, .int .i64 0, .slice none 0 0] 63)).heap.size := by simp
  generalize (w.alloc (.cells #[.int .i64 0, .int .i64 0, .slice none 0 0] 63)) = W at *
  go_loopw [6, 12] (fun v i wr => ∃ k : Nat, ∃ vs : List Value, k ≤ n ∧ i = .int .i64 k ∧ Below (w.heap.size + 1) W wr ∧ wr.ownsRow (w.heap.size + 1) 61 1 v (rowsOf (ms.take k)) vs ∧ Lists8 w c.toNat vs (rowsM c.toNat (ms.take k)) ∧ rowsOf (ms.take k) ≤ 64 ∧ ∀ m ∈ ms.take k, m.Good c.toNat ∧ 0 ≤ c) (fun _ i _ => n - (intOf i).toNat)
  case atStart => exact ⟨0, [], by omega, rfl, Below.refl _ _, by simpa [rowsOf] using World.ownsRow_nil _ _ _ _, by simpa [rowsM] using lists8_nil w _, by simp [rowsOf], by simp⟩
  case round =>
    obtain ⟨k, vs, hk, rfl, hbw, hown, hls, hro, hall⟩ := hrel
    by_cases hlt : k < n
    · have hkm : k < ms.length := by rw [← HN.out]; exact hlt
      have hget : ms[k]? = some ms[k] := List.getElem?_eq_getElem hkm
      generalize ms[k] = x at hget
      have hc012 := HA.out k x hget
      have hBw : Below w.heap.size w wr := B4.out.trans (hbw.mono (by omega))
      have c0 := cell_later hBw hc012.1
      have c1 := cell_later hBw hc012.2.1
      have c2 := cell_later hBw hc012.2.2
      have c9 := cell_later hBw HS.out
      have HGet : Hid _ := hget
      have HOwn : Hid _ := hown
      have HLS : Hid _ := hls
      have HBW : Hid _ := hbw
      have HAll : Hid _ := hall
      have HLies : Hid _ := HM.out x (List.mem_of_getElem? hget)
      have z1 : w.heap.size + 1 ≤ wr.heap.size := by have := hbw.size; omega
      have k1 : Hid _ := (hbw.block w.heap.size (by omega)).trans B1.out
      clear hget hown hls hbw hall hBw hc012
      obtain ⟨xr, xc, xa, xl, xcap, xxs⟩ := x
      have HB0 : Hid (Below w.heap.size w wr) := B4.out.trans (HBW.out.mono (by omega))
      have hlen : ∃ gv capv, u6 = .slice gv (rowsOf (ms.take k)) capv := by
        rcases HOwn.out.2 with ⟨rfl, e⟩ | ⟨g, cap, cur, rfl, _⟩
        · exact ⟨none, 0, by rw [e]⟩
        · exact ⟨_, _, rfl⟩
      obtain ⟨gv, capv, rfl⟩ := hlen
      by_cases hf : 0 ≤ xr ∧ xr ≤ 64 ∧ 0 ≤ xc ∧ xc ≤ 64 ∧ (xl : Int) = xr * xc
      · obtain ⟨r, rfl⟩ := Int.eq_ofNat_of_zero_le hf.1
        obtain ⟨d, rfl⟩ := Int.eq_ofNat_of_zero_le hf.2.2.1
        have hr : r ≤ 64 := by omega
        have hd : d ≤ 64 := by omega
        have hl : xl = r * d := by have := hf.2.2.2.2; rw [← Int.natCast_mul] at this; omega
        have HL : Hid _ := hl
        clear hf hl
        go_wp2_with fail
        refine Calls.mono (check_ok r d xa xl xcap _ hr hd HL.out) ?_
        rintro e w1 ⟨rfl, hb1⟩
        have hB1 : Below wr.heap.size wr w1 := ((Below.refl _ _).alloc (Nat.le_refl _) _).trans (hb1.mono (by simp))
        have kx := heap_later (heap_alloc_last wr (.cells #[.int .i64 r, .int .i64 d, .slice xa xl xcap] 63)) hb1
        have e1 := cellAt kx 0 _ rfl
        have e2 := cellAt kx 1 _ rfl
        have e3 := cellAt kx 2 _ rfl
        have k1' := heap_later k1.out hB1
        have c4 := cellAt k1' 0 _ rfl
        have c5 := cellAt k1' 1 _ rfl
        have c6 := cellAt k1' 2 _ rfl
        have d4 : w1.frozen? ⟨w.heap.size, 0, none⟩ = false := frozen_of_row _ _ _ _ _ k1'
        have d5 : w1.frozen? ⟨w.heap.size, 1, none⟩ = false := frozen_of_row _ _ _ _ _ k1'
        have d6 : w1.frozen? ⟨w.heap.size, 2, none⟩ = false := frozen_of_row _ _ _ _ _ k1'
        have c9 := cell_later hB1 c9
        have HB1 : Hid (Below w.heap.size w w1) := HB0.out.trans (hB1.mono HB0.out.size)
        have HR1 : Hid _ := own_below HOwn.out hB1
        have HKX : Hid _ := kx
        have HK1 : Hid _ := k1'
        have HBW1 : Hid (Below (w.heap.size + 1) W w1) := HBW.out.trans (hB1.mono z1)
        clear hb1 kx k1' c0 c1 c2
        by_cases hdc : (d : Int) = c
        · subst hdc
          by_cases hsum : rowsOf (ms.take k) + r ≤ 64
          · clear c4 c5 c6 d4 d5 d6 c9
            go_wp2
            have z2 := hB1.size
            clear hB1
            generalize hM : wr.heap.size = M at *
            go_loopw [6, 37] (fun v i wq => ∃ q : Nat, ∃ us : List Value, q ≤ r ∧ i = .int .i64 q ∧ Below (w.heap.size + 1) W wq ∧ wq.heap[M]? = some (.cells #[.int .i64 r, .int .i64 d, .slice xa xl xcap] 63 (0, 0)) ∧ wq.ownsRow (w.heap.size + 1) 61 1 v (rowsOf (ms.take k) + q) us ∧
              Lists8 w d us (rowsM d (ms.take k) ++ (List.range q).map (rowAt d xxs))) (fun _ i _ => r - (intOf i).toNat)
            case atStart => exact ⟨0, vs, by omega, rfl, HBW1.out, HKX.out, HR1.out, by rw [List.range_zero, List.map_nil, List.append_nil]; exact HLS.out⟩
            case round =>
              obtain ⟨q, us, hq, rfl, hbq, hxq, hoq, hlq⟩ := hrel
              have HBQ : Hid _ := hbq
              have HXQ : Hid _ := hxq
              have HOQ : Hid _ := hoq
              have HLQ : Hid _ := hlq
              by_cases hltq : q < r
              · have f1 := cellAt hxq 0 _ rfl
                have f2 := cellAt hxq 1 _ rfl
                have f3 := cellAt hxq 2 _ rfl
                clear hbq hxq hoq hlq
                go_wp2_with fail
                refine Calls.mono (rowOf_G r d q xl xcap xa xxs w _ hr hd hltq HL.out (by rw [← HLies.out.1]; exact HL.out) HLies.out.2.1 HLies.out.2.2.1 HLies.out.2.2.2) ?_
                rintro e w4 ⟨a', cap', rfl, hr4, hc4, hn4, hs4, hb4⟩
                have ho4 := (own_below HOQ.out hb4).alloc (.cells #[.slice a' d cap'] 61)
                have hx4 := (Below.heap_alloc w4 (.cells #[.slice a' d cap'] 61) _ (ltHeap (heap_later HXQ.out hb4))).trans (heap_later HXQ.out hb4)
                have hB4 : Below (w.heap.size + 1) W (w4.alloc (.cells #[.slice a' d cap'] 61)) := (HBQ.out.trans (hb4.mono (by have := HBQ.out.size; omega))).alloc (by have := HBQ.out.size; have := hb4.size; omega) _
                obtain ⟨g2, cap2, w2, hrun, ho2, hgr, hor, hlt2⟩ := appendS (b := w4.heap.size) (c := 1) (x := .slice a' d cap') 83 ho4 (cellAt (heap_alloc_last w4 (.cells #[.slice a' d cap'] 61)) 0 _ rfl) rfl (by omega) (by have := hB4.size; omega)
                have HRun : Hid _ := hrun
                have HO2 : Hid _ := ho2
                have HX2 : Hid _ := own_other ho4 hgr hx4 (by decide)
                have HB2 : Hid _ := below_own hB4 ho4 hgr (by have := hB4.size; omega)
                have HR4 : Hid _ := hr4
                clear hrun ho2 hgr hor hlt2 hB4 hx4 ho4 hb4 hr4 f1 f2 f3
                go_wp2_with (at_builtin; refine wpList_append_run rfl _ _ 83 rfl _ _ _ _ rfl rfl HRun.out ?_)
                refine ⟨⟨q + 1, _, by omega, by go_num, HB2.out, HX2.out, HO2.out, ?_⟩, by simp [intOf]; omega⟩
                rw [List.range_succ, List.map_append, ← List.append_assoc]
                exact lists8_snoc HLQ.out (rowAt_len (by rw [← HLies.out.1]; exact HL.out) hltq) HR4.out
              · obtain rfl : q = r := by omega
                clear hbq hxq hoq hlq
                go_wp2
                have hk1 : k < ms.length := by rw [← HN.out]; exact hlt
                have e9 : ms[k] = ⟨(q : Int), (d : Int), xa, xl, xcap, xxs⟩ := by have := HGet.out; rw [List.getElem?_eq_getElem hk1] at this; exact Option.some.inj this
                have hro' : rowsOf (ms.take (k + 1)) = rowsOf (ms.take k) + q := by rw [List.take_succ_eq_append_getElem hk1, e9, rowsOf_snoc]; rfl
                have hrm' : rowsM d (ms.take (k + 1)) = rowsM d (ms.take k) ++ (List.range q).map (rowAt d xxs) := by rw [List.take_succ_eq_append_getElem hk1, e9, rowsM_snoc]; rfl
                refine ⟨⟨k + 1, us, by omega, by go_num, HBQ.out, by rw [hro']; exact HOQ.out, ?_, by rw [hro']; exact hsum, ?_⟩, by simp [intOf]; omega⟩
                · show Lists8 w d us (rowsM d (ms.take (k + 1)))
                  rw [hrm']; exact HLQ.out
                · intro m hm
                  rw [List.take_succ_eq_append_getElem hk1, e9, List.mem_append, List.mem_singleton] at hm
                  rcases hm with hm | rfl
                  · exact HAll.out m hm
                  · exact ⟨⟨q, rfl, rfl, hr, hd, HL.out⟩, by omega⟩
          · have HS9 : Hid _ := hsum
            go_wp2
            go_region
            go_wp2
            refine bodyPost_ret (v := .tuple #[.agg #[.int .i64 0, .int .i64 0, .slice none 0 0], .iface 188 (.pointer (some s))]) (by simp [results, Tryz.results71, go_sem, c4, c5, c6]) rfl (.inr ⟨fun h => ?_, rfl, ?_⟩)
            · have hk1 : k < ms.length := by rw [← HN.out]; exact hlt
              have e9 : ms[k] = ⟨(r : Int), (d : Int), xa, xl, xcap, xxs⟩ := by have := HGet.out; rw [List.getElem?_eq_getElem hk1] at this; exact Option.some.inj this
              have hro' : rowsOf (ms.take (k + 1)) = rowsOf (ms.take k) + r := by rw [List.take_succ_eq_append_getElem hk1, e9, rowsOf_snoc]; rfl
              have h2 := rowsOf_take_le ms (k + 1)
              have h3 := h.2.2.2
              exact HS9.out (by omega)
            · exact (((HB1.out.drew).setCell (by simp) _).setCell (by simp) _).setCell (by simp) _
        · have HS9 : Hid _ := hdc
          go_wp2
          go_region
          go_wp2
          refine bodyPost_ret (v := .tuple #[.agg #[.int .i64 0, .int .i64 0, .slice none 0 0], .iface 188 (.pointer (some s))]) (by simp [results, Tryz.results71, go_sem, c4, c5, c6]) rfl (.inr ⟨fun h => ?_, rfl, ?_⟩)
          · obtain ⟨r2, _, h2, _⟩ := h.2.2.1 _ (List.mem_of_getElem? HGet.out)
            have h3 := h.1
            have h4 : (d : Int) = (c.toNat : Int) := h2
            exact HS9.out (by omega)
          · exact (((HB1.out.drew).setCell (by simp) _).setCell (by simp) _).setCell (by simp) _
      · have HF : Hid _ := hf
        have c9' := cell?_alloc_old (.cells #[.int .i64 xr, .int .i64 xc, .slice xa xl xcap] 63) c9
        have HC9 : Hid _ := c9'
        clear hf c9'
        go_wp2_with fail
        refine Calls.mono (check_bad xr xc xa xl xcap _ _ HC9.out HF.out) ?_
        rintro e w1 ⟨rfl, hb1⟩
        have hB1 : Below wr.heap.size wr w1 := ((Below.refl _ _).alloc (Nat.le_refl _) _).trans (hb1.mono (by simp))
        have k1' := heap_later k1.out hB1
        have c4 := cellAt k1' 0 _ rfl
        have c5 := cellAt k1' 1 _ rfl
        have c6 := cellAt k1' 2 _ rfl
        have d4 : w1.frozen? ⟨w.heap.size, 0, none⟩ = false := frozen_of_row _ _ _ _ _ k1'
        have d5 : w1.frozen? ⟨w.heap.size, 1, none⟩ = false := frozen_of_row _ _ _ _ _ k1'
        have d6 : w1.frozen? ⟨w.heap.size, 2, none⟩ = false := frozen_of_row _ _ _ _ _ k1'
        have c9 := cell_later hB1 c9
        have HB1 : Hid (Below w.heap.size w w1) := HB0.out.trans (hB1.mono HB0.out.size)
        clear hb1 k1' c0 c1 c2 hB1
        go_wp2
        go_region
        go_wp2
        refine bodyPost_ret (v := .tuple #[.agg #[.int .i64 0, .int .i64 0, .slice none 0 0], .iface 188 (.pointer (some s))]) (by simp [results, Tryz.results71, go_sem, c4, c5, c6]) rfl (.inr ⟨fun h => ?_, rfl, ?_⟩)
        · obtain ⟨r2, h1, h2, h3, h4, h5⟩ := h.2.2.1 _ (List.mem_of_getElem? HGet.out)
          have h1 : xr = (r2 : Int) := h1
          have h2 : xc = (c.toNat : Int) := h2
          have h5 : xl = r2 * c.toNat := h5
          refine HF.out ⟨by omega, by omega, by omega, by omega, ?_⟩
          rw [h1, h2, h5, Int.natCast_mul]
        · exact (((HB1.out.drew).setCell (by simp) _).setCell (by simp) _).setCell (by simp) _
    · obtain rfl : k = n := by omega
      have hd : ms.take k = ms := List.take_of_length_le (by rw [HN.out]; exact Nat.le_refl _)
      rw [hd] at hown hls hro hall
      have HB0 : Hid (Below w.heap.size w wr) := B4.out.trans (hbw.mono (by omega))
      have z1 : w.heap.size + 1 ≤ wr.heap.size := by have := hbw.size; omega
      have k1 : Hid _ := (hbw.block w.heap.size (by omega)).trans B1.out
      have hlen : ∃ gv capv, u6 = .slice gv (rowsOf ms) capv ∧ Rows8 wr gv (rowsM c.toNat ms) := by
        rcases hown.2 with ⟨rfl, e⟩ | ⟨g, cap, cur, rfl, h2⟩
        · exact ⟨none, 0, by rw [e], .inl (List.eq_nil_of_length_eq_zero (by rw [rowsM_len, e]))⟩
        · exact ⟨_, _, rfl, lists8_rows hls HB0.out (fun j v hj => by
            have hjl := (List.getElem?_eq_some_iff.1 hj).1
            have := hown.1
            rw [hown.cellAt j (by omega), hj])⟩
      obtain ⟨gv, capv, rfl, hr8⟩ := hlen
      have HR8 : Hid _ := hr8
      have HLL : Hid _ := lists8_len hls
      have HAll : Hid _ := hall
      clear hr8 hls hall hown hbw hd
      by_cases hc : 0 ≤ c ∧ c ≤ 64
      · obtain ⟨d, rfl⟩ := Int.eq_ofNat_of_zero_le hc.1
        have hd : d ≤ 64 := by omega
        clear hc
        go_wp2_with fail
        refine Calls.mono (of_F d (rowsOf ms) capv gv (rowsM d ms) _ hd (rowsM_len _ _).symm hro HLL.out HR8.out) ?_
        rintro e w5 ⟨g, m, rfl, hm, hg, hh, hb5⟩
        have k5 := heap_later k1.out hb5
        have c4 := cellAt k5 0 _ rfl
        have c5 := cellAt k5 1 _ rfl
        have c6 := cellAt k5 2 _ rfl
        have d4 : w5.frozen? ⟨w.heap.size, 0, none⟩ = false := frozen_of_row _ _ _ _ _ k5
        have d5 : w5.frozen? ⟨w.heap.size, 1, none⟩ = false := frozen_of_row _ _ _ _ _ k5
        have d6 : w5.frozen? ⟨w.heap.size, 2, none⟩ = false := frozen_of_row _ _ _ _ _ k5
        have HB5 : Hid (Below w.heap.size w w5) := HB0.out.trans (hb5.mono HB0.out.size)
        have HH : Hid _ := hh
        have HM' : Hid _ := hm
        clear k5 hb5 hh hm
        go_wp2
        refine bodyPost_ret (v := .tuple #[.agg #[.int .i64 (rowsOf ms), .int .i64 d, .slice (some ⟨g, 0, none⟩) m m], .nilIface]) (by simp [results, Tryz.results71, go_sem, c4, c5, c6]) rfl (.inl ⟨⟨by omega, by omega, fun m hm => (HAll.out m hm).1, hro⟩, g, m, rfl, HM'.out, by omega, ?_, ?_⟩)
        · rw [heap_setCell_other _ _ _ _ (by show g ≠ w.heap.size; omega), heap_setCell_other _ _ _ _ (by show g ≠ w.heap.size; omega), heap_setCell_other _ _ _ _ (by show g ≠ w.heap.size; omega)]
          exact HH.out
        · exact ((HB5.out.setCell (by simp) _).setCell (by simp) _).setCell (by simp) _
      · have HC : Hid _ := hc
        have c9 := cell_later HB0.out HS.out
        have HC9 : Hid _ := c9
        clear hc c9
        go_wp2_with fail
        refine Calls.mono (of_no c (rowsOf ms) capv gv _ _ HC9.out (fun h => HC.out ⟨h.1, h.2.1⟩)) ?_
        rintro e w5 ⟨rfl, hb5⟩
        unfold errAt
        have k5 := heap_later k1.out hb5
        have c4 := cellAt k5 0 _ rfl
        have c5 := cellAt k5 1 _ rfl
        have c6 := cellAt k5 2 _ rfl
        have d4 : w5.frozen? ⟨w.heap.size, 0, none⟩ = false := frozen_of_row _ _ _ _ _ k5
        have d5 : w5.frozen? ⟨w.heap.size, 1, none⟩ = false := frozen_of_row _ _ _ _ _ k5
        have d6 : w5.frozen? ⟨w.heap.size, 2, none⟩ = false := frozen_of_row _ _ _ _ _ k5
        have HB5 : Hid (Below w.heap.size w w5) := HB0.out.trans (hb5.mono HB0.out.size)
        clear k5 hb5
        go_wp2
        refine bodyPost_ret (v := .tuple #[.agg #[.int .i64 0, .int .i64 0, .slice none 0 0], .iface 188 (.pointer (some s))]) (by simp [results, Tryz.results71, go_sem, c4, c5, c6]) rfl (.inr ⟨fun h => HC.out ⟨h.1, h.2.1⟩, rfl, ?_⟩)
        exact ((HB5.out.setCell (by simp) _).setCell (by simp) _).setCell (by simp) _
end Go.Proofs.YtjmbpldkggbdlaaGreatDoor

/- The chapter's worked answers of package mat hold: the function 'alive' of the statements returns true; and what One answers. -/
namespace Go.Proofs.YtjmbpldkggbdlaaGreatDoor
open Go.RowKit Gf
set_option linter.unusedVariables false
set_option maxRecDepth 20000
theorem lit8 (w : World) (x y : F) : (w.alloc (.cells #[.int .u8 (x.toNat : Int), .int .u8 (y.toNat : Int)] 5)).heap[w.heap.size]? = some (.cells (vfs [x, y]) 5 (0, 0)) := heap_alloc_last w _
/-- the identity, made as far as row k -/
def oneP (n k : Nat) : List F := grid n (fun i j => if i = j ∧ i < k then 1 else 0) n
theorem oneP_len (n k : Nat) : (oneP n k).length = n * n := grid_len _ _ _
theorem oneP_zero (n : Nat) : zeros (n * n) = oneP n 0 := by rw [zeros_grid]; exact grid_congr fun i j _ _ => by rw [if_neg (by omega)]
theorem oneP_done (n : Nat) : oneP n n = oneM n := grid_congr fun i j hi _ => by
  by_cases h : i = j
  · rw [if_pos ⟨h, hi⟩, if_pos h]
  · rw [if_neg (fun e => h e.1), if_neg h]
theorem oneP_step {n k : Nat} (hk : k < n) : (oneP n k).set (k * n + k) 1 = oneP n (k + 1) := by
  rw [oneP, grid_set hk hk]
  refine grid_congr fun a b ha hb => ?_
  by_cases h : a = k ∧ b = k
  · rw [if_pos h, if_pos (by omega)]
  · rw [if_neg h]
    by_cases h2 : a = b ∧ a < k
    · rw [if_pos h2, if_pos (by omega)]
    · rw [if_neg h2, if_neg (by omega)]
set_option maxHeartbeats 1000000 in
theorem one_F (r : Nat) (w : World) (hr : r ≤ 64) :
    Calls Tryz.prog 70 #[.int .i64 r] w fun e w' => ∃ g n, e = .returned (.tuple #[.agg #[.int .i64 r, .int .i64 r, .slice (some ⟨g, 0, none⟩) n n], .nilIface]) ∧ n = r * r ∧ w.heap.size ≤ g ∧
      w'.heap[g]? = some (.cells (vfs (oneM r)) 5 (0, 0)) ∧ Below w.heap.size w w' := by
  go_enter Tryz.func70, Tryz.ntmps70
  go_wp2_with fail
  refine Calls.mono (zero_F r r _ hr hr) ?_
  rintro e w2 ⟨g, n, rfl, hn, hg, hh, hb2⟩
  have z2 := hb2.size
  simp only [World.size_alloc] at z2 hg
  have z4 : w.heap.size < w2.heap.size := by omega
  have zg : g < w2.heap.size := ltHeap hh
  have HN : Hid _ := hn
  have HG : Hid _ := hh
  have HB' : Hid (Below w.heap.size w w2) := ((Below.refl w.heap.size w).alloc (Nat.le_refl _) _).trans (hb2.mono (by simp))
  have B1' : Hid _ := heap_later (heap_alloc_last w (.cells #[.int .i64 0, .int .i64 0, .slice none 0 0] 63)) hb2
  clear hn hh hb2
  go_wp2
  have B2 : Hid _ := heap_alloc_last w2 (.cells #[.int .i64 r, .int .i64 r, .slice (some ⟨g, 0, none⟩) n n] 63)
  have B1 : Hid ((w2.alloc (.cells #[.int .i64 r, .int .i64 r, .slice (some ⟨g, 0, none⟩) n n] 63)).heap[w.heap.size]? = some (.cells #[.int .i64 0, .int .i64 0, .slice none 0 0] 63 (0, 0))) :=
    (Below.heap_alloc _ _ _ z4).trans B1'.out
  have B3 : Hid ((w2.alloc (.cells #[.int .i64 r, .int .i64 r, .slice (some ⟨g, 0, none⟩) n n] 63)).heap[g]? = some (.cells (vfs (zeros (r * r))) 5 (0, 0))) := (Below.heap_alloc _ _ _ zg).trans HG.out
  have B4 : Hid (Below w.heap.size w (w2.alloc (.cells #[.int .i64 r, .int .i64 r, .slice (some ⟨g, 0, none⟩) n n] 63))) := HB'.out.alloc (by omega) _
  clear HG HB' B1'
  generalize hM : w2.heap.size = M at *
  generalize (w2.alloc (.cells #[.int .i64 r, .int .i64 r, .slice (some ⟨g, 0, none⟩) n n] 63)) = W3 at *
  clear hM
  go_loopw [18] (fun i wr => ∃ k : Nat, k ≤ r ∧ i = .int .i64 k ∧ W3.grownBy wr (some g) ∧ wr.heap[g]? = some (.cells (vfs (oneP r k)) 5 (0, 0))) (fun i _ => r - (intOf i).toNat)
  case atStart => exact ⟨0, by omega, rfl, World.grownBy.refl _ _, by rw [← oneP_zero]; exact B3.out⟩
  case round =>
    obtain ⟨k, hk, rfl, hgb, hs⟩ := hrel
    by_cases hlt : k < r
    · have k0 := grown_block hgb B2.out (by omega)
      have c1 := cellAt k0 0 _ rfl
      have c2 := cellAt k0 1 _ rfl
      have c3 := cellAt k0 2 _ rfl
      have HGB : Hid _ := hgb
      have HS : Hid _ := hs
      clear k0 hgb hs
      go_wp2_with fail
      refine Calls.mono (rowOf_some r r k g 0 n n _ hr hr hlt HN.out (Nat.le_refl _)) ?_
      rintro e w5 ⟨rfl, hb5⟩
      rw [rof_row hlt HN.out]
      have hp := place_lt (c := r) hlt hlt
      have hs5 := heap_later HS.out hb5
      have c4 := cellAt hs5 _ _ (vfs_get _ _ (show k * r + k < (oneP r k).length by rw [oneP_len]; exact hp))
      have c5 : w5.frozen? ⟨g, k * r + k, none⟩ = false := frozen_of_row _ _ _ _ _ hs5
      have HS5 : Hid _ := hs5
      have HGB5 : Hid _ := grown_below HGB.out hb5
      have HT : Hid _ := oneP_step hlt
      clear hs5 hb5 c1 c2 c3
      go_wp2
      refine ⟨⟨k + 1, by omega, by go_num, grownBy_setCell HGB5.out _, ?_⟩, by simp [intOf]; omega⟩
      have e := vfs_set (oneP r k) (k * r + k) 1
      rw [heap_setCell_same _ _ _ _ _ _ HS5.out, ← HT.out, ← e]; rfl
    · have e : k = r := by omega
      subst e
      rw [oneP_done] at hs
      have k0 := grown_block hgb B2.out (by omega)
      have c1 := cellAt k0 0 _ rfl
      have c2 := cellAt k0 1 _ rfl
      have c3 := cellAt k0 2 _ rfl
      have k1 := grown_block hgb B1.out (by omega)
      have c4 := cellAt k1 0 _ rfl
      have c5 := cellAt k1 1 _ rfl
      have c6 := cellAt k1 2 _ rfl
      have d4 : wr.frozen? ⟨w.heap.size, 0, none⟩ = false := frozen_of_row _ _ _ _ _ k1
      have d5 : wr.frozen? ⟨w.heap.size, 1, none⟩ = false := frozen_of_row _ _ _ _ _ k1
      have d6 : wr.frozen? ⟨w.heap.size, 2, none⟩ = false := frozen_of_row _ _ _ _ _ k1
      have HGB : Hid _ := hgb
      have HS : Hid _ := hs
      clear k0 k1 hgb hs
      go_wp2
      refine bodyPost_ret (v := .tuple #[.agg #[.int .i64 k, .int .i64 k, .slice (some ⟨g, 0, none⟩) n n], .nilIface]) (by simp [results, Tryz.results70, go_sem, c4, c5, c6]) rfl ⟨g, n, rfl, HN.out, by omega, ?_, ?_⟩
      · rw [heap_setCell_other _ _ _ _ (by show g ≠ w.heap.size; omega), heap_setCell_other _ _ _ _ (by show g ≠ w.heap.size; omega), heap_setCell_other _ _ _ _ (by show g ≠ w.heap.size; omega)]
        exact HS.out
      · exact (((below_grown B4.out HGB.out (by omega)).setCell (by simp) _).setCell (by simp) _).setCell (by simp) _
end Go.Proofs.YtjmbpldkggbdlaaGreatDoor

/- What Parity and Generator of package base answer, of all numbers; nothing that was there turns. -/
namespace Go.Proofs.YtjmbpldkggbdlaaGreatDoor
open Go.RowKit Gf
set_option linter.unusedVariables false
set_option maxRecDepth 20000
set_option maxHeartbeats 1000000 in
theorem parity_bad (k r : Int) (w : World) (s : Addr) (hs : w.cell? ⟨0, 0, none⟩ = some (errAt s)) (hk0 : -9223372036854775808 ≤ k) (hk1 : k ≤ 9223372036854775807) (hr0 : -9223372036854775808 ≤ r) (hr1 : r ≤ 9223372036854775807) (h : ¬ LegalP k r) :
    Calls Tryz.prog 69 #[.int .i64 k, .int .i64 r] w fun e w' => e = .returned (.tuple #[.agg #[.int .i64 0, .int .i64 0, .slice none 0 0], errAt s]) ∧ Below w.heap.size w w' := by
  have HS : Hid _ := cell?_alloc_old (.cells #[.int .i64 0, .int .i64 0, .slice none 0 0] 63) hs
  have H : Hid _ := h
  clear h hs
  unfold errAt at *
  go_enter Tryz.func69, Tryz.ntmps69
  go_wp2_with fail
  refine (bcheck_bad k r _ s HS.out hk0 hk1 hr0 hr1 H.out).mono ?_
  unfold errAt
  rintro e w' ⟨rfl, rfl⟩
  go_wp2
  refine bodyPost_ret (v := .tuple #[.agg #[.int .i64 0, .int .i64 0, .slice none 0 0], .iface 188 (.pointer (some s))]) (by simp [results, Tryz.results69, go_sem]) rfl ⟨rfl, ?_⟩
  exact (Below.refl w.heap.size w).alloc (Nat.le_refl _) _
theorem grid_add (c : Nat) (f : Nat → Nat → F) (n : Nat) : ∀ m, grid c f (n + m) = grid c f n ++ grid c (fun i => f (n + i)) m
  | 0 => by simp [grid]
  | m + 1 => by rw [← Nat.add_assoc]; simp only [grid]; rw [grid_add c f n m, List.append_assoc]
/-- the generator -/
def genM (k r : Nat) : List F := grid k (genF k) (k + r)
theorem genM_len (k r : Nat) : (genM k r).length = (k + r) * k := grid_len _ _ _
theorem genM_eq (k r : Nat) : genM k r = oneM k ++ parM k r := by
  rw [genM, grid_add, oneM, parM]
  congr 1
  · exact grid_congr fun i j hi hj => by simp [genF, hi]
  · exact grid_congr fun i j hi hj => by simp only [genF]; rw [if_neg (by omega)]
theorem rows_flat {r c : Nat} {xs : List F} (h : xs.length = r * c) : ((List.range r).map (rowAt c xs)).flatten = xs := by
  have e := grid_of (xs := xs) h
  have := grid_flat c (fun i j => at8 xs (i * c + j)) r
  rw [← e] at this
  rw [this]
  congr 1
  refine List.map_congr_left fun i hi => ?_
  rw [← this]
  exact rowAt_rowF h (List.mem_range.1 hi)
set_option maxHeartbeats 2000000 in
theorem generator_F (k r : Nat) (w : World) (s : Addr) (hs : w.cell? ⟨2, 0, none⟩ = some (errAt s)) (h1 : 1 ≤ k) (h2 : 2 ≤ r) (h3 : k + r ≤ 16) :
    Calls Tryz.prog 47 #[.int .i64 k, .int .i64 r] w fun e w' => ∃ g m, e = .returned (.tuple #[.agg #[.int .i64 (k + r : Nat), .int .i64 k, .slice (some ⟨g, 0, none⟩) m m], .nilIface]) ∧ m = (k + r) * k ∧ w.heap.size ≤ g ∧
      w'.heap[g]? = some (.cells (vfs (genM k r)) 5 (0, 0)) ∧ Below w.heap.size w w' := by
  have HS : Hid _ := hs
  clear hs
  have hA := holds_new (holds_nil w) #[.int .i64 0, .int .i64 0, .slice none 0 0] 63
  have HA : Hid _ := hA
  clear hA
  go_enter Tryz.func47, Tryz.ntmps47
  go_wp2_with fail
  refine Calls.mono (parity_F k r _ h1 h2 h3) ?_
  rintro e w1 ⟨g1, m1, rfl, hm1, hg1, hh1, hb1⟩
  have HA1 : Hid _ := holds_new (holds_cons (holds_later HA.out hb1) hh1) #[.int .i64 r, .int .i64 k, .slice (some ⟨g1, 0, none⟩) m1 m1] 63
  have HB1 : Hid (Below w.heap.size w w1) := ((Below.refl w.heap.size w).alloc (Nat.le_refl _) _).trans (hb1.mono (by simp))
  have HM1 : Hid _ := hm1
  clear hb1 hh1 hg1 hm1 HA
  go_wp2_with fail
  refine Calls.mono (one_F k _ (by omega)) ?_
  rintro e w2 ⟨g2, m2, rfl, hm2, hg2, hh2, hb2⟩
  have HA2 : Hid _ := holds_new (holds_cons (holds_later HA1.out hb2) hh2) #[.int .i64 k, .int .i64 k, .slice (some ⟨g2, 0, none⟩) m2 m2] 63
  have HB2' := (HB1.out.alloc HB1.out.size (.cells #[.int .i64 r, .int .i64 k, .slice (some ⟨g1, 0, none⟩) m1 m1] 63))
  have HB2 : Hid (Below w.heap.size w w2) := HB2'.trans (hb2.mono HB2'.size)
  have HM2 : Hid _ := hm2
  have c1 := cellAt (holds_at HA2.out 2 rfl) 0 _ rfl
  have c2 := cellAt (holds_at HA2.out 2 rfl) 1 _ rfl
  have c3 := cellAt (holds_at HA2.out 2 rfl) 2 _ rfl
  have z1 := ltHeap (holds_at HA2.out 2 rfl)
  clear hb2 hh2 hg2 hm2 HA1 HB1 HB2'
  go_wp2_with fail
  have hbl := heap_alloc_last (w2.alloc (.cells #[.int .i64 k, .int .i64 k, .slice (some ⟨g2, 0, none⟩) m2 m2] 63)) (.cells #[.int .i64 k, .int .i64 k, .slice (some ⟨g2, 0, none⟩) m2 m2, .int .i64 r, .int .i64 k, .slice (some ⟨g1, 0, none⟩) m1 m1] 63)
  rw [World.size_alloc] at hbl
  have hB3 := (HB2.out.alloc HB2.out.size (.cells #[.int .i64 k, .int .i64 k, .slice (some ⟨g2, 0, none⟩) m2 m2] 63)).alloc (by have := HB2.out.size; simp; omega) (.cells #[.int .i64 k, .int .i64 k, .slice (some ⟨g2, 0, none⟩) m2 m2, .int .i64 r, .int .i64 k, .slice (some ⟨g1, 0, none⟩) m1 m1] 63)
  have HA3 : Hid _ := holds_alloc HA2.out (.cells #[.int .i64 k, .int .i64 k, .slice (some ⟨g2, 0, none⟩) m2 m2, .int .i64 r, .int .i64 k, .slice (some ⟨g1, 0, none⟩) m1 m1] 63)
  have hsB := cell_later hB3 HS.out
  have HB3 : Hid _ := hB3
  clear hB3 HA2 HB2
  generalize hWW : ((w2.alloc (.cells #[.int .i64 k, .int .i64 k, .slice (some ⟨g2, 0, none⟩) m2 m2] 63)).alloc (.cells #[.int .i64 k, .int .i64 k, .slice (some ⟨g2, 0, none⟩) m2 m2, .int .i64 r, .int .i64 k, .slice (some ⟨g1, 0, none⟩) m1 m1] 63)) = W5 at *
  clear hWW
  refine Calls.mono (stack_F k (w2.heap.size + 1) 2 2 [⟨k, k, some ⟨g2, 0, none⟩, m2, m2, oneM k⟩, ⟨r, k, some ⟨g1, 0, none⟩, m1, m1, parM k r⟩] _ (ltHeap hbl) rfl (by decide) (fun j m hj => ?_) (fun m hm => ?_) s hsB) ?_
  · match j, hj with
    | 0, hj => obtain rfl := Option.some.inj hj; exact ⟨cellAt hbl 0 _ rfl, cellAt hbl 1 _ rfl, cellAt hbl 2 _ rfl⟩
    | 1, hj => obtain rfl := Option.some.inj hj; exact ⟨cellAt hbl 3 _ rfl, cellAt hbl 4 _ rfl, cellAt hbl 5 _ rfl⟩
  · simp only [List.mem_cons, List.not_mem_nil, or_false] at hm
    rcases hm with rfl | rfl
    · exact ⟨by rw [HM2.out, oneM_len], Nat.le_refl _, holds_row HA3.out 1 rfl, fun h => by cases h⟩
    · exact ⟨by rw [HM1.out, parM_len], Nat.le_refl _, holds_row HA3.out 3 rfl, fun h => by cases h⟩
  have hro : rowsOf [(⟨k, k, some ⟨g2, 0, none⟩, m2, m2, oneM k⟩ : Mx), ⟨r, k, some ⟨g1, 0, none⟩, m1, m1, parM k r⟩] = k + r := by simp [rowsOf]
  have hrm : (rowsM k [(⟨k, k, some ⟨g2, 0, none⟩, m2, m2, oneM k⟩ : Mx), ⟨r, k, some ⟨g1, 0, none⟩, m1, m1, parM k r⟩]).flatten = genM k r := by
    simp only [rowsM, List.map_cons, List.map_nil, Int.toNat_natCast, List.flatten_cons, List.flatten_nil, List.append_nil, List.flatten_append]
    rw [genM_eq, rows_flat (oneM_len k), rows_flat (parM_len k r)]
  have HOK : Hid (StackOk (k : Int) [(⟨k, k, some ⟨g2, 0, none⟩, m2, m2, oneM k⟩ : Mx), ⟨r, k, some ⟨g1, 0, none⟩, m1, m1, parM k r⟩]) := ⟨by omega, by omega, fun m hm => by
    simp only [List.mem_cons, List.not_mem_nil, or_false] at hm
    rcases hm with rfl | rfl
    · exact ⟨k, rfl, rfl, by omega, by omega, HM2.out⟩
    · exact ⟨r, rfl, rfl, by omega, by omega, HM1.out⟩, by rw [hro]; omega⟩
  rintro e w4 (⟨_, g, m, rfl, hm, hg, hh, hb4⟩ | ⟨hno, _⟩)
  rotate_left
  · exact absurd HOK.out hno
  rw [hro] at hm
  have hh' : w4.heap[g]? = some (.cells (vfs (genM k r)) 5 (0, 0)) := by rw [hh]; show some (Obj.cells (vfs (rowsM ((k : Int).toNat) _).flatten) _ _) = _; rw [Int.toNat_natCast, hrm]
  rw [hro]
  have HP : ∃ p : Nat, p = k + r := ⟨_, rfl⟩
  obtain ⟨p, hp⟩ := HP
  rw [← hp] at hm ⊢
  have HPP : Hid _ := hp
  have HM : Hid (m = p * k) := by show m = p * k; simpa using hm
  have k2 := heap_later (holds_at HA3.out 4 rfl) hb4
  have c4 := cellAt k2 0 _ rfl
  have c5 := cellAt k2 1 _ rfl
  have c6 := cellAt k2 2 _ rfl
  have d4 : w4.frozen? ⟨w.heap.size, 0, none⟩ = false := frozen_of_row _ _ _ _ _ k2
  have d5 : w4.frozen? ⟨w.heap.size, 1, none⟩ = false := frozen_of_row _ _ _ _ _ k2
  have d6 : w4.frozen? ⟨w.heap.size, 2, none⟩ = false := frozen_of_row _ _ _ _ _ k2
  have HH : Hid _ := hh'
  have HBW : Hid (Below w.heap.size w w4) := HB3.out.trans (hb4.mono HB3.out.size)
  have hgw : w.heap.size < g := by
    have h1 := ltHeap (holds_at HA3.out 4 rfl)
    have := HB3.out.size; omega
  clear hm hh hh' hb4 k2 hp c1 c2 c3 z1 hbl hsB hrm hro
  go_wp2
  have hp := HPP.out
  clear HPP
  subst hp
  refine bodyPost_ret (v := .tuple #[.agg #[.int .i64 (k + r : Nat), .int .i64 k, .slice (some ⟨g, 0, none⟩) m m], .nilIface]) (by simp [results, Tryz.results47, go_sem, c4, c5, c6]) rfl ⟨g, m, rfl, HM.out, by omega, ?_, ?_⟩
  · rw [heap_setCell_other _ _ _ _ (by show g ≠ w.heap.size; omega), heap_setCell_other _ _ _ _ (by show g ≠ w.heap.size; omega), heap_setCell_other _ _ _ _ (by show g ≠ w.heap.size; omega)]
    exact HH.out
  · exact ((HBW.out.setCell (Nat.le_refl _) _).setCell (Nat.le_refl _) _).setCell (Nat.le_refl _) _
set_option maxHeartbeats 2000000 in
theorem generator_bad (k r : Int) (w : World) (s : Addr) (hs : w.cell? ⟨0, 0, none⟩ = some (errAt s)) (hk0 : -9223372036854775808 ≤ k) (hk1 : k ≤ 9223372036854775807) (hr0 : -9223372036854775808 ≤ r) (hr1 : r ≤ 9223372036854775807) (h : ¬ LegalP k r) :
    Calls Tryz.prog 47 #[.int .i64 k, .int .i64 r] w fun e w' => e = .returned (.tuple #[.agg #[.int .i64 0, .int .i64 0, .slice none 0 0], errAt s]) ∧ Below w.heap.size w w' := by
  have HS : Hid _ := cell?_alloc_old (.cells #[.int .i64 0, .int .i64 0, .slice none 0 0] 63) hs
  have H : Hid _ := h
  clear h hs
  have hA := holds_new (holds_nil w) #[.int .i64 0, .int .i64 0, .slice none 0 0] 63
  have HA : Hid _ := hA
  clear hA
  go_enter Tryz.func47, Tryz.ntmps47
  go_wp2_with fail
  refine Calls.mono (parity_bad k r _ s HS.out hk0 hk1 hr0 hr1 H.out) ?_
  unfold errAt
  rintro e w1 ⟨rfl, hb1⟩
  have k1 := holds_at (holds_later HA.out hb1) 0 rfl
  have c4 := cellAt k1 0 _ rfl
  have c5 := cellAt k1 1 _ rfl
  have c6 := cellAt k1 2 _ rfl
  have d4 : w1.frozen? ⟨w.heap.size, 0, none⟩ = false := frozen_of_row _ _ _ _ _ k1
  have d5 : w1.frozen? ⟨w.heap.size, 1, none⟩ = false := frozen_of_row _ _ _ _ _ k1
  have d6 : w1.frozen? ⟨w.heap.size, 2, none⟩ = false := frozen_of_row _ _ _ _ _ k1
  have z1 := ltHeap k1
  have HB1 : Hid (Below w.heap.size w w1) := ((Below.refl w.heap.size w).alloc (Nat.le_refl _) _).trans (hb1.mono (by simp))
  clear hb1 k1
  go_wp2
  refine bodyPost_ret (v := .tuple #[.agg #[.int .i64 0, .int .i64 0, .slice none 0 0], errAt s]) (by simp [results, Tryz.results47, go_sem, c4, c5, c6, z1, errAt]) rfl ⟨rfl, ?_⟩
  exact (((HB1.out.setCell (Nat.le_refl _) _).setCell (Nat.le_refl _) _).setCell (Nat.le_refl _) _).alloc (by have := HB1.out.size; simp; omega) _
end Go.Proofs.YtjmbpldkggbdlaaGreatDoor

/- What Rows of package half answers, of all numbers; nothing that was there turns. -/
namespace Go.Proofs.YtjmbpldkggbdlaaGreatDoor
open Go.RowKit Gf
set_option linter.unusedVariables false
set_option maxRecDepth 20000
/-- the rows of all halves -/
def halfM (k r : Nat) : List F := grid (2 * k) (halfF k (carN (groupN k r))) (2 * (k + r))
theorem halfM_len (k r : Nat) : (halfM k r).length = 2 * (k + r) * (2 * k) := grid_len _ _ _
theorem hkind_ne {w : World} {a b : Nat} {cs ds : Array Value} {t u : TypeId} {f1 f2 : Nat × Nat} (h1 : w.heap[a]? = some (.cells cs t f1)) (h2 : w.heap[b]? = some (.cells ds u f2)) (h : t ≠ u) : a ≠ b := fun e => by
  subst e; rw [h1] at h2; cases h2; exact h rfl
theorem place_half {k r g s p : Nat} (hs : s < k + r) (hp : p < 2) : rowF (2 * k) (placeF k g s p (rowAt k (genM k r) s)) = rowF (2 * k) (halfF k (carN g) (2 * s + p)) := by
  refine rowF_congr fun v hv => ?_
  rw [genM, rowAt_grid hs]
  simp only [placeF, halfF]
  rw [show (2 * s + p) % 2 = p by omega, show (2 * s + p) / 2 = s by omega]
  by_cases h : v % 2 = p
  · rw [if_pos h, if_pos h, at8_rowF (by omega)]
  · rw [if_neg h, if_neg h]
    by_cases h2 : p = 1 ∧ s = k + carN g (v / 2)
    · rw [if_pos h2, if_pos ⟨h2.1, by omega, by omega⟩]
    · rw [if_neg h2, if_neg (fun h3 => h2 ⟨h3.1, by omega⟩)]
set_option maxHeartbeats 4000000 in
theorem hrows_F (k r : Nat) (w : World) (s0 : Addr) (hs0 : w.cell? ⟨2, 0, none⟩ = some (errAt s0)) (h1 : 1 ≤ k) (h2 : 2 ≤ r) (h3 : k + r ≤ 16) :
    Calls Tryz.prog 34 #[.int .i64 k, .int .i64 r] w fun e w' => ∃ g m, e = .returned (.tuple #[.agg #[.int .i64 (2 * (k + r) : Nat), .int .i64 (2 * k : Nat), .slice (some ⟨g, 0, none⟩) m m], .nilIface]) ∧ m = 2 * (k + r) * (2 * k) ∧ w.heap.size ≤ g ∧
      w'.heap[g]? = some (.cells (vfs (halfM k r)) 5 (0, 0)) ∧ Below w.heap.size w w' := by
  obtain ⟨gr1, _, _, gr2⟩ := groupN_least h1 h2 h3
  have HG : Hid _ := fun w => bgroup_ok k r w h1 h2 h3
  have HV : Hid _ := fun w s hs => generator_F k r w s hs h1 h2 h3
  have hhm : halfM k r = grid (2 * k) (halfF k (carN (groupN k r))) (2 * (k + r)) := rfl
  obtain ⟨gr, hgr⟩ : ∃ gr, gr = groupN k r := ⟨_, rfl⟩
  rw [← hgr] at HG gr1 gr2 hhm
  obtain ⟨n, hn⟩ : ∃ n, n = 2 * (k + r) := ⟨_, rfl⟩
  obtain ⟨c, hc⟩ : ∃ c, c = 2 * k := ⟨_, rfl⟩
  obtain ⟨t, ht⟩ : ∃ t, t = k + r := ⟨_, rfl⟩
  rw [← ht] at HV
  rw [← hn, ← hc] at hhm ⊢
  have en : (2 : Int) * ((k : Int) + r) = n := by omega
  have ec : (2 : Int) * (k : Int) = c := by omega
  have hn32 : n ≤ 32 := by omega
  have hc32 : c ≤ 32 := by omega
  have HN : Hid _ := hn
  have HC : Hid _ := hc
  have HT : Hid _ := ht
  have HHM : Hid _ := hhm
  have HS : Hid _ := hs0
  have hmk := run_makeS n (by omega)
  clear hgr hn hc ht hhm hs0
  have hA := holds_new (holds_nil w) #[.int .i64 0, .int .i64 0, .slice none 0 0] 63
  have HA : Hid _ := hA
  have HB0 : Hid _ := (Below.refl w.heap.size w).alloc (Nat.le_refl _) (.cells #[.int .i64 0, .int .i64 0, .slice none 0 0] 63)
  clear hA
  go_enter Tryz.func34, Tryz.ntmps34
  go_wp2_with fail
  refine Calls.mono (HV.out _ s0 (cell_later HB0.out HS.out)) ?_
  rintro e w1 ⟨g1, m1, rfl, hm1, hg1, hh1, hb1⟩
  have HA1 : Hid _ := holds_new (holds_cons (holds_later HA.out hb1) hh1) #[.int .i64 t, .int .i64 k, .slice (some ⟨g1, 0, none⟩) m1 m1] 63
  have hB1 := HB0.out.trans (hb1.mono HB0.out.size)
  have HB1 : Hid (Below w.heap.size w (w1.alloc (.cells #[.int .i64 t, .int .i64 k, .slice (some ⟨g1, 0, none⟩) m1 m1] 63))) := hB1.alloc hB1.size _
  have HM1 : Hid _ := hm1
  clear hb1 hh1 hg1 hm1 HA hB1
  go_wp2_with fail
  refine Calls.mono (HG.out _) ?_
  rintro e w2 ⟨rfl, rfl⟩
  go_wp2
  have hA2 := holds_cons (holds_alloc HA1.out (.cells (slV 0 [] n) 61)) (heap_alloc_last (w1.alloc (.cells #[.int .i64 t, .int .i64 k, .slice (some ⟨g1, 0, none⟩) m1 m1] 63)) (.cells (slV 0 [] n) 61))
  have hB2 := HB1.out.alloc HB1.out.size (.cells (slV 0 [] n) 61)
  have hz1 := HB1.out.size
  have hz2 := ltHeap (holds_at HA1.out 2 rfl)
  rw [World.size_alloc] at hA2 hz1 hz2
  have HA2 : Hid _ := hA2
  have HB2 : Hid _ := hB2
  clear hA2 hB2 HA1 HB1 hmk
  generalize hM : w1.heap.size + 1 = M at *
  generalize ((w1.alloc (.cells #[.int .i64 t, .int .i64 k, .slice (some ⟨g1, 0, none⟩) m1 m1] 63)).alloc (.cells (slV 0 [] n) 61)) = W3 at *
  have hM0 : w.heap.size < M := by omega
  have hM1 : w1.heap.size < M := by omega
  clear hM
  go_loopw [41] (fun i wr => ∃ j : Nat, ∃ gs : List Nat, j ≤ n ∧ i = .int .i64 j ∧ gs.length = j ∧ Below w.heap.size w wr ∧
    Holds wr [(M, .cells (slV c gs n) 61 (0, 0)), (w1.heap.size, .cells #[.int .i64 t, .int .i64 k, .slice (some ⟨g1, 0, none⟩) m1 m1] 63 (0, 0)), (g1, .cells (vfs (genM k r)) 5 (0, 0)), (w.heap.size, .cells #[.int .i64 0, .int .i64 0, .slice none 0 0] 63 (0, 0))] ∧
    ∀ i g, gs[i]? = some g → g ≠ M ∧ wr.heap[g]? = some (.cells (vfs (rowF c (halfF k (carN gr) i))) 5 (0, 0))) (fun i _ => n - (intOf i).toNat)
  case atStart => exact ⟨0, [], by omega, rfl, rfl, HB2.out, HA2.out, fun j g h => by simp at h⟩
  case round =>
    obtain ⟨j, gs, hj, rfl, hgs, hb, hh, hrows⟩ := hrel
    have HB : Hid _ := hb
    have HH : Hid _ := hh
    have HR : Hid _ := hrows
    have HGS : Hid _ := hgs
    clear hb hh hrows hgs
    by_cases hlt : j < n
    · obtain ⟨s, p, rfl, hp2, hst⟩ : ∃ s p : Nat, j = 2 * s + p ∧ p < 2 ∧ s < t := ⟨j / 2, j % 2, by omega, by omega, by have := HN.out; have := HT.out; omega⟩
      go_wp2_with fail
      refine (placeOf_F (2 * s + p) s p _ rfl hp2 (by have := HT.out; omega)).mono ?_
      rintro e w4 ⟨rfl, hb4⟩
      have HH4 : Hid _ := holds_new (holds_later HH.out hb4) #[.int .i64 s, .int .i64 p] 77
      have hB4 := HB.out.trans (hb4.mono HB.out.size)
      have HB4 : Hid _ := hB4.alloc hB4.size (.cells #[.int .i64 s, .int .i64 p] 77)
      have HR4b : Hid (∀ (k0 : Nat) (o : Obj), wr.heap[k0]? = some o → (w4.alloc (.cells #[.int .i64 s, .int .i64 p] 77)).heap[k0]? = some o) := fun k0 o h => (Below.heap_alloc _ _ _ (ltHeap (heap_later h hb4))).trans (heap_later h hb4)
      have zz4 := hb4.size
      clear hb4 hB4
      have c1 := cellAt (holds_at HH4.out 2 rfl) 0 _ rfl
      have c2 := cellAt (holds_at HH4.out 2 rfl) 1 _ rfl
      have c3 := cellAt (holds_at HH4.out 2 rfl) 2 _ rfl
      have c4 := cellAt (holds_at HH4.out 0 rfl) 0 _ rfl
      have z4 := ltHeap (holds_at HH4.out 0 rfl)
      have z5 := ltHeap (holds_at HH4.out 2 rfl)
      go_wp2_with fail
      refine Calls.mono (row_F t k m1 m1 s (some ⟨g1, 0, none⟩) (genM k r) _ (by have := HT.out; omega) (by omega) (by have := HM1.out; simpa using this) (by rw [genM_len, HT.out]) (Nat.le_refl _) (holds_row HH4.out 3 rfl) (fun h => by cases h) hst) ?_
      rintro e w5 ⟨a5, cap5, rfl, hr5, hn5, _, hb5⟩
      have HR5 : Hid _ := hr5
      have HH5 : Hid _ := holds_later HH4.out hb5
      have HB5 : Hid (Below w.heap.size w w5) := HB4.out.trans (hb5.mono HB4.out.size)
      have HR5b : Hid (∀ (k0 : Nat) (o : Obj), wr.heap[k0]? = some o → w5.heap[k0]? = some o) := fun k0 o h => heap_later (HR4b.out k0 o h) hb5
      clear hr5 hb5 hn5 c1 c2 c3 c4 z4 z5 HB4
      have c1 := cellAt (holds_at HH5.out 0 rfl) 0 _ rfl
      have c2 := cellAt (holds_at HH5.out 0 rfl) 1 _ rfl
      have z5 := ltHeap (holds_at HH5.out 0 rfl)
      go_wp2_with fail
      refine Calls.mono (hrowAt_F k gr s p cap5 a5 _ _ h1 (by omega) gr1 gr2 (by have := HT.out; omega) hp2 (rowAt_len (by rw [genM_len]) (by rw [← HT.out]; exact hst)) HR5.out) ?_
      rintro e w6 ⟨g6, n6, rfl, hn6, hg6, hh6, hb6⟩
      obtain rfl : n6 = c := by have := HC.out; omega
      rw [place_half (by have := HT.out; omega) hp2, ← HC.out] at hh6
      have hs6 := heap_later (holds_at HH5.out 1 rfl) hb6
      have z6 := ltHeap (holds_at HH5.out 1 rfl)
      have hg6M : g6 ≠ M := by omega
      have HG2 := HGS.out
      have c7 : w6.cell? ⟨M, 2 * s + p, none⟩ = some (.slice none 0 0) := cellAt hs6 (2 * s + p) _ (by have e := slV_next (c := n6) (gs := gs) (r := n) (by rw [HG2]; exact hlt); rwa [HG2] at e)
      have c8 : w6.frozen? ⟨M, 2 * s + p, none⟩ = false := frozen_of_row _ _ _ _ _ hs6
      have hW : ∀ (k0 : Nat) (o : Obj), k0 ≠ M → w6.heap[k0]? = some o → (w6.setCell ⟨M, 2 * s + p, none⟩ (.slice (some ⟨g6, 0, none⟩) n6 n6)).heap[k0]? = some o := fun k0 o h1 h2 => (heap_setCell_other _ _ _ _ h1).trans h2
      have HT6 : Hid ((w6.setCell ⟨M, 2 * s + p, none⟩ (.slice (some ⟨g6, 0, none⟩) n6 n6)).heap[M]? = some (.cells (slV n6 (gs ++ [g6]) n) 61 (0, 0))) := by
        show _ = _
        rw [heap_setCell_same _ _ _ _ _ _ hs6, ← HG2, slV_set g6 (by omega)]
      have HROW : Hid (∀ i g, (gs ++ [g6])[i]? = some g → g ≠ M ∧ (w6.setCell ⟨M, 2 * s + p, none⟩ (.slice (some ⟨g6, 0, none⟩) n6 n6)).heap[g]? = some (.cells (vfs (rowF n6 (halfF k (carN gr) i))) 5 (0, 0))) := by
        intro i g hi
        by_cases hjk : i < gs.length
        · rw [List.getElem?_append_left hjk] at hi
          obtain ⟨h1, h2⟩ := HR.out i g hi
          exact ⟨h1, hW _ _ h1 (heap_later (HR5b.out _ _ h2) hb6)⟩
        · have hj2 := (List.getElem?_eq_some_iff.1 hi).1
          simp only [List.length_append, List.length_singleton] at hj2
          obtain rfl : i = 2 * s + p := by omega
          rw [List.getElem?_append_right (by omega), show 2 * s + p - gs.length = 0 from by omega] at hi
          obtain rfl : g6 = g := by simpa using hi
          exact ⟨hg6M, hW _ _ hg6M hh6⟩
      have hB6 := HB5.out.trans (hb6.mono HB5.out.size)
      have hBX := hB6.setCell (p := ⟨M, 2 * s + p, none⟩) (by show w.heap.size ≤ M; omega) (.slice (some ⟨g6, 0, none⟩) n6 n6)
      have HBX : Hid _ := hBX
      have hX0 := holds_later HH5.out hb6
      have HHX : Hid (Holds (w6.setCell ⟨M, 2 * s + p, none⟩ (.slice (some ⟨g6, 0, none⟩) n6 n6)) [(M, .cells (slV n6 (gs ++ [g6]) n) 61 (0, 0)), (w1.heap.size, .cells #[.int .i64 t, .int .i64 k, .slice (some ⟨g1, 0, none⟩) m1 m1] 63 (0, 0)), (g1, .cells (vfs (genM k r)) 5 (0, 0)), (w.heap.size, .cells #[.int .i64 0, .int .i64 0, .slice none 0 0] 63 (0, 0))]) :=
        holds_cons (holds_cons (holds_cons (holds_cons (holds_nil _) (hW _ _ (by omega) (holds_at hX0 4 rfl))) (hW _ _ (hkind_ne (holds_at hX0 3 rfl) hs6 (by decide)) (holds_at hX0 3 rfl))) (hW _ _ (by omega) (holds_at hX0 2 rfl))) HT6.out
      clear hs6 hb6 hh6 hW hB6 hBX hX0 hn6 c1 c2 HG2
      go_wp2
      refine ⟨⟨2 * s + p + 1, gs ++ [g6], by omega, by go_num, by simp [HGS.out], HBX.out, HHX.out, HROW.out⟩, by simp [intOf]; omega⟩
    · obtain rfl : j = n := by omega
      have k1 := holds_at HH.out 0 rfl
      go_wp2_with fail
      refine Calls.mono (of_F c j j _ ((List.range j).map fun i => rowF c (halfF k (carN gr) i)) _ (by omega) (by simp) (by omega) (fun x hx => ?_) (.inr ⟨M, 0, rfl, fun i x hx => ?_⟩)) ?_
      · obtain ⟨i, _, rfl⟩ := List.mem_map.1 hx
        exact rowF_len _ _
      · simp only [List.getElem?_map, Option.map_eq_some_iff] at hx
        obtain ⟨l, hi, rfl⟩ := hx
        obtain ⟨hjk, hi2⟩ := List.getElem?_eq_some_iff.1 hi
        simp only [List.length_range] at hjk
        simp only [List.getElem_range] at hi2
        subst hi2
        have hjg : i < gs.length := by rw [HGS.out]; exact hjk
        have hgj : gs[i]? = some gs[i] := List.getElem?_eq_getElem hjg
        refine ⟨some ⟨gs[i], 0, none⟩, c, ?_, row8_own (HR.out i _ hgj).2⟩
        rw [Nat.zero_add, rowF_len]
        exact cellAt k1 i _ (slV_at hjg)
      rintro e w5 ⟨g, m, rfl, hm, hg, hh, hb5⟩
      rw [← grid_flat, ← HHM.out] at hh
      have k2 := heap_later (holds_at HH.out 3 rfl) hb5
      have c4 := cellAt k2 0 _ rfl
      have c5 := cellAt k2 1 _ rfl
      have c6 := cellAt k2 2 _ rfl
      have d4 : w5.frozen? ⟨w.heap.size, 0, none⟩ = false := frozen_of_row _ _ _ _ _ k2
      have d5 : w5.frozen? ⟨w.heap.size, 1, none⟩ = false := frozen_of_row _ _ _ _ _ k2
      have d6 : w5.frozen? ⟨w.heap.size, 2, none⟩ = false := frozen_of_row _ _ _ _ _ k2
      have HMM : Hid _ := hm
      have HHH : Hid _ := hh
      have HBW : Hid (Below w.heap.size w w5) := HB.out.trans (hb5.mono HB.out.size)
      have hgw : w.heap.size < g := by
        have h1 := ltHeap k1
        omega
      clear hm hh hb5 k2 k1
      go_wp2
      refine bodyPost_ret (v := .tuple #[.agg #[.int .i64 j, .int .i64 c, .slice (some ⟨g, 0, none⟩) m m], .nilIface]) (by simp [results, Tryz.results34, go_sem, c4, c5, c6]) rfl ⟨g, m, rfl, HMM.out, by omega, ?_, ?_⟩
      · rw [heap_setCell_other _ _ _ _ (by show g ≠ w.heap.size; omega), heap_setCell_other _ _ _ _ (by show g ≠ w.heap.size; omega), heap_setCell_other _ _ _ _ (by show g ≠ w.heap.size; omega)]
        exact HHH.out
      · exact ((HBW.out.setCell (by simp) _).setCell (by simp) _).setCell (by simp) _
end Go.Proofs.YtjmbpldkggbdlaaGreatDoor

/- What Zero of package tesseraref02, and square of the statements, answer; nothing that was there turns. -/
namespace Go.Proofs.YtjmbpldkggbdlaaGreatDoor
open Go.RowKit Gf
set_option linter.unusedVariables false
set_option maxRecDepth 20000
set_option maxHeartbeats 400000 in
theorem rzero_F (r c : Nat) (w : World) (hr : r ≤ 64) (hc : c ≤ 64) :
    Calls Tryz.prog 104 #[.int .i64 r, .int .i64 c] w fun e w' => ∃ g n, e = .returned (.agg #[.int .i64 r, .int .i64 c, .slice (some ⟨g, 0, none⟩) n n]) ∧ n = r * c ∧ w.heap.size ≤ g ∧
      w'.heap[g]? = some (.cells (vfs (zeros (r * c))) 5 (0, 0)) ∧ Below w.heap.size w w' := by
  obtain ⟨m0, m1⟩ := mul_small (r := r) (c := c) hr hc
  have hr' : (r : Int) ≤ 64 := by omega
  have hc' : (c : Int) ≤ 64 := by omega
  have hN : Hid (r * c ≤ 4096) := by
    have : (r : Int) * (c : Int) = ((r * c : Nat) : Int) := by simp
    show _ ≤ _
    omega
  have hmk := run_make8 (r * c) (by have := hN.out; omega)
  rw [show ((r * c : Nat) : Int) = (r : Int) * (c : Int) from by simp] at hmk
  go_enter Tryz.func104, Tryz.ntmps104
  go_wp2
  refine bodyPost_ret (v := .agg #[.int .i64 r, .int .i64 c, .slice (some ⟨w.heap.size + 1, 0, none⟩) (r * c) (r * c)]) (by simp [results, Tryz.results104, go_sem]) rfl ⟨w.heap.size + 1, r * c, rfl, rfl, by omega, ?_, ?_⟩
  · exact heap_alloc2_new w _ _
  · exact ((Below.refl _ _).alloc (Nat.le_refl _) _).alloc (by simp) _
/-- n bytes: those that are there, noughts behind -/
def padTo (n : Nat) (xs : List F) : List F := xs.take n ++ zeros (n - xs.length)
theorem padTo_len (n : Nat) (xs : List F) : (padTo n xs).length = n := by
  rw [padTo, List.length_append, zeros_len, List.length_take]; omega
theorem run_copyPad (g n : Nat) (a : Option Addr) (la ca : Nat) (xs : List F) (w : World) (ty : TypeId) (hla : la = xs.length)
    (hg : w.heap[g]? = some (.cells (vfs (zeros n)) 5 (0, 0))) (hx : Row8 w a xs) :
    (Builtin.copy_ #[61, 61] ty #[.slice (some ⟨g, 0, none⟩) n n, .slice a la ca]).run Tryz.prog w = .ok (goInt ((min xs.length n : Nat) : Int)) (w.setRow g (vfs (padTo n xs))) := by
  have hs : (Tryz.prog.info? 5).map (·.size) = some 1 := by kernel_rfl
  subst hla
  rcases hx with rfl | ⟨b, off, rfl, hx⟩
  · rw [List.length_nil, run_copy_none w _ _ _ _ _ _ _ _ _ _ Tryz.underlying61 hs (by simp)]
    have e : padTo n [] = zeros n := by simp [padTo]
    rw [e, setRow_self w g _ _ _ hg, Nat.zero_min]; rfl
  · have hlen : ((xs.take n).map vf).length = Nat.min xs.length n := by rw [List.length_map, List.length_take]; show min _ _ = min _ _; omega
    have he : (List.take 0 (vfs (zeros n)).toList ++ (xs.take n).map vf ++ List.drop (0 + ((xs.take n).map vf).length) (vfs (zeros n)).toList).toArray = vfs (padTo n xs) := by
      rw [hlen]
      simp only [List.take_zero, List.nil_append, Nat.zero_add, padTo, vfs, List.map_append, List.toList_toArray, zeros, List.map_replicate, List.drop_replicate]
      congr 3
      show n - min _ _ = _
      omega
    rw [run_copy_row (P := Tryz.prog) w 61 61 ty 5 g 0 n n ⟨b, off, none⟩ xs.length ca (vfs (zeros n)) 5 ((xs.take n).map vf) Tryz.underlying61 hs hg hlen
      (fun j v hv => by
        simp only [List.getElem?_map, Option.map_eq_some_iff] at hv
        obtain ⟨x, hx1, rfl⟩ := hv
        have hj' := (List.getElem?_eq_some_iff.1 hx1).1
        rw [List.length_take] at hj'
        have hj : j < xs.length := by omega
        rw [List.getElem?_take_of_lt (by omega)] at hx1
        have e : at8 xs j = x := by simp [at8, hx1]
        have hadd : (⟨b, off, none⟩ : Addr).add j = ⟨b, off + j, none⟩ := by unfold Addr.add; split <;> simp_all
        rw [hadd, hx j hj, e]; rfl)
      (by rw [hlen, vfs_size, zeros_len]; show 0 + min _ _ ≤ _; omega)
      (fun v hv => by
        simp only [List.mem_map] at hv
        obtain ⟨x, _, rfl⟩ := hv
        rfl)]
    rw [he, hlen]
end Go.Proofs.YtjmbpldkggbdlaaGreatDoor

/- What the document's own One, Transpose and Product of package mat's chapter answer, of all matrices in form; nothing that was there turns. -/
namespace Go.Proofs.YtjmbpldkggbdlaaGreatDoor
open Go.RowKit Gf
set_option linter.unusedVariables false
set_option maxRecDepth 20000
/-- a grid, made row by row, as far as place j of row i -/
def gridP (c : Nat) (f : Nat → Nat → F) (r i j : Nat) : List F := grid c (fun a b => if a < i ∨ a = i ∧ b < j then f a b else 0) r
theorem gridP_len (c : Nat) (f : Nat → Nat → F) (r i j : Nat) : (gridP c f r i j).length = r * c := grid_len _ _ _
theorem gridP_zero (c : Nat) (f : Nat → Nat → F) (r : Nat) : zeros (r * c) = gridP c f r 0 0 := by rw [zeros_grid]; exact grid_congr fun i j _ _ => by rw [if_neg (by omega)]
theorem gridP_done (c : Nat) (f : Nat → Nat → F) (r : Nat) : gridP c f r r 0 = grid c f r := grid_congr fun a b h _ => by rw [if_pos (by omega)]
theorem gridP_row (c : Nat) (f : Nat → Nat → F) (r i : Nat) : gridP c f r i c = gridP c f r (i + 1) 0 := grid_congr fun a b _ h => by
  by_cases e : a < i + 1
  · rw [if_pos (by omega), if_pos (by omega)]
  · rw [if_neg (by omega), if_neg (by omega)]
theorem gridP_step {c r i j : Nat} {f : Nat → Nat → F} (hi : i < r) (hj : j < c) : (gridP c f r i j).set (i * c + j) (f i j) = gridP c f r i (j + 1) := by
  rw [gridP, grid_set hi hj]
  refine grid_congr fun a b ha hb => ?_
  by_cases e : a = i ∧ b = j
  · rw [if_pos e, if_pos (by omega), e.1, e.2]
  · rw [if_neg e]
    by_cases e2 : a < i ∨ a = i ∧ b < j
    · rw [if_pos e2, if_pos (by omega)]
    · rw [if_neg e2, if_neg (by omega)]
theorem grownBy_drewN {w w' : World} {r : Option Nat} (h : w.grownBy w' r) : ∀ n, w.grownBy (w'.drewN n) r
  | 0 => h
  | n + 1 => grownBy_drew (grownBy_drewN h n)
theorem row8_get {w : World} {a : Option Addr} {xs : List F} {j : Nat} (h : Row8 w a xs) (hj : j < xs.length) : ∃ b off, a = some ⟨b, off, none⟩ ∧ b < w.heap.size ∧ ∀ i, i < xs.length → w.cell? ⟨b, off + i, none⟩ = some (.int .u8 ((at8 xs i).toNat : Int)) := by
  rcases h with e | ⟨b, off, rfl, h⟩
  · rw [e] at hj; simp at hj
  · have := World.block_lt_of_cell? w _ (h j hj)
    exact ⟨b, off, rfl, by simpa using this, h⟩
end Go.Proofs.YtjmbpldkggbdlaaGreatDoor

/- What the document's own Of and Row of package mat's chapter answer; nothing that was there turns. -/
namespace Go.Proofs.YtjmbpldkggbdlaaGreatDoor
open Go.RowKit Gf
set_option linter.unusedVariables false
set_option maxRecDepth 20000
/-- bytes laid behind a list of one's own, whatever they are -/
theorem appendB {w : World} {B n m c : Nat} {v : Value} {zs ys : List F} {a : Option Addr} (ty : TypeId) (ho : w.ownsRow B 5 1 v n (zs.map vf)) (hm : m = ys.length) (hb : n + m ≤ 1000000) (hy : Row8 w a ys) (hnil : a = none → c = 0) (hB : B ≤ w.heap.size) :
    ∃ v' w', (Builtin.append_ #[61, 61] ty #[v, .slice a m c]).run Tryz.prog w = .ok v' w' ∧ w'.ownsRow B 5 1 v' (n + m) ((zs ++ ys).map vf) ∧ w.grownBy w' v.ownBlock := by
  obtain ⟨i, hi, h1, h2, h3⟩ := info8
  rcases hy with rfl | ⟨b, off, rfl, hy⟩
  · obtain rfl : m = 0 := hm
    cases a with
    | none =>
      obtain rfl := hnil rfl
      refine ⟨v, w, ?_, by simpa using ho, grownBy_refl _ _⟩
      rcases ho.2 with ⟨rfl, rfl⟩ | ⟨g, cap, cur, rfl, _, hg, hle, _⟩
      · simp [Builtin.append_, run_underlying Tryz.underlying61, sizeOf, typeInfo, hi, Builtin.lenOf, Builtin.firstCells]
      · simp [Builtin.append_, run_underlying Tryz.underlying61, sizeOf, typeInfo, hi, Builtin.lenOf, Builtin.firstCells, loadCells, hle, storeCells]
    | some ad =>
      obtain ⟨v', w', h4, h5, h6, _⟩ := run_append_own_at (P := Tryz.prog) w B 61 ty 5 i _ 1 1 Tryz.underlying61 hi h3 h1 h2 rfl (by decide) v n _ ho ad 0 c [] rfl (fun j u h => by simp at h) (fun u h => by cases h) (by simp only [maxLen]; omega) (by omega) hB
      exact ⟨v', w', h4, by simpa using h5, h6⟩
  · obtain ⟨v', w', h4, h5, h6, _⟩ := run_append_own_at (P := Tryz.prog) w B 61 ty 5 i _ 1 1 Tryz.underlying61 hi h3 h1 h2 rfl (by decide) v n _ ho ⟨b, off, none⟩ m c (ys.map vf) (by rw [List.length_map]; omega)
      (fun j u hv => by
        simp only [List.getElem?_map, Option.map_eq_some_iff] at hv
        obtain ⟨x, hx1, rfl⟩ := hv
        have hj : j < ys.length := (List.getElem?_eq_some_iff.1 hx1).1
        have e : at8 ys j = x := by simp [at8, hx1]
        have hadd : (⟨b, off, none⟩ : Addr).add j = ⟨b, off + j, none⟩ := by unfold Addr.add; split <;> simp_all
        rw [hadd, hy j hj, e]; rfl) (fun u hv => by
        simp only [List.mem_map] at hv
        obtain ⟨x, _, rfl⟩ := hv
        rfl) (by simp only [maxLen]; omega) (by omega) hB
    exact ⟨v', w', h4, by rw [List.map_append]; exact h5, h6⟩
theorem ownB_slice {w : World} {B n : Nat} {v : Value} {zs : List F} (ho : w.ownsRow B 5 1 v n (zs.map vf)) : ∃ a cap, v = .slice a n cap ∧ Row8 w a zs ∧ n = zs.length ∧ (a = none → cap = 0) := by
  have hl := ho.1
  rw [List.length_map] at hl
  rcases ho.2 with ⟨rfl, e⟩ | ⟨g, cap, cur, rfl, h2⟩
  · exact ⟨none, 0, by rw [e], .inl (List.eq_nil_of_length_eq_zero (by omega)), by omega, fun _ => rfl⟩
  · refine ⟨_, _, rfl, .inr ⟨g, 0, rfl, fun j hj => ?_⟩, by omega, fun h => by cases h⟩
    rw [Nat.zero_add, ho.cellAt j (by omega), List.getElem?_map, List.getElem?_eq_getElem hj]
    simp [at8, hj, vf]
theorem own_mono {w : World} {B B' size n : Nat} {v : Value} {e : TypeId} {xs : List Value} (h : w.ownsRow B e size v n xs) (hb : B' ≤ B) : w.ownsRow B' e size v n xs :=
  ⟨h.1, h.2.imp id fun ⟨g, cap, cur, h1, h2, h3⟩ => ⟨g, cap, cur, h1, Nat.le_trans hb h2, h3⟩⟩
theorem rows_cap_later {w w' : World} {a : Option Addr} {L : List (List F)} (hX : Rows8 w a L) (hb : Below w.heap.size w w')
    (hcp : ∀ b off, a = some ⟨b, off, none⟩ → ∀ j n a' cap', w.cell? ⟨b, off + j, none⟩ = some (.slice a' n cap') → j < L.length → a' = none → cap' = 0) :
    ∀ b off, a = some ⟨b, off, none⟩ → ∀ j n a' cap', w'.cell? ⟨b, off + j, none⟩ = some (.slice a' n cap') → j < L.length → a' = none → cap' = 0 := by
  intro b off e j n a' cap' hc hj ha
  rcases hX with e0 | ⟨b2, off2, e2, hrows⟩
  · rw [e0] at hj; simp at hj
  · rw [e] at e2
    cases e2
    obtain ⟨a1, cap1, h1, _⟩ := hrows j _ (List.getElem?_eq_getElem hj)
    have h2 := cell_later hb h1
    rw [hc] at h2
    simp only [Option.some.injEq, Value.slice.injEq] at h2
    obtain ⟨q1, q2, q3⟩ := h2
    rw [q3]
    exact hcp b off e j _ a1 cap1 h1 hj (by rw [← q1]; exact ha)
end Go.Proofs.YtjmbpldkggbdlaaGreatDoor

/- What the document's own Parity and Generator answer, of all legal numbers; nothing that was there turns. -/
namespace Go.Proofs.YtjmbpldkggbdlaaGreatDoor
open Go.RowKit Gf
set_option linter.unusedVariables false
set_option maxRecDepth 20000
theorem rcy_inv (w : World) {s j : Nat} {x : F} (hx : x = ga (elN s) (elN j)) (hs : s < 256) (hj : j < 256) (hne : s ≠ j) :
    Calls Tryz.prog 105 #[.int .u8 (x.toNat : Int)] w fun e w' => e = .returned (.tuple #[.int .u8 ((cyN s j).toNat : Int), .bool true]) ∧ w = w' := by
  subst hx
  exact rinv_yes (ga_ne fun e => hne (elN_inj hs hj e)) w
theorem xor_el64 {s j : Nat} (hs : s < 256) (hj : j < 256) : bits .xor .i64 (s : Int) (j : Int) = ((ga (elN s) (elN j)).toNat : Int) := by
  rw [i64_xor_nat s j (by omega) (by omega), F.val_add, elN, elN, toNat_of hs, toNat_of hj]
set_option maxHeartbeats 4000000 in
theorem rparity_F (k r : Nat) (w : World) (h1 : 1 ≤ k) (h2 : 2 ≤ r) (h3 : k + r ≤ 16) :
    Calls Tryz.prog 80 #[.int .i64 k, .int .i64 r] w fun e w' => ∃ g m, e = .returned (.agg #[.int .i64 r, .int .i64 k, .slice (some ⟨g, 0, none⟩) m m]) ∧ m = r * k ∧ w.heap.size ≤ g ∧
      w'.heap[g]? = some (.cells (vfs (parM k r)) 5 (0, 0)) ∧ Below w.heap.size w w' := by
  go_enter Tryz.func80, Tryz.ntmps80
  go_wp2_with fail
  refine Calls.mono (rzero_F r k _ (by omega) (by omega)) ?_
  rintro e w2 ⟨g, m, rfl, hm, hg, hh, hb2⟩
  have hA := holds_later (holds_new (holds_nil w) #[.int .i64 0, .int .i64 0, .slice none 0 0] 63) hb2
  have z0 := ltHeap (holds_at hA 0 rfl)
  have zg : g < w2.heap.size := ltHeap hh
  simp only [World.size_alloc] at hg
  have HM : Hid _ := hm
  have HB' : Hid (Below w.heap.size w w2) := ((Below.refl w.heap.size w).alloc (Nat.le_refl _) _).trans (hb2.mono (by simp))
  have hA := holds_new (holds_cons hA hh) #[.int .i64 r, .int .i64 k, .slice (some ⟨g, 0, none⟩) m m] 63
  have HA : Hid _ := hA
  have B4 : Hid (Below w.heap.size w (w2.alloc (.cells #[.int .i64 r, .int .i64 k, .slice (some ⟨g, 0, none⟩) m m] 63))) := HB'.out.alloc (by omega) _
  clear hm hh hb2 hA HB'
  go_wp2
  generalize hM : w2.heap.size = M at *
  generalize (w2.alloc (.cells #[.int .i64 r, .int .i64 k, .slice (some ⟨g, 0, none⟩) m m] 63)) = W3 at *
  clear hM
  go_loopw [6] (fun i wr => ∃ a : Nat, a ≤ r ∧ i = .int .i64 a ∧ W3.grownBy wr (some g) ∧ wr.heap[g]? = some (.cells (vfs (gridP k (fun i j => cyN (k + i) j) r a 0)) 5 (0, 0))) (fun i _ => r - (intOf i).toNat)
  case atStart => exact ⟨0, by omega, rfl, World.grownBy.refl _ _, by rw [← gridP_zero]; exact holds_at HA.out 1 rfl⟩
  case round =>
    obtain ⟨a, ha, rfl, hgb, hs⟩ := hrel
    have HGB : Hid _ := hgb
    have HS : Hid _ := hs
    by_cases hlt : a < r
    · clear hgb hs
      go_wp2
      go_loopw [7] (fun i wq => ∃ j : Nat, j ≤ k ∧ i = .int .i64 j ∧ W3.grownBy wq (some g) ∧ wq.heap[g]? = some (.cells (vfs (gridP k (fun i j => cyN (k + i) j) r a j)) 5 (0, 0))) (fun i _ => k - (intOf i).toNat)
      case atStart => exact ⟨0, by omega, rfl, HGB.out, HS.out⟩
      case round =>
        obtain ⟨j, hj, rfl, hgb, hs⟩ := hrel
        by_cases hltj : j < k
        · have c1 : ∀ u, W3.grownBy u (some g) → u.cell? ⟨M, 2, none⟩ = some (.slice (some ⟨g, 0, none⟩) m m) := fun u h => cellAt (grown_block h (holds_at HA.out 0 rfl) (by omega)) 2 _ rfl
          obtain ⟨p, hp⟩ : ∃ p, p = a * k := ⟨_, rfl⟩
          have h1' := place_lt (c := k) hlt hltj
          have m1 : (a : Int) * (k : Int) = (p : Int) := by rw [hp]; simp
          have e1 : p + j < m := by rw [hp, HM.out]; exact h1'
          have n1 : m ≤ 4096 := by have := mul_small (r := r) (c := k) (by omega) (by omega); have := HM.out; have e : (r : Int) * (k : Int) = ((r * k : Nat) : Int) := by simp
                                   omega
          obtain ⟨x, hx⟩ : ∃ x, x = ga (elN (k + a)) (elN j) := ⟨_, rfl⟩
          have ex : bits .xor .i64 ((k : Int) + a) (j : Int) = (x.toNat : Int) := by
            have := xor_el64 (s := k + a) (j := j) (by omega) (by omega)
            rw [hx, ← this]; simp
          have hxb : (x.toNat : Int) < 256 := by have := bl x; omega
          have HX : Hid _ := hx
          have hs' : (wr.drew).heap[g]? = some (.cells (vfs (gridP k (fun i j => cyN (k + i) j) r a j)) 5 (0, 0)) := hs
          have c6 := cellAt hs' _ _ (vfs_get _ _ (show p + j < (gridP k (fun i j => cyN (k + i) j) r a j).length by rw [gridP_len, ← HM.out]; exact e1))
          have c7 : (wr.drew).frozen? ⟨g, p + j, none⟩ = false := frozen_of_row _ _ _ _ _ hs'
          have HS2 : Hid _ := hs'
          have HT : Hid _ := gridP_step (f := fun i j => cyN (k + i) j) hlt hltj
          have HP : Hid _ := hp
          have HGB2 : Hid _ := hgb
          have w1 : IntKind.i64.wrap (p : Int) = p := IntWalk.i64_in _ (by omega)
          have w2 : IntKind.i64.wrap ((p : Int) + j) = (p : Int) + j := IntWalk.i64_in _ (by omega)
          have w3 : IntKind.i64.wrap ((k : Int) + a) = (k : Int) + a := IntWalk.i64_in _ (by omega)
          have w4 : IntKind.u8.wrap (x.toNat : Int) = x.toNat := by have := bl x; exact IntWalk.u8_in _ (by omega)
          have w5 : 0 ≤ (p : Int) + j ∧ (p : Int) + j < m := by omega
          have w6 : ((p : Int) + j).toNat = p + j := by omega
          clear hs hs' hx hp h1' hgb
          go_wp2
          -- REGION
          refine wp_region_noPanic ?_
          refine wp_region_held_drew (S := fun u => W3.grownBy u (some g)) (by kernel_rfl) ?_ (fun hHeld => ?_)
          · exact grownBy_drew HGB2.out
          refine wpAnyH_take (i := 0) (oi := { dst := some 22, op := Op.fieldAddr 63 (Operand.tmp 5) 2, type := 0, pos := "ref.go:27", after := #[], guard := none }) (v := ?_) rfl (by kernel_rfl) (by kernel_rfl) (by kernel_rfl) (fun _ _ _ h => h) (Or.inl ⟨by rfl, ?_⟩) hHeld ?_
          rotate_left
          · intro u hSw
            go_simp
            try with_reducible rfl
          try simp only [Act.put, List.setIfInBounds_toArray, List.set_cons_zero, List.set_cons_succ]
          refine wpAnyH_take (i := 1) (oi := { dst := some 23, op := Op.load 61 (Operand.tmp 22), type := 61, pos := "ref.go:27", after := #[{ on := 0, ground := Ground.data }], guard := none }) (v := ?_) rfl (by kernel_rfl) (by kernel_rfl) (by kernel_rfl) (fun _ _ _ h => h) (Or.inl ⟨by rfl, ?_⟩) hHeld ?_
          rotate_left
          · intro u hSw
            have c9 := c1 u hSw
            go_simp
            try with_reducible rfl
          try simp only [Act.put, List.setIfInBounds_toArray, List.set_cons_zero, List.set_cons_succ]
          refine wpAnyH_take (i := 2) (oi := { dst := some 24, op := Op.move (Operand.tmp 6), type := 3, pos := "ref.go:27", after := #[], guard := none }) (v := ?_) rfl (by kernel_rfl) (by kernel_rfl) (by kernel_rfl) (fun _ _ _ h => h) (Or.inl ⟨by rfl, ?_⟩) hHeld ?_
          rotate_left
          · intro u hSw
            go_simp
            try with_reducible rfl
          try simp only [Act.put, List.setIfInBounds_toArray, List.set_cons_zero, List.set_cons_succ]
          refine wpAnyH_take (i := 3) (oi := { dst := some 25, op := Op.move (Operand.tmp 0), type := 3, pos := "ref.go:27", after := #[], guard := none }) (v := ?_) rfl (by kernel_rfl) (by kernel_rfl) (by kernel_rfl) (fun _ _ _ h => h) (Or.inl ⟨by rfl, ?_⟩) hHeld ?_
          rotate_left
          · intro u hSw
            go_simp
            try with_reducible rfl
          try simp only [Act.put, List.setIfInBounds_toArray, List.set_cons_zero, List.set_cons_succ]
          refine wpAnyH_take (i := 4) (oi := { dst := some 26, op := Op.binOp BinOp.mul 3 (Operand.tmp 24) (Operand.tmp 25) 3, type := 3, pos := "ref.go:27", after := #[{ on := 2, ground := Ground.data }, { on := 3, ground := Ground.data }], guard := none }) (v := ?_) rfl (by kernel_rfl) (by kernel_rfl) (by kernel_rfl) (fun _ _ _ h => h) (Or.inl ⟨by rfl, ?_⟩) hHeld ?_
          rotate_left
          · intro u hSw
            go_simp
            try with_reducible rfl
          try simp only [Act.put, List.setIfInBounds_toArray, List.set_cons_zero, List.set_cons_succ]
          refine wpAnyH_take (i := 5) (oi := { dst := some 27, op := Op.move (Operand.tmp 7), type := 3, pos := "ref.go:27", after := #[], guard := none }) (v := ?_) rfl (by kernel_rfl) (by kernel_rfl) (by kernel_rfl) (fun _ _ _ h => h) (Or.inl ⟨by rfl, ?_⟩) hHeld ?_
          rotate_left
          · intro u hSw
            go_simp
            try with_reducible rfl
          try simp only [Act.put, List.setIfInBounds_toArray, List.set_cons_zero, List.set_cons_succ]
          refine wpAnyH_take (i := 6) (oi := { dst := some 28, op := Op.binOp BinOp.add 3 (Operand.tmp 26) (Operand.tmp 27) 3, type := 3, pos := "ref.go:27", after := #[{ on := 4, ground := Ground.data }, { on := 5, ground := Ground.data }], guard := none }) (v := ?_) rfl (by kernel_rfl) (by kernel_rfl) (by kernel_rfl) (fun _ _ _ h => h) (Or.inl ⟨by rfl, ?_⟩) hHeld ?_
          rotate_left
          · intro u hSw
            go_simp
            try with_reducible rfl
          try simp only [Act.put, List.setIfInBounds_toArray, List.set_cons_zero, List.set_cons_succ]
          refine wpAnyH_take (i := 7) (oi := { dst := some 29, op := Op.move (Operand.tmp 0), type := 3, pos := "ref.go:27", after := #[], guard := none }) (v := ?_) rfl (by kernel_rfl) (by kernel_rfl) (by kernel_rfl) (fun _ _ _ h => h) (Or.inl ⟨by rfl, ?_⟩) hHeld ?_
          rotate_left
          · intro u hSw
            go_simp
            try with_reducible rfl
          try simp only [Act.put, List.setIfInBounds_toArray, List.set_cons_zero, List.set_cons_succ]
          refine wpAnyH_take (i := 8) (oi := { dst := some 30, op := Op.move (Operand.tmp 6), type := 3, pos := "ref.go:27", after := #[], guard := none }) (v := ?_) rfl (by kernel_rfl) (by kernel_rfl) (by kernel_rfl) (fun _ _ _ h => h) (Or.inl ⟨by rfl, ?_⟩) hHeld ?_
          rotate_left
          · intro u hSw
            go_simp
            try with_reducible rfl
          try simp only [Act.put, List.setIfInBounds_toArray, List.set_cons_zero, List.set_cons_succ]
          refine wpAnyH_take (i := 9) (oi := { dst := some 31, op := Op.binOp BinOp.add 3 (Operand.tmp 29) (Operand.tmp 30) 3, type := 3, pos := "ref.go:27", after := #[{ on := 7, ground := Ground.data }, { on := 8, ground := Ground.data }], guard := none }) (v := ?_) rfl (by kernel_rfl) (by kernel_rfl) (by kernel_rfl) (fun _ _ _ h => h) (Or.inl ⟨by rfl, ?_⟩) hHeld ?_
          rotate_left
          · intro u hSw
            go_simp
            try with_reducible rfl
          try simp only [Act.put, List.setIfInBounds_toArray, List.set_cons_zero, List.set_cons_succ]
          refine wpAnyH_take (i := 10) (oi := { dst := some 32, op := Op.move (Operand.tmp 7), type := 3, pos := "ref.go:27", after := #[], guard := none }) (v := ?_) rfl (by kernel_rfl) (by kernel_rfl) (by kernel_rfl) (fun _ _ _ h => h) (Or.inl ⟨by rfl, ?_⟩) hHeld ?_
          rotate_left
          · intro u hSw
            go_simp
            try with_reducible rfl
          try simp only [Act.put, List.setIfInBounds_toArray, List.set_cons_zero, List.set_cons_succ]
          refine wpAnyH_take (i := 11) (oi := { dst := some 33, op := Op.binOp BinOp.xor 3 (Operand.tmp 31) (Operand.tmp 32) 3, type := 3, pos := "ref.go:27", after := #[{ on := 9, ground := Ground.data }, { on := 10, ground := Ground.data }], guard := none }) (v := ?_) rfl (by kernel_rfl) (by kernel_rfl) (by kernel_rfl) (fun _ _ _ h => h) (Or.inl ⟨by rfl, ?_⟩) hHeld ?_
          rotate_left
          · intro u hSw
            go_simp
            try with_reducible rfl
          try simp only [Act.put, List.setIfInBounds_toArray, List.set_cons_zero, List.set_cons_succ]
          refine wpAnyH_take (i := 12) (oi := { dst := some 34, op := Op.convert 3 5 (Operand.tmp 33), type := 5, pos := "ref.go:27", after := #[{ on := 11, ground := Ground.data }], guard := none }) (v := ?_) rfl (by kernel_rfl) (by kernel_rfl) (by kernel_rfl) (fun _ _ _ h => h) (Or.inl ⟨by rfl, ?_⟩) hHeld ?_
          rotate_left
          · intro u hSw
            go_simp
            try with_reducible rfl
          try simp only [Act.put, List.setIfInBounds_toArray, List.set_cons_zero, List.set_cons_succ]
          refine wpAnyH_ready (rs := [13]) (by kernel_rfl) (by simp) ?_
          refine AllReadyH.cons (o := { dst := some 35, op := Op.call { callee := Callee.value (Operand.func 105), args := #[Operand.tmp 34], argTypes := #[5] }, type := 145, pos := "ref.go:27", after := #[{ on := 12, ground := Ground.data }], guard := none }) rfl (fun K hK => ?_) AllReadyH.nil
          go_simp
          refine Calls.mono (rcy_inv _ HX.out (by omega) (by omega) (by omega)) ?_
          rintro e w' ⟨rfl, rfl⟩
          go_wp2_with fail
          refine hK.out _ _ ?_ (fun hHeld => ?_)
          · exact grownBy_drew HGB2.out
          clear hK K
          try simp only [Act.put, List.setIfInBounds_toArray, List.set_cons_zero, List.set_cons_succ]
          refine wpAnyH_take (i := 14) (oi := { dst := some 21, op := Op.move (Operand.tmp 35), type := 145, pos := "ref.go:27", after := #[{ on := 13, ground := Ground.data }], guard := none }) (v := ?_) rfl (by kernel_rfl) (by kernel_rfl) (by kernel_rfl) (fun _ _ _ h => h) (Or.inl ⟨by rfl, ?_⟩) hHeld ?_
          rotate_left
          · intro u hSw
            go_simp
            try with_reducible rfl
          try simp only [Act.put, List.setIfInBounds_toArray, List.set_cons_zero, List.set_cons_succ]
          refine wpAnyH_take (i := 15) (oi := { dst := some 36, op := Op.extract (Operand.tmp 21) 0, type := 5, pos := "ref.go:27", after := #[{ on := 14, ground := Ground.data }], guard := none }) (v := ?_) rfl (by kernel_rfl) (by kernel_rfl) (by kernel_rfl) (fun _ _ _ h => h) (Or.inl ⟨by rfl, ?_⟩) hHeld ?_
          rotate_left
          · intro u hSw
            go_simp
            try with_reducible rfl
          try simp only [Act.put, List.setIfInBounds_toArray, List.set_cons_zero, List.set_cons_succ]
          refine wpAnyH_take (i := 16) (oi := { dst := some 37, op := Op.extract (Operand.tmp 21) 1, type := 4, pos := "ref.go:27", after := #[{ on := 14, ground := Ground.data }, { on := 18, ground := Ground.gcOnly Departure.lateStores }], guard := none }) (v := ?_) rfl (by kernel_rfl) (by kernel_rfl) (by kernel_rfl) (fun _ _ _ h => h) (Or.inl ⟨by rfl, ?_⟩) hHeld ?_
          rotate_left
          · intro u hSw
            go_simp
            try with_reducible rfl
          try simp only [Act.put, List.setIfInBounds_toArray, List.set_cons_zero, List.set_cons_succ]
          refine wpAnyH_take (i := 17) (oi := { dst := some 38, op := Op.indexAddr 61 (Operand.tmp 23) (Operand.tmp 28), type := 0, pos := "ref.go:27", after := #[{ on := 1, ground := Ground.data }, { on := 6, ground := Ground.data }, { on := 0, ground := Ground.phase }, { on := 1, ground := Ground.phase }, { on := 2, ground := Ground.phase }, { on := 3, ground := Ground.phase }, { on := 4, ground := Ground.phase }, { on := 5, ground := Ground.phase }, { on := 6, ground := Ground.phase }, { on := 7, ground := Ground.phase }, { on := 8, ground := Ground.phase }, { on := 9, ground := Ground.phase }, { on := 10, ground := Ground.phase }, { on := 11, ground := Ground.phase }, { on := 12, ground := Ground.phase }, { on := 13, ground := Ground.phase }, { on := 14, ground := Ground.phase }, { on := 15, ground := Ground.phase }, { on := 16, ground := Ground.textOnly Departure.lateStores }], guard := none }) (v := ?_) rfl (by kernel_rfl) (by kernel_rfl) (by kernel_rfl) (fun _ _ _ h => h) (Or.inl ⟨by rfl, ?_⟩) hHeld ?_
          rotate_left
          · intro u hSw
            go_simp
            try with_reducible rfl
          try simp only [Act.put, List.setIfInBounds_toArray, List.set_cons_zero, List.set_cons_succ]
          refine wpAnyH_ready (rs := [18]) (by kernel_rfl) (by simp) ?_
          refine AllReadyH.cons (o := { dst := none, op := Op.store 5 (Operand.tmp 38) (Operand.tmp 36), type := 0, pos := "ref.go:27", after := #[{ on := 17, ground := Ground.data }, { on := 15, ground := Ground.data }, { on := 13, ground := Ground.chain }, { on := 0, ground := Ground.phase }, { on := 1, ground := Ground.phase }, { on := 2, ground := Ground.phase }, { on := 3, ground := Ground.phase }, { on := 4, ground := Ground.phase }, { on := 5, ground := Ground.phase }, { on := 6, ground := Ground.phase }, { on := 7, ground := Ground.phase }, { on := 8, ground := Ground.phase }, { on := 9, ground := Ground.phase }, { on := 10, ground := Ground.phase }, { on := 11, ground := Ground.phase }, { on := 12, ground := Ground.phase }, { on := 13, ground := Ground.phase }, { on := 14, ground := Ground.phase }, { on := 15, ground := Ground.phase }, { on := 16, ground := Ground.textOnly Departure.lateStores }], guard := none }) rfl (fun K hK => ?_) AllReadyH.nil
          go_simp
          refine hK.out _ _ ?_ (fun hHeld => ?_)
          · exact grownBy_setCell (grownBy_drew HGB2.out) _
          clear hK K
          try simp only [Act.put, List.setIfInBounds_toArray, List.set_cons_zero, List.set_cons_succ]
          refine wpAnyH_done (by kernel_rfl) ?_ _
          refine NoPanic.normal ?_
          -- END REGION
          go_wp2
          refine ⟨⟨j + 1, by omega, by go_num, grownBy_setCell (grownBy_drew HGB2.out) _, ?_⟩, by simp [intOf]; omega⟩
          show (wr.setCell ⟨g, p + j, none⟩ (.int .u8 ((cyN (k + a) j).toNat : Int))).heap[g]? = _
          rw [heap_setCell_same wr _ _ _ _ _ HS2.out, vfs_set, ← HT.out, HP.out]
        · obtain rfl : j = k := by omega
          rw [gridP_row] at hs
          have HGB2 : Hid _ := hgb
          have HS4 : Hid _ := hs
          clear hgb hs
          go_wp2
          exact ⟨⟨a + 1, by omega, by go_num, HGB2.out, HS4.out⟩, by simp [intOf]; omega⟩
    · obtain rfl : a = r := by omega
      rw [gridP_done] at hs
      have HGB2 : Hid _ := hgb
      have HS2 : Hid _ := hs
      have k0 := grown_block hgb (holds_at HA.out 0 rfl) (by omega)
      have k1 := grown_block hgb (holds_at HA.out 2 rfl) (by omega)
      have c2 := cellAt k0 0 _ rfl
      have c3 := cellAt k0 1 _ rfl
      have c7 := cellAt k0 2 _ rfl
      have c4 := cellAt k1 0 _ rfl
      have c5 := cellAt k1 1 _ rfl
      have c6 := cellAt k1 2 _ rfl
      have d4 : wr.frozen? ⟨w.heap.size, 0, none⟩ = false := frozen_of_row _ _ _ _ _ k1
      have d5 : wr.frozen? ⟨w.heap.size, 1, none⟩ = false := frozen_of_row _ _ _ _ _ k1
      have d6 : wr.frozen? ⟨w.heap.size, 2, none⟩ = false := frozen_of_row _ _ _ _ _ k1
      clear k0 k1 hgb hs
      go_wp2
      refine bodyPost_ret (v := .agg #[.int .i64 a, .int .i64 k, .slice (some ⟨g, 0, none⟩) m m]) (by simp [results, Tryz.results80, go_sem, c4, c5, c6]) rfl ⟨g, m, rfl, HM.out, by omega, ?_, ?_⟩
      · rw [heap_setCell_other _ _ _ _ (by show g ≠ w.heap.size; omega), heap_setCell_other _ _ _ _ (by show g ≠ w.heap.size; omega), heap_setCell_other _ _ _ _ (by show g ≠ w.heap.size; omega)]
        exact HS2.out
      · exact (((below_grown B4.out HGB2.out (by omega)).setCell (Nat.le_refl _) _).setCell (Nat.le_refl _) _).setCell (Nat.le_refl _) _
end Go.Proofs.YtjmbpldkggbdlaaGreatDoor
