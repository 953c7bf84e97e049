/- What the document's own One, Transpose and Product of package mat's chapter answer, of all matrices in form; nothing that was there turns. -/
import Derived.Test.YtmlpijlcpeoeaaaDoorMatSq
import Derived.Test.YtmlpijlcpeoeaaaDoorMatT
import Derived.Test.YtmlpijlcpeoeaaaDoorMatAl
import Derived.Test.YtmlpijlcpeoeaaaDoorHolds
import Derived.Test.YtmlpijlcpeoeaaaDoorGfRefW
namespace Go.Proofs.YtmlpijlcpeoeaaaDoor
open Go.RowKit Gf
set_option linter.unusedVariables false
set_option maxRecDepth 20000
set_option maxHeartbeats 1000000 in
theorem rone_F (r : Nat) (w : World) (hr : r ≤ 64) :
    Calls Tryd.prog 66 #[.int .i64 r] w fun e w' => ∃ g n, e = .returned (.agg #[.int .i64 r, .int .i64 r, .slice (some ⟨g, 0, none⟩) n n]) ∧ n = r * r ∧ w.heap.size ≤ g ∧
      w'.heap[g]? = some (.cells (vfs (oneM r)) 5 (0, 0)) ∧ Below w.heap.size w w' := by
  go_enter Tryd.func66, Tryd.ntmps66
  go_wp2_with fail
  refine Calls.mono (rzero_F r r _ hr hr) ?_
  rintro e w2 ⟨g, n, rfl, hn, hg, hh, hb2⟩
  have z2 := hb2.size
  simp only [World.size_alloc] at z2 hg
  have z4 : w.heap.size < w2.heap.size := by omega
  have zg : g < w2.heap.size := ltHeap hh
  have HN : Hid _ := hn
  have HG : Hid _ := hh
  have HB' : Hid (Below w.heap.size w w2) := ((Below.refl w.heap.size w).alloc (Nat.le_refl _) _).trans (hb2.mono (by simp))
  have B1' : Hid _ := heap_later (heap_alloc_last w (.cells #[.int .i64 0, .int .i64 0, .slice none 0 0] 65)) hb2
  clear hn hh hb2
  go_wp2
  have B2 : Hid _ := heap_alloc_last w2 (.cells #[.int .i64 r, .int .i64 r, .slice (some ⟨g, 0, none⟩) n n] 65)
  have B1 : Hid ((w2.alloc (.cells #[.int .i64 r, .int .i64 r, .slice (some ⟨g, 0, none⟩) n n] 65)).heap[w.heap.size]? = some (.cells #[.int .i64 0, .int .i64 0, .slice none 0 0] 65 (0, 0))) :=
    (Below.heap_alloc _ _ _ z4).trans B1'.out
  have B3 : Hid ((w2.alloc (.cells #[.int .i64 r, .int .i64 r, .slice (some ⟨g, 0, none⟩) n n] 65)).heap[g]? = some (.cells (vfs (zeros (r * r))) 5 (0, 0))) := (Below.heap_alloc _ _ _ zg).trans HG.out
  have B4 : Hid (Below w.heap.size w (w2.alloc (.cells #[.int .i64 r, .int .i64 r, .slice (some ⟨g, 0, none⟩) n n] 65))) := HB'.out.alloc (by omega) _
  clear HG HB' B1'
  generalize hM : w2.heap.size = M at *
  generalize (w2.alloc (.cells #[.int .i64 r, .int .i64 r, .slice (some ⟨g, 0, none⟩) n n] 65)) = W3 at *
  clear hM
  go_loopw [4] (fun i wr => ∃ k : Nat, k ≤ r ∧ i = .int .i64 k ∧ W3.grownBy wr (some g) ∧ wr.heap[g]? = some (.cells (vfs (oneP r k)) 5 (0, 0))) (fun i _ => r - (intOf i).toNat)
  case atStart => exact ⟨0, by omega, rfl, World.grownBy.refl _ _, by rw [← oneP_zero]; exact B3.out⟩
  case round =>
    obtain ⟨k, hk, rfl, hgb, hs⟩ := hrel
    have HGB : Hid _ := hgb
    have HS : Hid _ := hs
    have k0 := grown_block hgb B2.out (by omega)
    have c1 := cellAt k0 0 _ rfl
    have c2 := cellAt k0 1 _ rfl
    have c3 := cellAt k0 2 _ rfl
    by_cases hlt : k < r
    · obtain ⟨p, hp⟩ : ∃ p, p = k * r := ⟨_, rfl⟩
      have hq := place_lt (c := r) hlt hlt
      have m4 : (k : Int) * (r : Int) = (p : Int) := by rw [hp]; simp
      have hpn : p + k < n := by rw [hp, HN.out]; exact hq
      have hn6 : n ≤ 4096 := by have := mul_small hr hr; have := HN.out; have e : (r : Int) * (r : Int) = ((r * r : Nat) : Int) := by simp
                                omega
      have c4 : wr.cell? ⟨g, p + k, none⟩ = some (.int .u8 ((at8 (oneP r k) (p + k)).toNat : Int)) := cellAt hs _ _ (vfs_get _ _ (by rw [oneP_len, ← HN.out]; exact hpn))
      have c5 : wr.frozen? ⟨g, p + k, none⟩ = false := frozen_of_row _ _ _ _ _ hs
      have HT : Hid _ := oneP_step hlt
      have HP : Hid _ := hp
      clear k0 hgb hs hp hq
      go_wp2
      refine ⟨⟨k + 1, by omega, by go_num, grownBy_setCell HGB.out _, ?_⟩, by simp [intOf]; omega⟩
      have e := vfs_set (oneP r k) (k * r + k) 1
      rw [heap_setCell_same _ _ _ _ _ _ HS.out, ← HT.out, ← e, HP.out]; rfl
    · obtain rfl : k = r := by omega
      rw [oneP_done] at hs
      have HS2 : Hid _ := hs
      have k1 := grown_block hgb B1.out (by omega)
      have c4 := cellAt k1 0 _ rfl
      have c5 := cellAt k1 1 _ rfl
      have c6 := cellAt k1 2 _ rfl
      have d4 : wr.frozen? ⟨w.heap.size, 0, none⟩ = false := frozen_of_row _ _ _ _ _ k1
      have d5 : wr.frozen? ⟨w.heap.size, 1, none⟩ = false := frozen_of_row _ _ _ _ _ k1
      have d6 : wr.frozen? ⟨w.heap.size, 2, none⟩ = false := frozen_of_row _ _ _ _ _ k1
      clear k0 k1 hgb hs
      go_wp2
      refine bodyPost_ret (v := .agg #[.int .i64 k, .int .i64 k, .slice (some ⟨g, 0, none⟩) n n]) (by simp [results, Tryd.results66, go_sem, c4, c5, c6]) rfl ⟨g, n, rfl, HN.out, by omega, ?_, ?_⟩
      · rw [heap_setCell_other _ _ _ _ (by show g ≠ w.heap.size; omega), heap_setCell_other _ _ _ _ (by show g ≠ w.heap.size; omega), heap_setCell_other _ _ _ _ (by show g ≠ w.heap.size; omega)]
        exact HS2.out
      · exact (((below_grown B4.out HGB.out (by omega)).setCell (by simp) _).setCell (by simp) _).setCell (by simp) _
/-- a grid, made row by row, as far as place j of row i -/
def gridP (c : Nat) (f : Nat → Nat → F) (r i j : Nat) : List F := grid c (fun a b => if a < i ∨ a = i ∧ b < j then f a b else 0) r
theorem gridP_len (c : Nat) (f : Nat → Nat → F) (r i j : Nat) : (gridP c f r i j).length = r * c := grid_len _ _ _
theorem gridP_zero (c : Nat) (f : Nat → Nat → F) (r : Nat) : zeros (r * c) = gridP c f r 0 0 := by rw [zeros_grid]; exact grid_congr fun i j _ _ => by rw [if_neg (by omega)]
theorem gridP_done (c : Nat) (f : Nat → Nat → F) (r : Nat) : gridP c f r r 0 = grid c f r := grid_congr fun a b h _ => by rw [if_pos (by omega)]
theorem gridP_row (c : Nat) (f : Nat → Nat → F) (r i : Nat) : gridP c f r i c = gridP c f r (i + 1) 0 := grid_congr fun a b _ h => by
  by_cases e : a < i + 1
  · rw [if_pos (by omega), if_pos (by omega)]
  · rw [if_neg (by omega), if_neg (by omega)]
theorem gridP_step {c r i j : Nat} {f : Nat → Nat → F} (hi : i < r) (hj : j < c) : (gridP c f r i j).set (i * c + j) (f i j) = gridP c f r i (j + 1) := by
  rw [gridP, grid_set hi hj]
  refine grid_congr fun a b ha hb => ?_
  by_cases e : a = i ∧ b = j
  · rw [if_pos e, if_pos (by omega), e.1, e.2]
  · rw [if_neg e]
    by_cases e2 : a < i ∨ a = i ∧ b < j
    · rw [if_pos e2, if_pos (by omega)]
    · rw [if_neg e2, if_neg (by omega)]
theorem grownBy_drewN {w w' : World} {r : Option Nat} (h : w.grownBy w' r) : ∀ n, w.grownBy (w'.drewN n) r
  | 0 => h
  | n + 1 => grownBy_drew (grownBy_drewN h n)
theorem row8_get {w : World} {a : Option Addr} {xs : List F} {j : Nat} (h : Row8 w a xs) (hj : j < xs.length) : ∃ b off, a = some ⟨b, off, none⟩ ∧ b < w.heap.size ∧ ∀ i, i < xs.length → w.cell? ⟨b, off + i, none⟩ = some (.int .u8 ((at8 xs i).toNat : Int)) := by
  rcases h with e | ⟨b, off, rfl, h⟩
  · rw [e] at hj; simp at hj
  · have := World.block_lt_of_cell? w _ (h j hj)
    exact ⟨b, off, rfl, by simpa using this, h⟩
end Go.Proofs.YtmlpijlcpeoeaaaDoor
