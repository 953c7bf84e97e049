/- What the document's own One, Transpose and Product of package mat's chapter answer, of all matrices in form; nothing that was there turns. -/
import Derived.Test.YtkmlanolaogaiaaDoorMatSq
import Derived.Test.YtkmlanolaogaiaaDoorMatT
import Derived.Test.YtkmlanolaogaiaaDoorMatAl
import Derived.Test.YtkmlanolaogaiaaDoorHolds
import Derived.Test.YtkmlanolaogaiaaDoorGfRefW
namespace Go.Proofs.YtkmlanolaogaiaaDoor
open Go.RowKit Gf
set_option linter.unusedVariables false
set_option maxRecDepth 20000
/-- a grid, made row by row, as far as place j of row i -/
def gridP (c : Nat) (f : Nat → Nat → F) (r i j : Nat) : List F := grid c (fun a b => if a < i ∨ a = i ∧ b < j then f a b else 0) r
theorem gridP_len (c : Nat) (f : Nat → Nat → F) (r i j : Nat) : (gridP c f r i j).length = r * c := grid_len _ _ _
theorem gridP_zero (c : Nat) (f : Nat → Nat → F) (r : Nat) : zeros (r * c) = gridP c f r 0 0 := by rw [zeros_grid]; exact grid_congr fun i j _ _ => by rw [if_neg (by omega)]
theorem gridP_done (c : Nat) (f : Nat → Nat → F) (r : Nat) : gridP c f r r 0 = grid c f r := grid_congr fun a b h _ => by rw [if_pos (by omega)]
theorem gridP_row (c : Nat) (f : Nat → Nat → F) (r i : Nat) : gridP c f r i c = gridP c f r (i + 1) 0 := grid_congr fun a b _ h => by
  by_cases e : a < i + 1
  · rw [if_pos (by omega), if_pos (by omega)]
  · rw [if_neg (by omega), if_neg (by omega)]
theorem gridP_step {c r i j : Nat} {f : Nat → Nat → F} (hi : i < r) (hj : j < c) : (gridP c f r i j).set (i * c + j) (f i j) = gridP c f r i (j + 1) := by
  rw [gridP, grid_set hi hj]
  refine grid_congr fun a b ha hb => ?_
  by_cases e : a = i ∧ b = j
  · rw [if_pos e, if_pos (by omega), e.1, e.2]
  · rw [if_neg e]
    by_cases e2 : a < i ∨ a = i ∧ b < j
    · rw [if_pos e2, if_pos (by omega)]
    · rw [if_neg e2, if_neg (by omega)]
theorem grownBy_drewN {w w' : World} {r : Option Nat} (h : w.grownBy w' r) : ∀ n, w.grownBy (w'.drewN n) r
  | 0 => h
  | n + 1 => grownBy_drew (grownBy_drewN h n)
theorem row8_get {w : World} {a : Option Addr} {xs : List F} {j : Nat} (h : Row8 w a xs) (hj : j < xs.length) : ∃ b off, a = some ⟨b, off, none⟩ ∧ b < w.heap.size ∧ ∀ i, i < xs.length → w.cell? ⟨b, off + i, none⟩ = some (.int .u8 ((at8 xs i).toNat : Int)) := by
  rcases h with e | ⟨b, off, rfl, h⟩
  · rw [e] at hj; simp at hj
  · have := World.block_lt_of_cell? w _ (h j hj)
    exact ⟨b, off, rfl, by simpa using this, h⟩
set_option maxHeartbeats 4000000 in
theorem rproduct_F (r n c la ca lb cb : Nat) (a b : Option Addr) (xs ys : List F) (w : World) (hr : r ≤ 64) (hn : n ≤ 64) (hc : c ≤ 64) (hla : la = r * n) (hx : xs.length = r * n) (hca : la ≤ ca) (hX : Row8 w a xs)
    (hlb : lb = n * c) (hy : ys.length = n * c) (hcb : lb ≤ cb) (hY : Row8 w b ys) :
    Calls Tryd.prog 14 #[.agg #[.int .i64 r, .int .i64 n, .slice a la ca], .agg #[.int .i64 n, .int .i64 c, .slice b lb cb]] w fun e w' => ∃ g m, e = .returned (.agg #[.int .i64 r, .int .i64 c, .slice (some ⟨g, 0, none⟩) m m]) ∧ m = r * c ∧ w.heap.size ≤ g ∧
      w'.heap[g]? = some (.cells (vfs (mulM n c xs ys r)) 5 (0, 0)) ∧ Below w.heap.size w w' := by
  have HLA : Hid _ := hla
  have HLB : Hid _ := hlb
  have HX : Hid _ := hx
  have HY : Hid _ := hy
  have HRX : Hid (Row8 w a xs) := hX
  have HRY : Hid (Row8 w b ys) := hY
  clear hla hlb hx hy hX hY
  go_enter Tryd.func14, Tryd.ntmps14
  go_wp2_with fail
  refine Calls.mono (rzero_F r c _ hr hc) ?_
  rintro e w2 ⟨g, m, rfl, hm, hg, hh, hb2⟩
  have hA := holds_later (holds_new (holds_new (holds_new (holds_nil w) #[.int .i64 r, .int .i64 n, .slice a la ca] 24) #[.int .i64 n, .int .i64 c, .slice b lb cb] 24) #[.int .i64 0, .int .i64 0, .slice none 0 0] 24) hb2
  rw [World.size_alloc, World.size_alloc] at hA
  have z0 := ltHeap (holds_at hA 0 rfl)
  have zg : g < w2.heap.size := ltHeap hh
  simp only [World.size_alloc] at hg
  have HM : Hid _ := hm
  have HB' : Hid (Below w.heap.size w w2) := ((((Below.refl w.heap.size w).alloc (Nat.le_refl _) _).alloc (by simp) _).alloc (by simp; omega) _).trans (hb2.mono (by simp; omega))
  have hA := holds_new (holds_cons hA hh) #[.int .i64 r, .int .i64 c, .slice (some ⟨g, 0, none⟩) m m] 24
  have HA : Hid _ := hA
  have B4 : Hid (Below w.heap.size w (w2.alloc (.cells #[.int .i64 r, .int .i64 c, .slice (some ⟨g, 0, none⟩) m m] 24))) := HB'.out.alloc (by omega) _
  clear hm hh hb2 hA HB'
  go_wp2
  generalize hM : w2.heap.size = M at *
  generalize (w2.alloc (.cells #[.int .i64 r, .int .i64 c, .slice (some ⟨g, 0, none⟩) m m] 24)) = W3 at *
  clear hM
  go_loopw [6] (fun i wr => ∃ k : Nat, k ≤ r ∧ i = .int .i64 k ∧ W3.grownBy wr (some g) ∧ wr.heap[g]? = some (.cells (vfs (gridP c (fun i j => sumF (fun l => gm (at8 xs (i * n + l)) (at8 ys (l * c + j))) n) r k 0)) 5 (0, 0))) (fun i _ => r - (intOf i).toNat)
  case atStart => exact ⟨0, by omega, rfl, World.grownBy.refl _ _, by rw [← gridP_zero]; exact holds_at HA.out 1 rfl⟩
  case round =>
    obtain ⟨k, hk, rfl, hgb, hs⟩ := hrel
    have HGB : Hid _ := hgb
    have HS : Hid _ := hs
    have c1 := cellAt (grown_block hgb (holds_at HA.out 4 rfl) (by omega)) 0 _ rfl
    by_cases hlt : k < r
    · clear hgb hs
      go_wp2
      go_loopw [7] (fun i wq => ∃ j : Nat, j ≤ c ∧ i = .int .i64 j ∧ W3.grownBy wq (some g) ∧ wq.heap[g]? = some (.cells (vfs (gridP c (fun i j => sumF (fun l => gm (at8 xs (i * n + l)) (at8 ys (l * c + j))) n) r k j)) 5 (0, 0))) (fun i _ => c - (intOf i).toNat)
      case atStart => exact ⟨0, by omega, rfl, HGB.out, HS.out⟩
      case round =>
        obtain ⟨j, hj, rfl, hgb, hs⟩ := hrel
        have HGB2 : Hid _ := hgb
        have HS2 : Hid _ := hs
        have c2 := cellAt (grown_block hgb (holds_at HA.out 3 rfl) (by omega)) 1 _ rfl
        by_cases hltj : j < c
        · clear hgb hs
          go_wp2
          go_loopw [8, 9] (fun v i wv => ∃ l : Nat, l ≤ n ∧ i = .int .i64 l ∧ v = .int .u8 (sumF (fun l => gm (at8 xs (k * n + l)) (at8 ys (l * c + j))) l).toNat ∧ W3.grownBy wv (some g) ∧ wv.heap[g]? = some (.cells (vfs (gridP c (fun i j => sumF (fun l => gm (at8 xs (i * n + l)) (at8 ys (l * c + j))) n) r k j)) 5 (0, 0))) (fun _ i _ => n - (intOf i).toNat)
          case atStart => exact ⟨0, by omega, rfl, rfl, HGB2.out, HS2.out⟩
          case round =>
            obtain ⟨l, hl, rfl, rfl, hgb, hs⟩ := hrel
            have HGB3 : Hid _ := hgb
            have HS3 : Hid _ := hs
            have c3 := cellAt (grown_block hgb (holds_at HA.out 4 rfl) (by omega)) 1 _ rfl
            by_cases hltl : l < n
            · have c4 := cellAt (grown_block hgb (holds_at HA.out 4 rfl) (by omega)) 2 _ rfl
              have c5 := cellAt (grown_block hgb (holds_at HA.out 3 rfl) (by omega)) 1 _ rfl
              have c6 := cellAt (grown_block hgb (holds_at HA.out 3 rfl) (by omega)) 2 _ rfl
              obtain ⟨p, hp⟩ : ∃ p, p = k * n := ⟨_, rfl⟩
              obtain ⟨q, hq⟩ : ∃ q, q = l * c := ⟨_, rfl⟩
              have h1 := place_lt (c := n) hlt hltl
              have h2 := place_lt (c := c) hltl hltj
              have m1 : (k : Int) * (n : Int) = (p : Int) := by rw [hp]; simp
              have m2 : (l : Int) * (c : Int) = (q : Int) := by rw [hq]; simp
              have e1 : p + l < la := by rw [hp, HLA.out]; exact h1
              have e2 : q + j < lb := by rw [hq, HLB.out]; exact h2
              have n1 : la ≤ 4096 := by have := mul_small hr hn; have := HLA.out; have e : (r : Int) * (n : Int) = ((r * n : Nat) : Int) := by simp
                                        omega
              have n2 : lb ≤ 4096 := by have := mul_small hn hc; have := HLB.out; have e : (n : Int) * (c : Int) = ((n * c : Nat) : Int) := by simp
                                        omega
              obtain ⟨b1, o1, rfl, hb1, f1⟩ := row8_get HRX.out (show p + l < xs.length by rw [HX.out, ← HLA.out]; exact e1)
              obtain ⟨b2, o2, rfl, hb2, f2⟩ := row8_get HRY.out (show q + j < ys.length by rw [HY.out, ← HLB.out]; exact e2)
              have hbw := below_grown B4.out hgb (by omega)
              have c7 := cell_later hbw (f1 (p + l) (by rw [HX.out, ← HLA.out]; exact e1))
              have c8 := cell_later hbw (f2 (q + j) (by rw [HY.out, ← HLB.out]; exact e2))
              have ex := xor_val (sumF (fun l => gm (at8 xs (k * n + l)) (at8 ys (l * c + j))) l) (gm (at8 xs (p + l)) (at8 ys (q + j)))
              have HT : Hid (ga (sumF (fun l => gm (at8 xs (k * n + l)) (at8 ys (l * c + j))) l) (gm (at8 xs (p + l)) (at8 ys (q + j))) = sumF (fun l => gm (at8 xs (k * n + l)) (at8 ys (l * c + j))) (l + 1)) := by rw [hp, hq]; rfl
              clear hgb hs f1 f2 hp hq h1 h2 hbw
              go_wp2
              go_quiet ((go_at_call 39; exact Calls.quiet_of_eq (rmul_F _ _ _)))
              go_wp2
              exact ⟨⟨l + 1, by omega, by go_num, by rw [HT.out], grownBy_drewN HGB3.out _, by rw [World.heap_drewN]; exact HS3.out⟩, by simp [intOf]; omega⟩
            · obtain rfl : l = n := by omega
              have c4 := cellAt (grown_block hgb (holds_at HA.out 0 rfl) (by omega)) 2 _ rfl
              have c5 := cellAt (grown_block hgb (holds_at HA.out 3 rfl) (by omega)) 1 _ rfl
              obtain ⟨p, hp⟩ : ∃ p, p = k * c := ⟨_, rfl⟩
              have h1 := place_lt (c := c) hlt hltj
              have m1 : (k : Int) * (c : Int) = (p : Int) := by rw [hp]; simp
              have e1 : p + j < m := by rw [hp, HM.out]; exact h1
              have n1 : m ≤ 4096 := by have := mul_small hr hc; have := HM.out; have e : (r : Int) * (c : Int) = ((r * c : Nat) : Int) := by simp
                                       omega
              have c6 : wr.cell? ⟨g, p + j, none⟩ = some (.int .u8 ((at8 (gridP c (fun i j => sumF (fun l' => gm (at8 xs (i * l + l')) (at8 ys (l' * c + j))) l) r k j) (p + j)).toNat : Int)) := cellAt hs _ _ (vfs_get _ _ (by rw [gridP_len, ← HM.out]; exact e1))
              have c7 : wr.frozen? ⟨g, p + j, none⟩ = false := frozen_of_row _ _ _ _ _ hs
              have HT : Hid _ := gridP_step (f := fun i j => sumF (fun l' => gm (at8 xs (i * l + l')) (at8 ys (l' * c + j))) l) hlt hltj
              have HP : Hid _ := hp
              clear hgb hs hp h1
              go_wp2
              refine ⟨⟨j + 1, by omega, by go_num, grownBy_setCell HGB3.out _, ?_⟩, by simp [intOf]; omega⟩
              rw [heap_setCell_same _ _ _ _ _ _ HS3.out, vfs_set, ← HT.out, HP.out]
        · obtain rfl : j = c := by omega
          rw [gridP_row] at hs
          have HS4 : Hid _ := hs
          clear hgb hs
          go_wp2
          exact ⟨⟨k + 1, by omega, by go_num, HGB2.out, HS4.out⟩, by simp [intOf]; omega⟩
    · obtain rfl : k = r := by omega
      rw [gridP_done] at hs
      have HS2 : Hid _ := hs
      have k0 := grown_block hgb (holds_at HA.out 0 rfl) (by omega)
      have k1 := grown_block hgb (holds_at HA.out 2 rfl) (by omega)
      have c2 := cellAt k0 0 _ rfl
      have c3 := cellAt k0 1 _ rfl
      have c7 := cellAt k0 2 _ rfl
      have c4 := cellAt k1 0 _ rfl
      have c5 := cellAt k1 1 _ rfl
      have c6 := cellAt k1 2 _ rfl
      have d4 : wr.frozen? ⟨w.heap.size + 1 + 1, 0, none⟩ = false := frozen_of_row _ _ _ _ _ k1
      have d5 : wr.frozen? ⟨w.heap.size + 1 + 1, 1, none⟩ = false := frozen_of_row _ _ _ _ _ k1
      have d6 : wr.frozen? ⟨w.heap.size + 1 + 1, 2, none⟩ = false := frozen_of_row _ _ _ _ _ k1
      clear k0 k1 hgb hs
      go_wp2
      refine bodyPost_ret (v := .agg #[.int .i64 k, .int .i64 c, .slice (some ⟨g, 0, none⟩) m m]) (by simp [results, Tryd.results14, go_sem, c4, c5, c6]) rfl ⟨g, m, rfl, HM.out, by omega, ?_, ?_⟩
      · rw [heap_setCell_other _ _ _ _ (by show g ≠ w.heap.size + 1 + 1; omega), heap_setCell_other _ _ _ _ (by show g ≠ w.heap.size + 1 + 1; omega), heap_setCell_other _ _ _ _ (by show g ≠ w.heap.size + 1 + 1; omega)]
        exact HS2.out
      · exact (((below_grown B4.out HGB.out (by omega)).setCell (by simp; omega) _).setCell (by simp; omega) _).setCell (by simp; omega) _
end Go.Proofs.YtkmlanolaogaiaaDoor
