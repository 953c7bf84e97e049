/- The chapter's worked answers of package mat hold: the function 'alive' of the statements returns true; and what One answers. -/
import Derived.Test.YtagahiahhgafpabDoorMatV
namespace Go.Proofs.YtagahiahhgafpabDoor
open Go.RowKit Gf
set_option linter.unusedVariables false
theorem lit8 (w : World) (x y : F) : (w.alloc (.cells #[.int .u8 (x.toNat : Int), .int .u8 (y.toNat : Int)] 5)).heap[w.heap.size]? = some (.cells (vfs [x, y]) 5 (0, 0)) := heap_alloc_last w _
set_option maxHeartbeats 1000000 in
theorem alive_ok (w : World) : Calls Tryd.prog 4 #[] w fun e w' => e = .returned (.bool true) ∧ Below w.heap.size w w' := by
  go_enter Tryd.func4, Tryd.ntmps4
  go_wp2_with fail
  have h0 : Row8 (((w.alloc (.cells #[.int .u8 1, .int .u8 2] 5)).alloc (.cells #[.int .u8 0, .int .u8 1] 5)).alloc (.cells #[.slice (some ⟨w.heap.size, 0, none⟩) 2 2, .slice (some ⟨w.heap.size + 1, 0, none⟩) 2 2] 22)) (some ⟨w.heap.size, 0, none⟩) [1, 2] :=
    row8_alloc (row8_alloc (row8_own (lit8 w 1 2)) _) _
  have h1 : Row8 (((w.alloc (.cells #[.int .u8 1, .int .u8 2] 5)).alloc (.cells #[.int .u8 0, .int .u8 1] 5)).alloc (.cells #[.slice (some ⟨w.heap.size, 0, none⟩) 2 2, .slice (some ⟨w.heap.size + 1, 0, none⟩) 2 2] 22)) (some ⟨w.heap.size + 1, 0, none⟩) [0, 1] :=
    row8_alloc (row8_own (by simpa using lit8 (w.alloc (.cells #[.int .u8 1, .int .u8 2] 5)) 0 1)) _
  have h2 := heap_alloc_last ((w.alloc (.cells #[.int .u8 1, .int .u8 2] 5)).alloc (.cells #[.int .u8 0, .int .u8 1] 5)) (.cells #[.slice (some ⟨w.heap.size, 0, none⟩) 2 2, .slice (some ⟨w.heap.size + 1, 0, none⟩) 2 2] 22)
  rw [World.size_alloc, World.size_alloc] at h2
  refine Calls.mono (of_F 2 2 2 _ [[1, 2], [0, 1]] _ (by decide) rfl (by decide) (by decide) (.inr ⟨_, _, rfl, fun j xs hj => ?_⟩)) ?_
  · match j, hj with
    | 0, hj => obtain rfl := Option.some.inj hj; exact ⟨_, 2, cellAt h2 0 (.slice (some ⟨w.heap.size, 0, none⟩) 2 2) rfl, h0⟩
    | 1, hj => obtain rfl := Option.some.inj hj; exact ⟨_, 2, cellAt h2 1 (.slice (some ⟨w.heap.size + 1, 0, none⟩) 2 2) rfl, h1⟩
  rintro e w1 ⟨g, n, rfl, hn, hg, hh, hb1⟩
  have z1 := hb1.size
  simp only [World.size_alloc] at z1 hg
  have HN : Hid _ := hn
  have HW1 : Hid (Below w.heap.size w w1) := ((((Below.refl w.heap.size w).alloc (Nat.le_refl _) _).alloc (by simp) _).alloc (by simp; omega) _).trans (hb1.mono (by simp; omega))
  have HG : Hid _ := row8_own hh
  clear hn hb1 hh h0 h1 h2
  go_wp2_with fail
  refine Calls.mono (times_F 2 2 n n 2 2 _ _ [1, 2, 0, 1] [3, 4] _ (by decide) (by decide) HN.out rfl (Nat.le_refl _) (row8_alloc (row8_alloc HG.out _) _) rfl rfl (row8_own (by simpa using lit8 (w1.alloc (.cells #[.int .i64 2, .int .i64 2, .slice (some ⟨g, 0, none⟩) n n] 24)) 3 4))) ?_
  rintro e w2 ⟨g2, rfl, hg2, hh2, hb2⟩
  obtain ⟨q1, q2⟩ := bcell hb2
  have z2 : w1.heap.size < w2.heap.size := by have := hb2.size; simp at this; omega
  have HW2 : Hid (Below w.heap.size w w2) := (((HW1.out).alloc (by omega) _).alloc (by simp; omega) _).trans (hb2.mono (by simp; omega))
  have hcv := conv8 (ca := 2) (show 2 = (timesM 2 2 [1, 2, 0, 1] [3, 4]).length by decide +kernel) (row8_own hh2)
  rw [show str8 (timesM 2 2 [1, 2, 0, 1] [3, 4]) = { data := #[11, 4] } by decide +kernel] at hcv
  clear hb2 hh2
  go_wp2
  go_ret
  exact ⟨rfl, HW2.out⟩
/-- the identity, made as far as row k -/
def oneP (n k : Nat) : List F := grid n (fun i j => if i = j ∧ i < k then 1 else 0) n
theorem oneP_len (n k : Nat) : (oneP n k).length = n * n := grid_len _ _ _
theorem oneP_zero (n : Nat) : zeros (n * n) = oneP n 0 := by rw [zeros_grid]; exact grid_congr fun i j _ _ => by rw [if_neg (by omega)]
theorem oneP_done (n : Nat) : oneP n n = oneM n := grid_congr fun i j hi _ => by
  by_cases h : i = j
  · rw [if_pos ⟨h, hi⟩, if_pos h]
  · rw [if_neg (fun e => h e.1), if_neg h]
theorem oneP_step {n k : Nat} (hk : k < n) : (oneP n k).set (k * n + k) 1 = oneP n (k + 1) := by
  rw [oneP, grid_set hk hk]
  refine grid_congr fun a b ha hb => ?_
  by_cases h : a = k ∧ b = k
  · rw [if_pos h, if_pos (by omega)]
  · rw [if_neg h]
    by_cases h2 : a = b ∧ a < k
    · rw [if_pos h2, if_pos (by omega)]
    · rw [if_neg h2, if_neg (by omega)]
end Go.Proofs.YtagahiahhgafpabDoor
