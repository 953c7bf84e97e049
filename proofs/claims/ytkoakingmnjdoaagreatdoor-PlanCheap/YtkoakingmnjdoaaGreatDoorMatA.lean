/- What the small functions of package mat answer: is there such a row, the cells of a row, a matrix of noughts. -/
import Derived.Test.YtkoakingmnjdoaaGreatDoorMatL
import Derived.Test.YtkoakingmnjdoaaGreatDoorMatChk
import Derived.Test.YtkoakingmnjdoaaGreatDoorGfScalesL
import Derived.Stop.LaidErr
namespace Go.Proofs.YtkoakingmnjdoaaGreatDoor
open Go.RowKit Gf
set_option linter.unusedVariables false
set_option maxRecDepth 20000
/-- is there such a place? -/
def thB (x n : Int) : Bool := decide (0 ≤ x) && decide (x < n)
theorem thB_true {x n : Int} (h0 : 0 ≤ x) (h1 : x < n) : thB x n = true := by simp [thB, h0, h1]
theorem thB_false {x n : Int} (h : ¬ (0 ≤ x ∧ x < n)) : thB x n = false := by simp [thB]; omega
set_option maxHeartbeats 400000 in
theorem there_any (x n : Int) (w : World) : Calls Tryz.prog 98 #[.int .i64 x, .int .i64 n] w fun e w' => e = .returned (.bool (thB x n)) ∧ w = w' := by
  by_cases h0 : 0 ≤ x
  · by_cases h1 : x < n
    · go_enter Tryz.func98, Tryz.ntmps98
      go_wp2
      go_ret
      exact ⟨by rw [thB_true h0 h1]; rfl, rfl⟩
    · go_enter Tryz.func98, Tryz.ntmps98
      go_wp2
      go_ret
      exact ⟨by rw [thB_false (by omega)]; rfl, rfl⟩
  · go_enter Tryz.func98, Tryz.ntmps98
    go_wp2
    go_ret
    exact ⟨by rw [thB_false (by omega)]; rfl, rfl⟩
theorem there_yes (x n : Int) (w : World) (h0 : 0 ≤ x) (h1 : x < n) : Calls Tryz.prog 98 #[.int .i64 x, .int .i64 n] w fun e w' => e = .returned (.bool true) ∧ w = w' :=
  (there_any x n w).mono fun e w' ⟨a, b⟩ => ⟨by rw [a, thB_true h0 h1], b⟩
theorem there_no (x n : Int) (w : World) (h : ¬ (0 ≤ x ∧ x < n)) : Calls Tryz.prog 98 #[.int .i64 x, .int .i64 n] w fun e w' => e = .returned (.bool false) ∧ w = w' :=
  (there_any x n w).mono fun e w' ⟨a, b⟩ => ⟨by rw [a, thB_false h], b⟩
/-- where a slice of a slice begins: one without room begins where the whole did -/
def rof (off p cap : Nat) : Nat := if cap = p then off else off + p
theorem rof_same (off p : Nat) : rof off p p = off := by simp [rof]
theorem rof_room {off p cap : Nat} (h : cap ≠ p) : rof off p cap = off + p := by simp [rof, h]
set_option maxHeartbeats 400000 in
theorem rowOf_some (r c i b off l cap : Nat) (w : World) (hr : r ≤ 64) (hc : c ≤ 64) (hi : i < r) (hl : l = r * c) (hcap : l ≤ cap) :
    Calls Tryz.prog 100 #[.agg #[.int .i64 r, .int .i64 c, .slice (some ⟨b, off, none⟩) l cap], .int .i64 i] w fun e w' => e = .returned (.slice (some ⟨b, rof off (i * c) cap, none⟩) c (cap - i * c)) ∧ Below w.heap.size w w' := by
  obtain ⟨m0, m1⟩ := mul_small (r := i) (c := c) (by omega) hc
  have m5 : i * c + c ≤ cap := by
    have := Nat.mul_le_mul_right c (show i + 1 ≤ r from hi)
    rw [Nat.succ_mul] at this; omega
  have m4 : (i : Int) * (c : Int) = ((i * c : Nat) : Int) := by simp
  have m3 : ((i : Int) + 1) * (c : Int) = ((i * c : Nat) : Int) + (c : Int) := by rw [Int.add_mul, Int.one_mul, m4]
  generalize hp : i * c = p at m3 m4 m5 ⊢
  rw [m4] at m0 m1
  clear hp hl
  by_cases h : cap = p
  · subst h
    rw [rof_same]
    go_enter Tryz.func100, Tryz.ntmps100
    go_wp2
    go_ret
    exact ⟨by simp, (Below.refl _ _).alloc (Nat.le_refl _) _⟩
  · rw [rof_room h]
    go_enter Tryz.func100, Tryz.ntmps100
    go_wp2
    go_ret
    exact ⟨by show Ending.returned (.slice _ (p + c - p) _) = _; rw [Nat.add_sub_cancel_left], (Below.refl _ _).alloc (Nat.le_refl _) _⟩
set_option maxHeartbeats 400000 in
theorem rowOf_none (r i cap : Nat) (a : Option Addr) (w : World) (hr : r ≤ 64) (hi : i < r) :
    Calls Tryz.prog 100 #[.agg #[.int .i64 r, .int .i64 0, .slice a 0 cap], .int .i64 i] w fun e w' => e = .returned (.slice a 0 cap) ∧ Below w.heap.size w w' := by
  by_cases h : cap = 0
  · subst h
    go_enter Tryz.func100, Tryz.ntmps100
    go_wp2
    go_ret
    exact ⟨rfl, (Below.refl _ _).alloc (Nat.le_refl _) _⟩
  · cases a
    · go_enter Tryz.func100, Tryz.ntmps100
      go_wp2
      go_ret
      exact ⟨rfl, (Below.refl _ _).alloc (Nat.le_refl _) _⟩
    · go_enter Tryz.func100, Tryz.ntmps100
      go_wp2
      go_ret
      exact ⟨rfl, (Below.refl _ _).alloc (Nat.le_refl _) _⟩
theorem row8_rowAt {w : World} {b off c i r cap : Nat} {xs : List F} (hl : xs.length = r * c) (hi : i < r) (hcap : xs.length ≤ cap)
    (h : ∀ j, j < xs.length → w.cell? ⟨b, off + j, none⟩ = some (.int .u8 ((at8 xs j).toNat : Int))) : Row8 w (some ⟨b, rof off (i * c) cap, none⟩) (rowAt c xs i) := by
  by_cases hc : c = 0
  · subst hc; left; simp [rowAt]
  · have h1 := place_lt (c := c) hi (show 0 < c by omega)
    refine .inr ⟨b, _, rfl, fun j hj => ?_⟩
    rw [rowAt_len hl hi] at hj
    have h2 := place_lt (c := c) hi hj
    rw [rof_room (by omega), at8_rowAt hj, Nat.add_assoc]
    exact h _ (by omega)
theorem rowOf_F (r c i l cap : Nat) (a : Option Addr) (xs : List F) (w0 w : World) (hr : r ≤ 64) (hc : c ≤ 64) (hi : i < r) (hl : l = r * c) (hx : xs.length = r * c) (hcap : l ≤ cap) (hX : Row8 w0 a xs) :
    Calls Tryz.prog 100 #[.agg #[.int .i64 r, .int .i64 c, .slice a l cap], .int .i64 i] w fun e w' => ∃ a' cap', e = .returned (.slice a' c cap') ∧ Row8 w0 a' (rowAt c xs i) ∧ c ≤ cap' ∧ Below w.heap.size w w' := by
  rcases hX with e | ⟨b, off, rfl, h⟩
  · have h0 : r * c = 0 := by rw [← hx, e]; rfl
    have hc0 : c = 0 := by
      rcases Nat.mul_eq_zero.1 h0 with h | h
      · omega
      · exact h
    subst hc0
    obtain rfl : l = 0 := by omega
    exact (rowOf_none r i cap a w hr hi).mono fun e w' ⟨he, hb⟩ => ⟨a, cap, he, .inl (by simp [rowAt]), Nat.zero_le _, hb⟩
  · refine (rowOf_some r c i b off l cap w hr hc hi hl hcap).mono fun e w' ⟨he, hb⟩ => ⟨_, _, he, row8_rowAt hx hi (by omega) h, ?_, hb⟩
    have := Nat.mul_le_mul_right c (show i + 1 ≤ r from hi)
    rw [Nat.succ_mul] at this; omega
set_option maxHeartbeats 400000 in
theorem zero_F (r c : Nat) (w : World) (hr : r ≤ 64) (hc : c ≤ 64) :
    Calls Tryz.prog 102 #[.int .i64 r, .int .i64 c] w fun e w' => ∃ g n, e = .returned (.tuple #[.agg #[.int .i64 r, .int .i64 c, .slice (some ⟨g, 0, none⟩) n n], .nilIface]) ∧ n = r * c ∧ w.heap.size ≤ g ∧
      w'.heap[g]? = some (.cells (vfs (zeros (r * c))) 5 (0, 0)) ∧ Below w.heap.size w w' := by
  obtain ⟨m0, m1⟩ := mul_small (r := r) (c := c) hr hc
  have hr' : (r : Int) ≤ 64 := by omega
  have hc' : (c : Int) ≤ 64 := by omega
  have hN : Hid (r * c ≤ 4096) := by
    have : (r : Int) * (c : Int) = ((r * c : Nat) : Int) := by simp
    show _ ≤ _
    omega
  have hmk := run_make8 (r * c) (by have := hN.out; omega)
  rw [show ((r * c : Nat) : Int) = (r : Int) * (c : Int) from by simp] at hmk
  go_enter Tryz.func102, Tryz.ntmps102
  go_wp2_with (go_at_call 121; refine (fits_yes _ _ (by omega) (by omega)).mono ?_; rintro e w' ⟨rfl, rfl⟩)
  refine bodyPost_ret (v := .tuple #[.agg #[.int .i64 r, .int .i64 c, .slice (some ⟨w.heap.size + 1, 0, none⟩) (r * c) (r * c)], .nilIface]) (by simp [results, Tryz.results102, go_sem]) rfl ⟨w.heap.size + 1, r * c, rfl, rfl, by omega, ?_, ?_⟩
  · exact heap_alloc2_new w _ _
  · exact ((Below.refl _ _).alloc (Nat.le_refl _) _).alloc (by simp) _
set_option maxHeartbeats 400000 in
theorem zero_bad (r c : Int) (w : World) (sh : Value) (hs : w.cell? ⟨4, 0, none⟩ = some sh) (h : ¬ (0 ≤ r ∧ r ≤ 64 ∧ 0 ≤ c ∧ c ≤ 64)) :
    Calls Tryz.prog 102 #[.int .i64 r, .int .i64 c] w fun e w' => e = .returned (.tuple #[.agg #[.int .i64 0, .int .i64 0, .slice none 0 0], sh]) ∧ Below w.heap.size w w' := by
  have hg : 4 < w.heap.size := by
    have := World.block_lt_of_cell? w _ hs; simp at this; omega
  by_cases h1 : 0 ≤ r ∧ r ≤ 64
  · have H2 : Hid (¬ (0 ≤ c ∧ c ≤ 64)) := by show ¬ _; omega
    obtain ⟨k0, k1⟩ := h1
    clear h
    go_enter Tryz.func102, Tryz.ntmps102
    go_wp2_with fail
    refine (fits_yes _ _ k0 k1).mono ?_
    rintro e w' ⟨rfl, rfl⟩
    go_wp2_with fail
    refine (fits_no _ _ H2.out).mono ?_
    rintro e w' ⟨rfl, rfl⟩
    go_wp2_with fail
    go_region
    go_wp2
    refine bodyPost_ret (v := .tuple #[.agg #[.int .i64 0, .int .i64 0, .slice none 0 0], sh]) (by simp [results, Tryz.results102, go_sem]) rfl ⟨rfl, ?_⟩
    exact ((Below.refl _ _).alloc (Nat.le_refl _) _).drew
  · have H2 : Hid _ := h1
    clear h h1
    go_enter Tryz.func102, Tryz.ntmps102
    go_wp2_with fail
    refine (fits_no _ _ H2.out).mono ?_
    rintro e w' ⟨rfl, rfl⟩
    go_wp2_with fail
    go_region
    go_wp2
    refine bodyPost_ret (v := .tuple #[.agg #[.int .i64 0, .int .i64 0, .slice none 0 0], sh]) (by simp [results, Tryz.results102, go_sem]) rfl ⟨rfl, ?_⟩
    exact ((Below.refl _ _).alloc (Nat.le_refl _) _).drew
/-- the error's very value -/
def errAt (s : Addr) : Value := .iface 191 (.pointer (some s))
/-- what was there reads as it did -/
theorem bcell {W w1 : World} (hb : Below W.heap.size W w1) : (∀ b o, b < W.heap.size → w1.cell? ⟨b, o, none⟩ = W.cell? ⟨b, o, none⟩) ∧ (∀ b o, b < W.heap.size → w1.frozen? ⟨b, o, none⟩ = W.frozen? ⟨b, o, none⟩) :=
  ⟨fun b o h => hb.cell (p := ⟨b, o, none⟩) h, fun b o h => hb.frozen (p := ⟨b, o, none⟩) h⟩
theorem row8_cell {w : World} {a : Option Addr} {xs : List F} {j : Nat} (h : Row8 w a xs) (hj : j < xs.length) : ∃ b off, a = some ⟨b, off, none⟩ ∧ b < w.heap.size ∧ ∀ j, j < xs.length → w.cell? ⟨b, off + j, none⟩ = some (.int .u8 ((at8 xs j).toNat : Int)) := by
  rcases h with rfl | ⟨b, off, e, h⟩
  · simp at hj
  · have := World.block_lt_of_cell? w _ (h j hj)
    exact ⟨b, off, e, by simpa using this, h⟩
theorem grid_set {c r i j : Nat} {f : Nat → Nat → F} {x : F} (hi : i < r) (hj : j < c) : (grid c f r).set (i * c + j) x = grid c (fun a b => if a = i ∧ b = j then x else f a b) r := by
  refine grid_eq (by rw [List.length_set, grid_len]) fun a b ha hb => ?_
  have h1 := place_lt (c := c) hi hj
  by_cases h : a = i ∧ b = j
  · obtain ⟨rfl, rfl⟩ := h
    simp [at8, grid_len, h1]
  · have hne : i * c + j ≠ a * c + b := by
      intro e
      have e1 : (i * c + j) / c = (a * c + b) / c := by rw [e]
      have e2 : (i * c + j) % c = (a * c + b) % c := by rw [e]
      rw [Nat.mul_comm i, Nat.mul_comm a, Nat.mul_add_div (by omega), Nat.mul_add_div (by omega), Nat.div_eq_of_lt hj, Nat.div_eq_of_lt hb] at e1
      rw [Nat.mul_comm i, Nat.mul_comm a, Nat.mul_add_mod, Nat.mul_add_mod, Nat.mod_eq_of_lt hj, Nat.mod_eq_of_lt hb] at e2
      exact h ⟨by omega, by omega⟩
    rw [if_neg h]
    have : at8 ((grid c f r).set (i * c + j) x) (a * c + b) = at8 (grid c f r) (a * c + b) := by
      simp [at8, hne]
    rw [this, at8_grid ha hb]
/-! worlds that have grown but for one block -/
theorem grown_block {w w' : World} {g k : Nat} {o : Obj} (h : w.grownBy w' (some g)) (hk : w.heap[k]? = some o) (hne : k ≠ g) : w'.heap[k]? = some o :=
  (h.block k (Array.getElem?_eq_some_iff.1 hk).1 (by simpa using hne)).trans hk
theorem grown_below {w w1 w2 : World} {g : Nat} (h : w.grownBy w1 (some g)) (hb : Below w1.heap.size w1 w2) : w.grownBy w2 (some g) :=
  ⟨hb.os.trans h.os, hb.tape.trans h.tape, hb.output.trans h.output, Nat.le_trans h.size hb.size, fun k hk hne => (hb.block k (Nat.lt_of_lt_of_le hk h.size)).trans (h.block k hk hne)⟩
theorem grownBy_below' {w w1 w2 : World} {g : Nat} (hb : Below w.heap.size w w1) (h : w1.grownBy w2 (some g)) (hg : w.heap.size ≤ g) : Below w.heap.size w w2 :=
  hb.trans ⟨h.os, h.tape, h.output, h.size, fun k hk => h.block k (Nat.lt_of_lt_of_le hk hb.size) (by simp; omega)⟩
theorem below_grown {w w1 w2 : World} {g : Nat} (hb : Below w.heap.size w w1) (h : w1.grownBy w2 (some g)) (hg : w.heap.size ≤ g) : Below w.heap.size w w2 :=
  grownBy_below' hb h hg
theorem cellAt {w : World} {g : Nat} {cs : Array Value} {t : TypeId} {fr : Nat × Nat} (h : w.heap[g]? = some (.cells cs t fr)) (j : Nat) (v : Value) (hv : cs[j]? = some v) : w.cell? ⟨g, j, none⟩ = some v := by
  rw [cell_of_row _ _ _ _ _ _ h]; exact hv
theorem heap_later {w w1 : World} {k : Nat} {o : Obj} (h : w.heap[k]? = some o) (hb : Below w.heap.size w w1) : w1.heap[k]? = some o := (hb.block k (Array.getElem?_eq_some_iff.1 h).1).trans h
theorem ltHeap {w : World} {g : Nat} {o : Obj} (h : w.heap[g]? = some o) : g < w.heap.size := (Array.getElem?_eq_some_iff.1 h).1
end Go.Proofs.YtkoakingmnjdoaaGreatDoor
