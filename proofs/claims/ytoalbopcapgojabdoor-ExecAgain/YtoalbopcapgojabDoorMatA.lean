/- What the small functions of package mat answer: is there such a row, the cells of a row, a matrix of noughts. -/
import Derived.Test.YtoalbopcapgojabDoorMatL
import Derived.Test.YtoalbopcapgojabDoorMatChk
import Derived.Test.YtoalbopcapgojabDoorGfScalesL
import Derived.Stop.LaidErr
namespace Go.Proofs.YtoalbopcapgojabDoor
open Go.RowKit Gf
set_option linter.unusedVariables false
set_option maxRecDepth 20000
/-- is there such a place? -/
def thB (x n : Int) : Bool := decide (0 ≤ x) && decide (x < n)
theorem thB_true {x n : Int} (h0 : 0 ≤ x) (h1 : x < n) : thB x n = true := by simp [thB, h0, h1]
theorem thB_false {x n : Int} (h : ¬ (0 ≤ x ∧ x < n)) : thB x n = false := by simp [thB]; omega
/-- where a slice of a slice begins: one without room begins where the whole did -/
def rof (off p cap : Nat) : Nat := if cap = p then off else off + p
theorem rof_same (off p : Nat) : rof off p p = off := by simp [rof]
theorem rof_room {off p cap : Nat} (h : cap ≠ p) : rof off p cap = off + p := by simp [rof, h]
theorem row8_rowAt {w : World} {b off c i r cap : Nat} {xs : List F} (hl : xs.length = r * c) (hi : i < r) (hcap : xs.length ≤ cap)
    (h : ∀ j, j < xs.length → w.cell? ⟨b, off + j, none⟩ = some (.int .u8 ((at8 xs j).toNat : Int))) : Row8 w (some ⟨b, rof off (i * c) cap, none⟩) (rowAt c xs i) := by
  by_cases hc : c = 0
  · subst hc; left; simp [rowAt]
  · have h1 := place_lt (c := c) hi (show 0 < c by omega)
    refine .inr ⟨b, _, rfl, fun j hj => ?_⟩
    rw [rowAt_len hl hi] at hj
    have h2 := place_lt (c := c) hi hj
    rw [rof_room (by omega), at8_rowAt hj, Nat.add_assoc]
    exact h _ (by omega)
/-- the error's very value -/
def errAt (s : Addr) : Value := .iface 96 (.pointer (some s))
/-- what was there reads as it did -/
theorem bcell {W w1 : World} (hb : Below W.heap.size W w1) : (∀ b o, b < W.heap.size → w1.cell? ⟨b, o, none⟩ = W.cell? ⟨b, o, none⟩) ∧ (∀ b o, b < W.heap.size → w1.frozen? ⟨b, o, none⟩ = W.frozen? ⟨b, o, none⟩) :=
  ⟨fun b o h => hb.cell (p := ⟨b, o, none⟩) h, fun b o h => hb.frozen (p := ⟨b, o, none⟩) h⟩
theorem row8_cell {w : World} {a : Option Addr} {xs : List F} {j : Nat} (h : Row8 w a xs) (hj : j < xs.length) : ∃ b off, a = some ⟨b, off, none⟩ ∧ b < w.heap.size ∧ ∀ j, j < xs.length → w.cell? ⟨b, off + j, none⟩ = some (.int .u8 ((at8 xs j).toNat : Int)) := by
  rcases h with rfl | ⟨b, off, e, h⟩
  · simp at hj
  · have := World.block_lt_of_cell? w _ (h j hj)
    exact ⟨b, off, e, by simpa using this, h⟩
theorem grid_set {c r i j : Nat} {f : Nat → Nat → F} {x : F} (hi : i < r) (hj : j < c) : (grid c f r).set (i * c + j) x = grid c (fun a b => if a = i ∧ b = j then x else f a b) r := by
  refine grid_eq (by rw [List.length_set, grid_len]) fun a b ha hb => ?_
  have h1 := place_lt (c := c) hi hj
  by_cases h : a = i ∧ b = j
  · obtain ⟨rfl, rfl⟩ := h
    simp [at8, grid_len, h1]
  · have hne : i * c + j ≠ a * c + b := by
      intro e
      have e1 : (i * c + j) / c = (a * c + b) / c := by rw [e]
      have e2 : (i * c + j) % c = (a * c + b) % c := by rw [e]
      rw [Nat.mul_comm i, Nat.mul_comm a, Nat.mul_add_div (by omega), Nat.mul_add_div (by omega), Nat.div_eq_of_lt hj, Nat.div_eq_of_lt hb] at e1
      rw [Nat.mul_comm i, Nat.mul_comm a, Nat.mul_add_mod, Nat.mul_add_mod, Nat.mod_eq_of_lt hj, Nat.mod_eq_of_lt hb] at e2
      exact h ⟨by omega, by omega⟩
    rw [if_neg h]
    have : at8 ((grid c f r).set (i * c + j) x) (a * c + b) = at8 (grid c f r) (a * c + b) := by
      simp [at8, hne]
    rw [this, at8_grid ha hb]
/-! worlds that have grown but for one block -/
theorem grown_block {w w' : World} {g k : Nat} {o : Obj} (h : w.grownBy w' (some g)) (hk : w.heap[k]? = some o) (hne : k ≠ g) : w'.heap[k]? = some o :=
  (h.block k (Array.getElem?_eq_some_iff.1 hk).1 (by simpa using hne)).trans hk
theorem grown_below {w w1 w2 : World} {g : Nat} (h : w.grownBy w1 (some g)) (hb : Below w1.heap.size w1 w2) : w.grownBy w2 (some g) :=
  ⟨hb.os.trans h.os, hb.tape.trans h.tape, hb.output.trans h.output, Nat.le_trans h.size hb.size, fun k hk hne => (hb.block k (Nat.lt_of_lt_of_le hk h.size)).trans (h.block k hk hne)⟩
theorem grownBy_below' {w w1 w2 : World} {g : Nat} (hb : Below w.heap.size w w1) (h : w1.grownBy w2 (some g)) (hg : w.heap.size ≤ g) : Below w.heap.size w w2 :=
  hb.trans ⟨h.os, h.tape, h.output, h.size, fun k hk => h.block k (Nat.lt_of_lt_of_le hk hb.size) (by simp; omega)⟩
theorem below_grown {w w1 w2 : World} {g : Nat} (hb : Below w.heap.size w w1) (h : w1.grownBy w2 (some g)) (hg : w.heap.size ≤ g) : Below w.heap.size w w2 :=
  grownBy_below' hb h hg
theorem cellAt {w : World} {g : Nat} {cs : Array Value} {t : TypeId} {fr : Nat × Nat} (h : w.heap[g]? = some (.cells cs t fr)) (j : Nat) (v : Value) (hv : cs[j]? = some v) : w.cell? ⟨g, j, none⟩ = some v := by
  rw [cell_of_row _ _ _ _ _ _ h]; exact hv
theorem heap_later {w w1 : World} {k : Nat} {o : Obj} (h : w.heap[k]? = some o) (hb : Below w.heap.size w w1) : w1.heap[k]? = some o := (hb.block k (Array.getElem?_eq_some_iff.1 h).1).trans h
theorem ltHeap {w : World} {g : Nat} {o : Obj} (h : w.heap[g]? = some o) : g < w.heap.size := (Array.getElem?_eq_some_iff.1 h).1
end Go.Proofs.YtoalbopcapgojabDoor
