/- What the statements' own choice of numbers answers: so many numbers, rising, all below the bound; nothing that was there turns. -/
import Derived.Test.YtmlpijlcpeoeaaaDoorOwn
import Derived.Test.YtmlpijlcpeoeaaaDoorMatS
namespace Go.Proofs.YtmlpijlcpeoeaaaDoor
open Go.RowKit Gf
set_option linter.unusedVariables false
set_option maxRecDepth 20000
/-- marks in memory -/
def bvs (n : Nat) (f : Nat → Bool) : Array Value := ((List.range n).map fun i => Value.bool (f i)).toArray
theorem bvs_size (n : Nat) (f : Nat → Bool) : (bvs n f).size = n := by simp [bvs]
theorem bvs_get {n i : Nat} {f : Nat → Bool} (h : i < n) : (bvs n f)[i]? = some (.bool (f i)) := by simp [bvs, h]
def upB (f : Nat → Bool) (i : Nat) : Nat → Bool := fun j => f j || decide (j = i)
theorem bvs_set {n i : Nat} {f : Nat → Bool} : (bvs n f).setIfInBounds i (.bool true) = bvs n (upB f i) := by
  apply Array.ext_getElem?
  intro j
  simp only [bvs, Array.getElem?_setIfInBounds, List.size_toArray, List.length_map, List.length_range, List.getElem?_toArray, List.getElem?_map, upB]
  by_cases h : i = j
  · subst h; by_cases h2 : i < n <;> simp [h2]
  · rw [if_neg h]
    by_cases h2 : j < n <;> simp [h2, Ne.symm h]
theorem madeB (n : Nat) : madeCells (Value.bool false).cells n = bvs n (fun _ => false) := by
  apply Array.ext_getElem?
  intro i
  by_cases h : i < n <;> simp [madeCells, bvs, Value.cells, h, Nat.mod_one]
/-- how many are marked -/
def cntB (f : Nat → Bool) (n : Nat) : Nat := ((List.range n).filter f).length
theorem cntB_le (f : Nat → Bool) (n : Nat) : cntB f n ≤ n := by have := List.length_filter_le f (List.range n); simpa [cntB] using this
theorem cntB_succ (f : Nat → Bool) (n : Nat) : cntB f (n + 1) = cntB f n + if f n then 1 else 0 := by
  simp only [cntB, List.range_succ, List.filter_append, List.length_append, List.filter_cons, List.filter_nil]
  split <;> rfl
theorem cntB_same {f g : Nat → Bool} : ∀ {n : Nat}, (∀ i, i < n → f i = g i) → cntB f n = cntB g n
  | 0, _ => rfl
  | n + 1, h => by rw [cntB_succ, cntB_succ, cntB_same (n := n) (fun i hi => h i (by omega)), h n (by omega)]
theorem cntB_up {f : Nat → Bool} {i : Nat} (hf : f i = false) : ∀ {n : Nat}, i < n → cntB (upB f i) n = cntB f n + 1
  | 0, h => absurd h (Nat.not_lt_zero _)
  | n + 1, h => by
    rw [cntB_succ, cntB_succ]
    by_cases e : i = n
    · subst e
      rw [cntB_same (f := upB f i) (g := f) (fun j hj => by simp [upB, Nat.ne_of_lt hj]), hf]
      simp [upB]
    · rw [cntB_up hf (n := n) (by omega)]
      have : upB f i n = f n := by simp [upB, Ne.symm e]
      rw [this]; omega
theorem cntB_all {f : Nat → Bool} : ∀ {n : Nat}, (∀ i, i < n → f i = true) → cntB f n = n
  | 0, _ => rfl
  | n + 1, h => by rw [cntB_succ, cntB_all (n := n) (fun i hi => h i (by omega)), h n (by omega)]; rfl
theorem cntB_none (n : Nat) : cntB (fun _ => false) n = 0 := by simp [cntB]
/-- the marked numbers -/
def pickB (f : Nat → Bool) (n : Nat) : List Nat := (List.range n).filter f
theorem pickB_same {f g : Nat → Bool} {n : Nat} (h : ∀ i, i < n → f i = g i) : pickB f n = pickB g n := List.filter_congr fun i hi => h i (by simpa using hi)
theorem pickB_yes {f : Nat → Bool} {n : Nat} (h : f n = true) : pickB f (n + 1) = pickB f n ++ [n] := by simp [pickB, List.range_succ, h]
theorem pickB_no {f : Nat → Bool} {n : Nat} (h : f n = false) : pickB f (n + 1) = pickB f n := by simp [pickB, List.range_succ, h]
theorem pickB_up {f : Nat → Bool} {n : Nat} : pickB (upB f n) n = pickB f n := pickB_same fun i hi => by simp [upB, Nat.ne_of_lt hi]
theorem pickB_sorted (f : Nat → Bool) (n : Nat) : (pickB f n).Pairwise (· < ·) := List.pairwise_lt_range.filter _
theorem pickB_lt {f : Nat → Bool} {n : Nat} : ∀ x ∈ pickB f n, x < n := fun x hx => by simpa using (List.mem_filter.1 hx).1
/-- numbers as values -/
def nvs (L : List Nat) : List Value := L.map fun i => Value.int .i64 ((i : Nat) : Int)
theorem nvs_snoc (L : List Nat) (i : Nat) : nvs L ++ [.int .i64 (i : Int)] = nvs (L ++ [i]) := by simp [nvs]
theorem own_setCell {w : World} {B n g i : Nat} {v x : Value} {e : TypeId} {s : Nat} {xs : List Value} (h : w.ownsRow B e s v n xs) (hg : g < B) : (w.setCell ⟨g, i, none⟩ x).ownsRow B e s v n xs := by
  refine ⟨h.1, h.2.imp id fun ⟨b, cap, cur, h1, h2, h3, h4⟩ => ⟨b, cap, cur, h1, h2, (heap_setCell_other _ _ _ _ (by show b ≠ g; omega)).trans h3, h4⟩⟩
theorem mod_place (x : Int) {n : Nat} (hn : 1 ≤ n) : (-(n : Int) < x.tmod n ∧ x.tmod n < n) ∧ ∃ j : Nat, j < n ∧ x.tmod n % (n : Int) = j := by
  have h1 : -(n : Int) < x.tmod n := by
    rcases Int.le_total 0 x with h | h
    · have := Int.tmod_nonneg n h; omega
    · have h2 := Int.neg_tmod (a := -x) (b := (n : Int))
      have h3 := Int.tmod_lt_of_pos (-x) (show (0 : Int) < n by omega)
      rw [Int.neg_neg] at h2; omega
  have h2 := Int.tmod_lt_of_pos x (show (0 : Int) < n by omega)
  have h3 : 0 ≤ x.tmod n % (n : Int) := Int.emod_nonneg _ (by omega)
  have h4 := Int.emod_lt_of_pos (x.tmod n) (show (0 : Int) < n by omega)
  exact ⟨⟨h1, h2⟩, (x.tmod n % (n : Int)).toNat, by omega, by omega⟩
end Go.Proofs.YtmlpijlcpeoeaaaDoor
