/- Plain algebra of stage 6: how many bytes a half has, how many stripes there are, bytes cut and joined; nothing of the program is proved here. -/
import Derived.Test.YtmlpijlcpeoeaaaDoorMatO
namespace Go.Proofs.YtmlpijlcpeoeaaaDoor
open Go.RowKit Gf
set_option linter.unusedVariables false
set_option maxRecDepth 20000
/-- how many pieces of m make n -/
def cntN (m n : Nat) : Nat := (n + m - 1) / m
theorem lt_cnt {m n i : Nat} (hm : 0 < m) : i < cntN m n ↔ i * m < n := by
  show i + 1 ≤ (n + m - 1) / m ↔ _
  rw [Nat.le_div_iff_mul_le hm, Nat.add_mul, Nat.one_mul]
  omega
theorem cnt_cover {m n : Nat} (hm : 0 < m) : n ≤ cntN m n * m := by
  have h0 : ¬ cntN m n * m < n := fun h => Nat.lt_irrefl _ ((lt_cnt (i := cntN m n) (n := n) hm).2 h)
  omega
theorem cnt_tight {m n : Nat} (hm : 0 < m) (hn : 0 < n) : 0 < cntN m n ∧ (cntN m n - 1) * m < n := by
  have h1 : 0 < cntN m n := (lt_cnt hm).2 (by simpa using hn)
  exact ⟨h1, (lt_cnt hm).1 (by omega)⟩
theorem cnt_eq {m n i : Nat} (hm : 0 < m) (h1 : i = 0 ∨ (i - 1) * m < n) (h2 : n ≤ i * m) : i = cntN m n := by
  rcases Nat.lt_trichotomy i (cntN m n) with h | h | h
  · have := (lt_cnt hm).1 h; omega
  · exact h
  · rcases h1 with rfl | h1
    · omega
    · have := (lt_cnt (i := i - 1) hm).2 h1; omega
/-- numbers of data shards -/
def OkK (k : Int) : Prop := 1 ≤ k ∧ k ≤ 14
instance (k : Int) : Decidable (OkK k) := inferInstanceAs (Decidable (_ ∧ _))
/-- Half's error, as a number -/
def halfE (k size : Int) : Nat := if OkK k then (if size < 1 then 12 else if 128 * k < size then 20 else 0) else 1
/-- Half's answer -/
def halfV (k size : Int) : Nat := if halfE k size = 0 then cntN (2 * k.toNat) size.toNat else 0
theorem half_ok {k size : Int} (h : halfE k size = 0) : ∃ a n : Nat, k = a ∧ size = n ∧ 1 ≤ a ∧ a ≤ 14 ∧ 1 ≤ n ∧ n ≤ 128 * a := by
  unfold halfE at h
  split at h
  · rename_i hk
    obtain ⟨h1, h2⟩ := hk
    split at h
    · cases h
    · split at h
      · cases h
      · exact ⟨k.toNat, size.toNat, by omega, by omega, by omega, by omega, by omega, by omega⟩
  · cases h
theorem halfE_ok {a n : Nat} (h1 : 1 ≤ a) (h2 : a ≤ 14) (h3 : 1 ≤ n) (h4 : n ≤ 128 * a) : halfE a n = 0 := by
  unfold halfE
  rw [if_pos (show OkK a from ⟨by omega, by omega⟩), if_neg (by omega), if_neg (by omega)]
theorem halfV_ok {a n : Nat} (h1 : 1 ≤ a) (h2 : a ≤ 14) (h3 : 1 ≤ n) (h4 : n ≤ 128 * a) : halfV a n = cntN (2 * a) n := by
  unfold halfV
  rw [if_pos (halfE_ok h1 h2 h3 h4)]; simp
theorem halfV_no {k size : Int} (h : halfE k size ≠ 0) : halfV k size = 0 := by unfold halfV; rw [if_neg h]
/-- what H is held to -/
theorem cnt_half {a n : Nat} (h1 : 1 ≤ a) (h2 : a ≤ 14) (h3 : 1 ≤ n) (h4 : n ≤ 128 * a) : 1 ≤ cntN (2 * a) n ∧ cntN (2 * a) n ≤ 64 ∧ n ≤ 2 * a * cntN (2 * a) n ∧ 2 * a * (cntN (2 * a) n - 1) < n := by
  obtain ⟨e1, e2⟩ := cnt_tight (m := 2 * a) (n := n) (by omega) (by omega)
  have e3 := cnt_cover (m := 2 * a) (n := n) (by omega)
  have e4 : ¬ 64 < cntN (2 * a) n := fun h => by
    have := (lt_cnt (m := 2 * a) (n := n) (by omega)).1 h
    omega
  refine ⟨e1, by omega, by rw [Nat.mul_comm]; exact e3, by rw [Nat.mul_comm]; exact e2⟩
/-- Stripes' error, as a number -/
def stripesE (k size : Int) : Nat := if OkK k then (if size < 0 then 12 else if 4096 < size then 20 else 0) else 1
theorem stripes_ok {k size : Int} (h : stripesE k size = 0) : ∃ a n : Nat, k = a ∧ size = n ∧ 1 ≤ a ∧ a ≤ 14 ∧ n ≤ 4096 := by
  unfold stripesE at h
  split at h
  · rename_i hk
    obtain ⟨h1, h2⟩ := hk
    split at h
    · cases h
    · split at h
      · cases h
      · exact ⟨k.toNat, size.toNat, by omega, by omega, by omega, by omega, by omega⟩
  · cases h
theorem stripesE_ok {a n : Nat} (h1 : 1 ≤ a) (h2 : a ≤ 14) (h4 : n ≤ 4096) : stripesE a n = 0 := by
  unfold stripesE
  rw [if_pos (show OkK a from ⟨by omega, by omega⟩), if_neg (by omega), if_neg (by omega)]
/-- the first i sizes of pieces of m of n -/
def strL (m n i : Nat) : List Int := (List.range i).map fun j => ((min (n - j * m) m : Nat) : Int)
theorem strL_len (m n i : Nat) : (strL m n i).length = i := by simp [strL]
theorem strL_succ (m n i : Nat) : strL m n (i + 1) = strL m n i ++ [((min (n - i * m) m : Nat) : Int)] := by simp [strL, List.range_succ]
theorem strL_at {m n i j : Nat} (h : j < i) : (strL m n i)[j]? = some ((min (n - j * m) m : Nat) : Int) := by simp [strL, h]
/-- Stripes' answer -/
def stripesL (k size : Int) : List Int := if stripesE k size = 0 then strL (128 * k.toNat) size.toNat (cntN (128 * k.toNat) size.toNat) else []
theorem stripesL_ok {a n : Nat} (h1 : 1 ≤ a) (h2 : a ≤ 14) (h4 : n ≤ 4096) : stripesL a n = strL (128 * a) n (cntN (128 * a) n) := by
  unfold stripesL
  rw [if_pos (stripesE_ok h1 h2 h4)]; simp
theorem stripesL_no {k size : Int} (h : stripesE k size ≠ 0) : stripesL k size = [] := by unfold stripesL; rw [if_neg h]
theorem cnt_stripes {a n : Nat} (h1 : 1 ≤ a) (h4 : n ≤ 4096) : cntN (128 * a) n ≤ 32 := by
  apply Decidable.byContradiction
  intro h
  have := (lt_cnt (m := 128 * a) (n := n) (by omega)).1 (show 32 < _ by omega)
  omega
/-- half v of H bytes -/
def hf (H : Nat) (xs : List F) (v : Nat) : List F := rowF H (fun i => at8 xs (v * H + i))
theorem hf_len (H : Nat) (xs : List F) (v : Nat) : (hf H xs v).length = H := rowF_len _ _
/-- a stripe's bytes, filled up -/
def padF (m : Nat) (xs : List F) : List F := rowF m (at8 xs)
theorem padF_len (m : Nat) (xs : List F) : (padF m xs).length = m := rowF_len _ _
theorem pad_eq {m : Nat} {xs : List F} (h : xs.length ≤ m) : xs ++ (zeros m).drop xs.length = padF m xs := by
  refine rowF_eq (by rw [List.length_append, List.length_drop, zeros_len]; omega) fun j hj => ?_
  by_cases hl : j < xs.length
  · rw [at8_left hl]
  · rw [at8_right (by omega), at8_drop, at8_zeros, at8_over (by omega)]
theorem at8_padF {m j : Nat} {xs : List F} (h : j < m) : at8 (padF m xs) j = at8 xs j := at8_rowF h
theorem flat_at {c : Nat} : ∀ {L : List (List F)} {i j : Nat}, (∀ xs ∈ L, xs.length = c) → i < L.length → j < c → at8 L.flatten (i * c + j) = at8 (L.getD i []) j
  | [], i, j, _, hi, _ => absurd hi (by simp)
  | xs :: L, 0, j, h, _, hj => by
    have h0 := h xs (List.mem_cons_self ..)
    rw [Nat.zero_mul, Nat.zero_add, List.flatten_cons, at8_left (by omega)]
    rfl
  | xs :: L, i + 1, j, h, hi, hj => by
    have h0 := h xs (List.mem_cons_self ..)
    rw [List.flatten_cons, at8_right (by rw [h0, Nat.add_mul]; omega), h0, Nat.add_mul, Nat.one_mul, show i * c + c + j - c = i * c + j from by omega, flat_at (fun ys hy => h ys (List.mem_cons_of_mem _ hy)) (by simpa using hi) hj]
    rfl
/-- the halves of a stripe, one behind the other, begin with its bytes -/
theorem flat_halves (H c : Nat) (xs : List F) : ((List.range c).map (hf H xs)).flatten = padF (c * H) xs := by
  have h1 : ∀ ys ∈ (List.range c).map (hf H xs), ys.length = H := fun ys hy => by
    obtain ⟨v, _, rfl⟩ := List.mem_map.1 hy
    exact hf_len _ _ _
  refine rowF_eq (by rw [flat_len h1]; simp) fun p hp => ?_
  obtain ⟨i, j, hi, hj, rfl⟩ := split_place hp
  rw [flat_at h1 (by simpa using hi) hj, List.getD_eq_getElem?_getD, List.getElem?_map, List.getElem?_range hi]
  exact at8_rowF hj
theorem take_pad {m : Nat} {xs : List F} (h : xs.length ≤ m) : (padF m xs).take xs.length = xs := by
  rw [← pad_eq h, List.take_left]
end Go.Proofs.YtmlpijlcpeoeaaaDoor
