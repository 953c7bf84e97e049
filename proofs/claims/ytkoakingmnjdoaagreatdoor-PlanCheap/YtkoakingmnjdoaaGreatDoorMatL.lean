/- Sums, rows and grids of elements: the plain arithmetic of matrices; no program is spoken of. -/
import Derived.Test.YtkoakingmnjdoaaGreatDoorGfStr
namespace Go.Proofs.YtkoakingmnjdoaaGreatDoor
open Go.RowKit Gf
set_option linter.unusedVariables false
set_option maxRecDepth 20000

/-- f 0 + .. + f (n - 1) -/
def sumF (f : Nat → F) : Nat → F
  | 0 => 0
  | n + 1 => ga (sumF f n) (f n)
theorem sumF_congr {f g : Nat → F} : ∀ {n : Nat}, (∀ l, l < n → f l = g l) → sumF f n = sumF g n
  | 0, _ => rfl
  | n + 1, h => by simp only [sumF]; rw [sumF_congr (n := n) (fun l hl => h l (by omega)), h n (by omega)]
theorem sumF_zero : ∀ n, sumF (fun _ => 0) n = 0
  | 0 => rfl
  | n + 1 => by simp only [sumF]; rw [sumF_zero n, F.add_zero]
theorem sumF_none {f : Nat → F} {n : Nat} (h : ∀ l, l < n → f l = 0) : sumF f n = 0 := by rw [sumF_congr h, sumF_zero]
theorem sumF_add (f g : Nat → F) : ∀ n, sumF (fun l => ga (f l) (g l)) n = ga (sumF f n) (sumF g n)
  | 0 => by simp [sumF]
  | n + 1 => by simp only [sumF]; rw [sumF_add f g n]; simp only [F.add_assoc, F.add_left_comm]
theorem sumF_mul_left (c : F) (f : Nat → F) : ∀ n, gm c (sumF f n) = sumF (fun l => gm c (f l)) n
  | 0 => by simp [sumF]
  | n + 1 => by simp only [sumF]; rw [F.mul_add, sumF_mul_left c f n]
theorem sumF_mul_right (c : F) (f : Nat → F) (n : Nat) : gm (sumF f n) c = sumF (fun l => gm (f l) c) n := by
  rw [F.mul_comm, sumF_mul_left]; exact sumF_congr fun l _ => F.mul_comm _ _
theorem sumF_swap (f : Nat → Nat → F) (m : Nat) : ∀ n, sumF (fun i => sumF (fun j => f i j) m) n = sumF (fun j => sumF (fun i => f i j) n) m
  | 0 => by simp only [sumF]; rw [sumF_zero]
  | n + 1 => by simp only [sumF]; rw [sumF_swap f m n, ← sumF_add]
theorem sumF_pick (f : Nat → F) (i : Nat) : ∀ n, i < n → (∀ l, l < n → l ≠ i → f l = 0) → sumF f n = f i
  | 0, h, _ => absurd h (Nat.not_lt_zero _)
  | n + 1, h, hz => by
    simp only [sumF]
    by_cases e : i = n
    · subst e; rw [sumF_none (fun l hl => hz l (by omega) (by omega)), F.zero_add]
    · rw [hz n (by omega) (by omega), F.add_zero, sumF_pick f i n (by omega) (fun l hl hne => hz l (by omega) hne)]

theorem at8_nil (j : Nat) : at8 [] j = 0 := rfl
theorem at8_left {xs ys : List F} {j : Nat} (h : j < xs.length) : at8 (xs ++ ys) j = at8 xs j := by
  simp [at8, List.getElem?_append_left h]
theorem at8_right {xs ys : List F} {j : Nat} (h : xs.length ≤ j) : at8 (xs ++ ys) j = at8 ys (j - xs.length) := by
  simp [at8, List.getElem?_append_right h]
theorem at8_take {xs : List F} {n j : Nat} (h : j < n) : at8 (xs.take n) j = at8 xs j := by
  simp [at8, h]
theorem at8_drop (xs : List F) (n j : Nat) : at8 (xs.drop n) j = at8 xs (n + j) := by
  simp [at8]
theorem list_ext_len {xs ys : List F} (hl : xs.length = ys.length) (h : ∀ j, j < xs.length → at8 xs j = at8 ys j) : xs = ys := by
  apply list_ext8 hl
  intro j
  by_cases hj : j < xs.length
  · exact h j hj
  · rw [at8_over (by omega), at8_over (by omega)]
/-- f 0, .., f (c - 1) -/
def rowF (c : Nat) (f : Nat → F) : List F := (List.range c).map f
theorem rowF_len (c : Nat) (f : Nat → F) : (rowF c f).length = c := by simp [rowF]
theorem at8_rowF {c : Nat} {f : Nat → F} {j : Nat} (h : j < c) : at8 (rowF c f) j = f j := by simp [rowF, at8, h]
theorem rowF_congr {c : Nat} {f g : Nat → F} (h : ∀ j, j < c → f j = g j) : rowF c f = rowF c g := by
  apply list_ext_len (by rw [rowF_len, rowF_len])
  intro j hj
  rw [rowF_len] at hj
  rw [at8_rowF hj, at8_rowF hj, h j hj]
theorem rowF_of {xs : List F} {c : Nat} (h : xs.length = c) : rowF c (at8 xs) = xs := by
  apply list_ext_len (by rw [rowF_len, h])
  intro j hj
  rw [rowF_len] at hj
  rw [at8_rowF hj]
theorem rowF_eq {xs : List F} {c : Nat} {f : Nat → F} (h : xs.length = c) (hf : ∀ j, j < c → at8 xs j = f j) : xs = rowF c f := by
  rw [← rowF_of h]; exact rowF_congr hf
/-- r rows of c elements -/
def grid (c : Nat) (f : Nat → Nat → F) : Nat → List F
  | 0 => []
  | r + 1 => grid c f r ++ rowF c (f r)
theorem grid_len (c : Nat) (f : Nat → Nat → F) : ∀ r, (grid c f r).length = r * c
  | 0 => by simp [grid]
  | r + 1 => by rw [grid, List.length_append, grid_len c f r, rowF_len, Nat.succ_mul]
theorem place_lt {r c i j : Nat} (hi : i < r) (hj : j < c) : i * c + j < r * c := by
  have h1 : i * c + c ≤ r * c := by
    have := Nat.mul_le_mul_right c (show i + 1 ≤ r from hi)
    rwa [Nat.succ_mul] at this
  omega
theorem at8_grid {c : Nat} {f : Nat → Nat → F} : ∀ {r i j : Nat}, i < r → j < c → at8 (grid c f r) (i * c + j) = f i j
  | 0, _, _, h, _ => absurd h (Nat.not_lt_zero _)
  | r + 1, i, j, hi, hj => by
    rw [grid]
    by_cases h : i < r
    · rw [at8_left (by rw [grid_len]; exact place_lt h hj), at8_grid h hj]
    · have : i = r := by omega
      subst this
      rw [at8_right (by rw [grid_len]; omega), grid_len, show i * c + j - i * c = j from by omega, at8_rowF hj]
theorem split_place {r c k : Nat} (h : k < r * c) : ∃ i j, i < r ∧ j < c ∧ k = i * c + j := by
  have hc : 0 < c := by
    rcases Nat.eq_zero_or_pos c with e | e
    · rw [e, Nat.mul_zero] at h; omega
    · exact e
  exact ⟨k / c, k % c, Nat.div_lt_of_lt_mul (by rwa [Nat.mul_comm]), Nat.mod_lt _ hc, by rw [Nat.mul_comm]; exact (Nat.div_add_mod k c).symm⟩
theorem grid_eq {xs : List F} {r c : Nat} {f : Nat → Nat → F} (hl : xs.length = r * c) (h : ∀ i j, i < r → j < c → at8 xs (i * c + j) = f i j) : xs = grid c f r := by
  apply list_ext_len (by rw [grid_len, hl])
  intro k hk
  obtain ⟨i, j, hi, hj, rfl⟩ := split_place (hl ▸ hk)
  rw [h i j hi hj, at8_grid hi hj]
theorem grid_congr {r c : Nat} {f g : Nat → Nat → F} (h : ∀ i j, i < r → j < c → f i j = g i j) : grid c f r = grid c g r :=
  grid_eq (grid_len _ _ _) fun i j hi hj => by rw [at8_grid hi hj, h i j hi hj]
theorem grid_of {xs : List F} {r c : Nat} (hl : xs.length = r * c) : xs = grid c (fun i j => at8 xs (i * c + j)) r := grid_eq hl fun _ _ _ _ => rfl
/-- row i of a grid of c columns -/
def rowAt (c : Nat) (xs : List F) (i : Nat) : List F := (xs.drop (i * c)).take c
theorem rowAt_len {r c i : Nat} {xs : List F} (hl : xs.length = r * c) (hi : i < r) : (rowAt c xs i).length = c := by
  have : i * c + c ≤ r * c := by
    have := Nat.mul_le_mul_right c (show i + 1 ≤ r from hi)
    rwa [Nat.succ_mul] at this
  simp only [rowAt, List.length_take, List.length_drop]; omega
theorem at8_rowAt {c i j : Nat} {xs : List F} (hj : j < c) : at8 (rowAt c xs i) j = at8 xs (i * c + j) := by
  rw [rowAt, at8_take hj, at8_drop]
theorem rowAt_grid {c i r : Nat} {f : Nat → Nat → F} (hi : i < r) : rowAt c (grid c f r) i = rowF c (f i) :=
  rowF_eq (rowAt_len (grid_len _ _ _) hi) fun j hj => by rw [at8_rowAt hj, at8_grid hi hj]
theorem rowAt_rowF {r c i : Nat} {xs : List F} (hl : xs.length = r * c) (hi : i < r) : rowAt c xs i = rowF c (fun j => at8 xs (i * c + j)) :=
  rowF_eq (rowAt_len hl hi) fun j hj => at8_rowAt hj
theorem zeros_grid (r c : Nat) : zeros (r * c) = grid c (fun _ _ => 0) r := grid_eq (zeros_len _) fun _ _ _ _ => at8_zeros _ _
theorem grid_flat (c : Nat) (f : Nat → Nat → F) : ∀ r, grid c f r = ((List.range r).map fun i => rowF c (f i)).flatten
  | 0 => rfl
  | r + 1 => by rw [grid, grid_flat c f r, List.range_succ, List.map_append, List.flatten_append]; simp

/-! the calls' answers -/
def oneM (n : Nat) : List F := grid n (fun i j => if i = j then 1 else 0) n
def mulM (n c : Nat) (a b : List F) (r : Nat) : List F := grid c (fun i j => sumF (fun l => gm (at8 a (i * n + l)) (at8 b (l * c + j))) n) r
def trM (r c : Nat) (a : List F) : List F := grid r (fun j i => at8 a (i * c + j)) c
def timesM (r c : Nat) (a v : List F) : List F := rowF r (fun i => sumF (fun l => gm (at8 a (i * c + l)) (at8 v l)) c)
def leftTo (c : Nat) (v a : List F) (k : Nat) : List F := rowF c (fun j => sumF (fun l => gm (at8 v l) (at8 a (l * c + j))) k)
theorem mulM_len (n c : Nat) (a b : List F) (r : Nat) : (mulM n c a b r).length = r * c := grid_len _ _ _
theorem trM_len (r c : Nat) (a : List F) : (trM r c a).length = c * r := grid_len _ _ _
theorem oneM_len (n : Nat) : (oneM n).length = n * n := grid_len _ _ _
theorem timesM_len (r c : Nat) (a v : List F) : (timesM r c a v).length = r := rowF_len _ _
theorem leftTo_len (c : Nat) (v a : List F) (k : Nat) : (leftTo c v a k).length = c := rowF_len _ _
theorem at8_mulM {n c r i j : Nat} {a b : List F} (hi : i < r) (hj : j < c) : at8 (mulM n c a b r) (i * c + j) = sumF (fun l => gm (at8 a (i * n + l)) (at8 b (l * c + j))) n := at8_grid hi hj
theorem at8_trM {r c i j : Nat} {a : List F} (hi : i < r) (hj : j < c) : at8 (trM r c a) (j * r + i) = at8 a (i * c + j) := at8_grid (f := fun j i => at8 a (i * c + j)) hj hi
theorem at8_oneM {n i j : Nat} (hi : i < n) (hj : j < n) : at8 (oneM n) (i * n + j) = if i = j then 1 else 0 := at8_grid (f := fun i j => if i = j then 1 else 0) hi hj
theorem dot_sum : ∀ (n : Nat) (xs ys : List F), xs.length = n → ys.length = n → dot xs ys = sumF (fun l => gm (at8 xs l) (at8 ys l)) n := fun n xs ys hx hy => by
  have key : ∀ k, k ≤ n → dot (xs.take k) (ys.take k) = sumF (fun l => gm (at8 xs l) (at8 ys l)) k := by
    intro k
    induction k with
    | zero => intro _; simp [dot, sumF]
    | succ k ih => intro hk; rw [dot_take_succ _ _ _ (by omega) (by omega), ih (by omega), sumF]
  have := key n (Nat.le_refl _)
  rwa [List.take_of_length_le (by omega), List.take_of_length_le (by omega)] at this
theorem dot_rowAt {r c i : Nat} {a v : List F} (ha : a.length = r * c) (hv : v.length = c) (hi : i < r) : dot (rowAt c a i) v = sumF (fun l => gm (at8 a (i * c + l)) (at8 v l)) c := by
  rw [dot_sum c _ _ (rowAt_len ha hi) hv]
  exact sumF_congr fun l hl => by rw [at8_rowAt hl]
theorem leftTo_zero (c : Nat) (v a : List F) : leftTo c v a 0 = zeros c := (rowF_eq (zeros_len c) fun j _ => at8_zeros c j).symm
theorem leftTo_step {r c k : Nat} {v a : List F} (ha : a.length = r * c) (hk : k < r) : scaled (at8 v k) (leftTo c v a k) (rowAt c a k) = leftTo c v a (k + 1) := by
  refine rowF_eq (by rw [scaled_len, leftTo_len, rowAt_len ha hk, Nat.max_self]) fun j hj => ?_
  rw [at8_scaled, at8_rowAt hj, leftTo, at8_rowF hj, sumF]
theorem mulM_rows {n c r : Nat} {a b : List F} (ha : a.length = r * n) : mulM n c a b r = ((List.range r).map fun i => leftTo c (rowAt n a i) b n).flatten := by
  rw [mulM, grid_flat]
  congr 1
  apply List.map_congr_left
  intro i hi
  refine rowF_congr fun j hj => sumF_congr fun l hl => ?_
  rw [at8_rowAt hl]
theorem timesM_mul {n c r : Nat} {a b v : List F} : timesM r c (mulM n c a b r) v = timesM r n a (timesM n c b v) := by
  refine rowF_congr fun i hi => ?_
  rw [sumF_congr (fun l hl => by rw [at8_mulM hi hl, sumF_mul_right]), sumF_swap]
  refine sumF_congr fun l hl => ?_
  rw [timesM, at8_rowF hl, sumF_mul_left]
  exact sumF_congr fun m _ => F.mul_assoc _ _ _
theorem leftTo_mul {n c r : Nat} {v a b : List F} : leftTo c v (mulM n c a b r) r = leftTo c (leftTo n v a r) b n := by
  refine rowF_congr fun j hj => ?_
  rw [sumF_congr (fun l hl => by rw [at8_mulM hl hj, sumF_mul_left]), sumF_swap]
  refine sumF_congr fun l hl => ?_
  rw [leftTo, at8_rowF hl, sumF_mul_right]
  exact sumF_congr fun m _ => (F.mul_assoc _ _ _).symm
theorem mulM_assoc {n m c r : Nat} {a b d : List F} : mulM m c (mulM n m a b r) d r = mulM n c a (mulM m c b d n) r := by
  refine grid_congr fun i j hi hj => ?_
  rw [sumF_congr (fun l hl => by rw [at8_mulM hi hl, sumF_mul_right]), sumF_swap]
  refine sumF_congr fun l hl => ?_
  rw [at8_mulM hl hj, sumF_mul_left]
  exact sumF_congr fun m _ => F.mul_assoc _ _ _
theorem mulM_one {n r : Nat} {a : List F} (ha : a.length = r * n) : mulM n n a (oneM n) r = a := by
  refine (grid_eq ha fun i j hi hj => ?_).symm
  rw [sumF_pick _ j n hj (fun l hl hne => by rw [at8_oneM hl hj, if_neg hne, F.mul_zero]), at8_oneM hj hj, if_pos rfl, F.mul_one]
theorem one_mulM {n c : Nat} {a : List F} (ha : a.length = n * c) : mulM n c (oneM n) a n = a := by
  refine (grid_eq ha fun i j hi hj => ?_).symm
  rw [sumF_pick _ i n hi (fun l hl hne => by rw [at8_oneM hi hl, if_neg (fun e => hne e.symm), F.zero_mul]), at8_oneM hi hi, if_pos rfl, F.one_mul]
theorem trM_mul {n c r : Nat} {a b : List F} : trM r c (mulM n c a b r) = mulM n r (trM n c b) (trM r n a) c := by
  refine grid_congr fun j i hj hi => ?_
  rw [at8_mulM hi hj]
  refine sumF_congr fun l hl => ?_
  rw [at8_trM (c := c) hl hj, at8_trM hi hl, F.mul_comm]
theorem trM_trM {r c : Nat} {a : List F} (ha : a.length = r * c) : trM c r (trM r c a) = a :=
  (grid_eq ha fun i j hi hj => (at8_trM (c := c) hi hj).symm).symm
end Go.Proofs.YtkoakingmnjdoaaGreatDoor
