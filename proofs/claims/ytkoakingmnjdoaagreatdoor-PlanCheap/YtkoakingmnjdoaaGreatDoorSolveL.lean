/- Elimination over the field: the plain linear algebra; no program is spoken of. -/
import Derived.Test.YtkoakingmnjdoaaGreatDoorMatL
namespace Go.Proofs.YtkoakingmnjdoaaGreatDoor
open Go.RowKit Gf
set_option linter.unusedVariables false
set_option maxRecDepth 20000
abbrev Mt := Nat → Nat → F
/-- each of the first n rows of B is a combination of the first m rows of A, on c columns -/
def RowsIn (B : Mt) (n : Nat) (A : Mt) (m c : Nat) : Prop := ∀ i, i < n → ∃ e : Nat → F, ∀ j, j < c → B i j = sumF (fun k => gm (e k) (A k j)) m
theorem RowsIn.refl (A : Mt) (n c : Nat) : RowsIn A n A n c := fun i hi => ⟨fun k => if k = i then 1 else 0, fun j _ => by
  rw [sumF_pick _ i n hi (fun l _ hne => by simp [hne])]; simp⟩
theorem RowsIn.trans {A B C : Mt} {n m l c : Nat} (h : RowsIn C l B m c) (k : RowsIn B m A n c) : RowsIn C l A n c := by
  intro i hi
  obtain ⟨e, he⟩ := h i hi
  have hk : ∀ x : Nat, ∃ f : Nat → F, x < m → ∀ j, j < c → B x j = sumF (fun k => gm (f k) (A k j)) n := fun x => by
    by_cases hx : x < m
    · obtain ⟨f, hf⟩ := k x hx; exact ⟨f, fun _ => hf⟩
    · exact ⟨fun _ => 0, fun h => absurd h hx⟩
  obtain ⟨f, hf⟩ := Classical.axiomOfChoice hk
  refine ⟨fun a => sumF (fun x => gm (e x) (f x a)) m, fun j hj => ?_⟩
  rw [he j hj, sumF_congr (fun x hx => by rw [hf x hx j hj, sumF_mul_left])]
  rw [sumF_swap (fun x a => gm (e x) (gm (f x a) (A a j))) n m]
  apply sumF_congr; intro a _
  rw [sumF_mul_right]; exact sumF_congr fun x _ => (F.mul_assoc _ _ _).symm
theorem RowsIn.two {A B : Mt} {n m c : Nat} (h : ∀ i, i < m → ∃ x y : Nat, ∃ a b : F, x < n ∧ y < n ∧ ∀ j, j < c → B i j = ga (gm a (A x j)) (gm b (A y j))) : RowsIn B m A n c := by
  intro i hi
  obtain ⟨x, y, a, b, hx, hy, he⟩ := h i hi
  refine ⟨fun k => ga (if k = x then a else 0) (if k = y then b else 0), fun j hj => ?_⟩
  rw [he j hj, sumF_congr (fun k _ => F.add_mul _ _ _), sumF_add, sumF_pick _ x n hx (fun l _ hne => by simp [hne]), sumF_pick _ y n hy (fun l _ hne => by simp [hne])]
  simp
theorem RowsIn.null {A B : Mt} {n m c : Nat} (h : RowsIn B m A n c) {x : Nat → F} (hx : ∀ i, i < n → sumF (fun j => gm (A i j) (x j)) c = 0) : ∀ i, i < m → sumF (fun j => gm (B i j) (x j)) c = 0 := by
  intro i hi
  obtain ⟨e, he⟩ := h i hi
  rw [sumF_congr (fun j hj => by rw [he j hj, sumF_mul_right])]
  rw [sumF_swap (fun j k => gm (gm (e k) (A k j)) (x j)) n c]
  refine sumF_none fun k hk => ?_
  rw [sumF_congr (fun j _ => F.mul_assoc _ _ _), ← sumF_mul_left, hx k hk, F.mul_zero]
theorem RowsIn.narrow {A B : Mt} {n m c d : Nat} (h : RowsIn B m A n c) (hd : d ≤ c) : RowsIn B m A n d := fun i hi => (h i hi).elim fun e he => ⟨e, fun j hj => he j (by omega)⟩

/-! one pivot -/
def swapF (R : Mt) (row above : Nat) : Mt := fun i j => if i = above then R row j else if i = row then R above j else R i j
def pivF (R : Mt) (row above col : Nat) : Mt := fun i j =>
  if i = above then gm (inv (R row col)) (R row j) else ga (swapF R row above i j) (gm (swapF R row above i col) (gm (inv (R row col)) (R row j)))
theorem pivF_in (R : Mt) {row above n : Nat} (col c : Nat) (hr : row < n) (ha : above < n) : RowsIn (pivF R row above col) n R n c := by
  apply RowsIn.two
  intro i hi
  by_cases e : i = above
  · exact ⟨row, row, inv (R row col), 0, hr, hr, fun j _ => by simp [pivF, e]⟩
  · by_cases e2 : i = row
    · exact ⟨above, row, 1, gm (R above col) (inv (R row col)), ha, hr, fun j _ => by simp only [pivF, swapF, if_neg e, if_pos e2, F.mul_assoc, F.one_mul]⟩
    · exact ⟨i, row, 1, gm (R i col) (inv (R row col)), hi, hr, fun j _ => by simp [pivF, swapF, e, e2, F.mul_assoc]⟩
theorem pivF_above (R : Mt) (row above col j : Nat) : pivF R row above col above j = gm (inv (R row col)) (R row j) := by simp [pivF]
theorem pivF_back (R : Mt) {row above n : Nat} (col c : Nat) (hr : row < n) (ha : above < n) (hp : R row col ≠ 0) : RowsIn R n (pivF R row above col) n c := by
  have hrow : ∀ j, R row j = gm (R row col) (pivF R row above col above j) := fun j => by rw [pivF_above, ← F.mul_assoc, F.mul_inv hp, F.one_mul]
  apply RowsIn.two
  intro i hi
  by_cases e : i = row
  · exact ⟨above, above, R row col, 0, ha, ha, fun j _ => by rw [e, F.zero_mul, F.add_zero]; exact hrow j⟩
  · by_cases e2 : i = above
    · refine ⟨row, above, 1, R above col, hr, ha, fun j _ => ?_⟩
      have hne : row ≠ above := fun h => e (e2.trans h.symm)
      rw [pivF_above]; simp only [pivF, swapF, hne, if_false, if_true, e2, F.one_mul, F.add_right_cancel]
    · refine ⟨i, above, 1, R i col, hi, ha, fun j _ => ?_⟩
      rw [pivF_above]; simp only [pivF, swapF, e, e2, if_false, F.one_mul, F.add_right_cancel]

/-! reduced -/
/-- R is reduced as far as its first c columns go, with pivots in the columns p -/
structure Red (R : Mt) (p : List Nat) (n c : Nat) : Prop where
  len : p.length ≤ n
  lt : ∀ (k j : Nat), p[k]? = some j → j < c
  up : p.Pairwise (· < ·)
  unit : ∀ (k j : Nat), p[k]? = some j → ∀ i, i < n → R i j = if i = k then 1 else 0
  left : ∀ (k j : Nat), p[k]? = some j → ∀ l, l < j → R k l = 0
  below : ∀ i, p.length ≤ i → i < n → ∀ j, j < c → R i j = 0
theorem Red.start (R : Mt) (n : Nat) : Red R [] n 0 := ⟨Nat.zero_le _, fun k j h => by simp at h, List.Pairwise.nil, fun k j h => by simp at h, fun k j h => by simp at h, fun i _ _ j h => absurd h (Nat.not_lt_zero _)⟩
theorem Red.skip {R : Mt} {p : List Nat} {n c : Nat} (h : Red R p n c) (hz : ∀ i, p.length ≤ i → i < n → R i c = 0) : Red R p n (c + 1) :=
  ⟨h.len, fun k j hk => Nat.lt_succ_of_lt (h.lt k j hk), h.up, h.unit, h.left, fun i h1 h2 j hj => by
    by_cases e : j = c
    · rw [e]; exact hz i h1 h2
    · exact h.below i h1 h2 j (by omega)⟩
theorem Red.full {R : Mt} {p : List Nat} {n c d : Nat} (h : Red R p n c) (hn : p.length = n) (hd : c ≤ d) : Red R p n d :=
  ⟨h.len, fun k j hk => Nat.lt_of_lt_of_le (h.lt k j hk) hd, h.up, h.unit, h.left, fun i h1 h2 j hj => by omega⟩
theorem snoc_at {p : List Nat} {c k j : Nat} (h : (p ++ [c])[k]? = some j) : (k < p.length ∧ p[k]? = some j) ∨ (k = p.length ∧ j = c) := by
  by_cases hk : k < p.length
  · rw [List.getElem?_append_left hk] at h; exact .inl ⟨hk, h⟩
  · rw [List.getElem?_append_right (by omega)] at h
    have h2 := (List.getElem?_eq_some_iff.1 h).1
    simp only [List.length_singleton] at h2
    have e : k = p.length := by omega
    subst e
    simp at h
    exact .inr ⟨rfl, h.symm⟩
theorem Red.take {R : Mt} {p : List Nat} {n c row : Nat} (h : Red R p n c) (h1 : p.length ≤ row) (h2 : row < n) (hp : R row c ≠ 0) : Red (pivF R row p.length c) (p ++ [c]) n (c + 1) := by
  have hz : ∀ j, j < c → R row j = 0 := fun j hj => h.below row h1 h2 j hj
  have hs : ∀ i, p.length ≤ i → i < n → ∀ j, j < c → pivF R row p.length c i j = 0 := by
    intro i hi hin j hj
    simp only [pivF, swapF, hz j hj, F.mul_zero, F.add_zero]
    by_cases e : i = p.length
    · simp [e]
    · by_cases e2 : i = row
      · simp [e2]; exact fun _ => h.below _ (Nat.le_refl _) (by omega) j hj
      · simp [e, e2]; exact h.below i hi hin j hj
  have ht : ∀ i, i < p.length → ∀ j, j < c → pivF R row p.length c i j = R i j := by
    intro i hi j hj
    have e : i ≠ p.length := by omega
    have e2 : i ≠ row := by omega
    simp [pivF, swapF, hz j hj, e, e2]
  have hc : ∀ i, i < n → pivF R row p.length c i c = if i = p.length then 1 else 0 := by
    intro i hi
    simp only [pivF]
    rw [F.inv_mul hp]
    by_cases e : i = p.length
    · simp [e]
    · simp [e]
  refine ⟨?_, ?_, ?_, ?_, ?_, ?_⟩
  · simp; omega
  · intro k j hk
    rcases snoc_at hk with ⟨_, hk⟩ | ⟨_, rfl⟩
    · have := h.lt k j hk; omega
    · omega
  · rw [List.pairwise_append]
    refine ⟨h.up, List.pairwise_singleton _ _, fun a ha b hb => ?_⟩
    obtain ⟨k, hk, rfl⟩ := List.getElem_of_mem ha
    have := h.lt k _ (List.getElem?_eq_getElem hk)
    simp at hb; omega
  · intro k j hk i hi
    rcases snoc_at hk with ⟨hkl, hk⟩ | ⟨rfl, rfl⟩
    · have hj := h.lt k j hk
      by_cases hip : i < p.length
      · rw [ht i hip j hj]; exact h.unit k j hk i hi
      · rw [hs i (by omega) hi j hj, if_neg (by omega)]
    · exact hc i hi
  · intro k j hk l hl
    rcases snoc_at hk with ⟨hkl, hk⟩ | ⟨rfl, rfl⟩
    · rw [ht k hkl l (by have := h.lt k j hk; omega)]; exact h.left k j hk l hl
    · exact hs _ (Nat.le_refl _) (by omega) l hl
  · intro i hi hin j hj
    simp only [List.length_append, List.length_singleton] at hi
    by_cases e : j = c
    · rw [e, hc i hin, if_neg (by omega)]
    · exact hs i (by omega) hin j (by omega)
theorem elim_ex (A : Mt) (n C : Nat) : ∀ c, ∃ R p, Red R p n c ∧ RowsIn R n A n C ∧ RowsIn A n R n C
  | 0 => ⟨A, [], Red.start A n, RowsIn.refl _ _ _, RowsIn.refl _ _ _⟩
  | c + 1 => by
    obtain ⟨R, p, h, h1, h2⟩ := elim_ex A n C c
    by_cases e : ∃ row, p.length ≤ row ∧ row < n ∧ R row c ≠ 0
    · obtain ⟨row, k1, k2, k3⟩ := e
      exact ⟨_, _, h.take k1 k2 k3, (pivF_in R c C k2 (by omega)).trans h1, h2.trans (pivF_back R c C k2 (by omega) k3)⟩
    · exact ⟨R, p, h.skip fun i k1 k2 => Classical.byContradiction fun k3 => e ⟨i, k1, k2, k3⟩, h1, h2⟩

/-! columns that are combinations of those ahead -/
def Dep (A : Mt) (n j : Nat) (b : Nat → F) : Prop := ∃ x : Nat → F, ∀ i, i < n → b i = sumF (fun l => gm (A i l) (x l)) j
def isPiv (A : Mt) (n j : Nat) : Prop := ¬ Dep A n j (fun i => A i j)
open Classical in
noncomputable def pivL (A : Mt) (n c : Nat) : List Nat := (List.range c).filter fun j => decide (isPiv A n j)
theorem mem_pivL {A : Mt} {n c j : Nat} : j ∈ pivL A n c ↔ j < c ∧ isPiv A n j := by simp [pivL]
theorem pivL_up (A : Mt) (n c : Nat) : (pivL A n c).Pairwise (· < ·) := List.Pairwise.filter _ List.pairwise_lt_range
theorem pivL_le (A : Mt) (n c : Nat) : (pivL A n c).length ≤ c := by
  have := List.length_filter_le (fun j => @decide (isPiv A n j) (Classical.propDecidable _)) (List.range c)
  rwa [List.length_range] at this
theorem sumF_short {f : Nat → F} {j : Nat} : ∀ {c : Nat}, j ≤ c → (∀ l, j ≤ l → l < c → f l = 0) → sumF f c = sumF f j
  | 0, h, _ => by rw [show j = 0 from by omega]
  | c + 1, h, hz => by
    by_cases e : j = c + 1
    · rw [e]
    · simp only [sumF]; rw [hz c (by omega) (by omega), F.add_zero, sumF_short (by omega) (fun l h1 h2 => hz l h1 (by omega))]
def ext1 (x : Nat → F) (j : Nat) : Nat → F := fun l => if l < j then x l else if l = j then 1 else 0
theorem sum_ext1 (a x : Nat → F) {j c : Nat} (hj : j < c) : sumF (fun l => gm (a l) (ext1 x j l)) c = ga (sumF (fun l => gm (a l) (x l)) j) (a j) := by
  rw [sumF_short (show j + 1 ≤ c from hj) (fun l h1 h2 => by simp [ext1, show ¬ l < j from by omega, show ¬ l = j from by omega])]
  simp only [sumF]
  rw [sumF_congr (n := j) (g := fun l => gm (a l) (x l)) (fun l hl => by simp [ext1, hl])]
  simp [ext1]
theorem dep_iff {A : Mt} {n j c : Nat} (hj : j < c) (x : Nat → F) : (∀ i, i < n → A i j = sumF (fun l => gm (A i l) (x l)) j) ↔ ∀ i, i < n → sumF (fun l => gm (A i l) (ext1 x j l)) c = 0 := by
  constructor
  · intro h i hi; rw [sum_ext1 _ _ hj, ← h i hi, F.add_self]
  · intro h i hi; have := h i hi; rw [sum_ext1 _ _ hj] at this; exact (F.eq_of_add_eq_zero this).symm
theorem dep_mono {A B : Mt} {n m c j : Nat} (h : RowsIn B m A n c) (hj : j < c) (hd : Dep A n j (fun i => A i j)) : Dep B m j (fun i => B i j) := by
  obtain ⟨x, hx⟩ := hd
  exact ⟨x, (dep_iff hj x).2 (h.null ((dep_iff hj x).1 hx))⟩
/-- f k at the place q k, for k below r -/
def onF (q : Nat → Nat) (f : Nat → F) (r : Nat) : Nat → F := fun l => sumF (fun k => if q k = l then f k else 0) r
theorem sum_onF (a f : Nat → F) (q : Nat → Nat) {r c : Nat} (hq : ∀ k, k < r → q k < c) : sumF (fun l => gm (a l) (onF q f r l)) c = sumF (fun k => gm (a (q k)) (f k)) r := by
  simp only [onF]
  rw [sumF_congr (fun l _ => sumF_mul_left _ _ _), sumF_swap (fun l k => gm (a l) (if q k = l then f k else 0)) r c]
  refine sumF_congr fun k hk => ?_
  rw [sumF_pick _ (q k) c (hq k hk) (fun l _ hne => by rw [if_neg (fun e => hne e.symm), F.mul_zero]), if_pos rfl]
theorem getD_some {p : List Nat} {k : Nat} (h : k < p.length) : p[k]? = some (p.getD k 0) := by simp [List.getD, h]
/-- a sum over the pivots' columns of a reduced matrix -/
theorem Red.sum {R : Mt} {p : List Nat} {n c : Nat} (h : Red R p n c) (f : Nat → F) {i : Nat} (hi : i < n) :
    sumF (fun l => gm (R i l) (onF (p.getD · 0) f p.length l)) c = if i < p.length then f i else 0 := by
  rw [sum_onF _ _ _ (fun k hk => h.lt k _ (getD_some hk))]
  split
  · rename_i hip
    rw [sumF_pick _ i _ hip (fun l hl hne => by rw [h.unit l _ (getD_some hl) i hi, if_neg (fun e => hne e.symm), F.zero_mul]), h.unit i _ (getD_some hip) i hi, if_pos rfl, F.one_mul]
  · exact sumF_none fun l hl => by rw [h.unit l _ (getD_some hl) i hi, if_neg (by omega), F.zero_mul]
/-- what undoes column j of a reduced matrix -/
def nullJ (R : Mt) (p : List Nat) (j : Nat) : Nat → F := fun l => ga (if l = j then 1 else 0) (onF (p.getD · 0) (fun k => R k j) p.length l)
theorem sum_nullJ (a : Nat → F) (R : Mt) {p : List Nat} {j c : Nat} (hj : j < c) (hp : ∀ k, k < p.length → p.getD k 0 < c) : sumF (fun l => gm (a l) (nullJ R p j l)) c = ga (a j) (sumF (fun k => gm (a (p.getD k 0)) (R k j)) p.length) := by
  simp only [nullJ]
  rw [sumF_congr (fun l _ => F.mul_add _ _ _), sumF_add, sum_onF _ _ _ hp, sumF_pick _ j c hj (fun l _ hne => by rw [if_neg hne, F.mul_zero]), if_pos rfl, F.mul_one]
theorem Red.nulls {R : Mt} {p : List Nat} {n c j : Nat} (h : Red R p n c) (hj : j < c) : ∀ i, i < n → sumF (fun l => gm (R i l) (nullJ R p j l)) c = 0 := by
  intro i hi
  have hp : ∀ k, k < p.length → p.getD k 0 < c := fun k hk => h.lt k _ (getD_some hk)
  rw [sum_nullJ _ _ hj hp, ← sum_onF (R i) (fun k => R k j) (p.getD · 0) hp, h.sum _ hi]
  split
  · exact F.add_self _
  · rw [h.below i (by omega) hi j hj]; simp
theorem Red.factor {R A : Mt} {p : List Nat} {n m c : Nat} (h : Red R p n c) (k : RowsIn A m R n c) : ∀ i, i < m → ∀ j, j < c → A i j = sumF (fun k => gm (A i (p.getD k 0)) (R k j)) p.length := by
  intro i hi j hj
  have := k.null (h.nulls hj) i hi
  rw [sum_nullJ _ _ hj (fun k hk => h.lt k _ (getD_some hk))] at this
  exact F.eq_of_add_eq_zero this
theorem Red.unique {R R' : Mt} {p : List Nat} {n c : Nat} (h : Red R p n c) (h' : Red R' p n c) (k : RowsIn R' n R n c) : ∀ i, i < n → ∀ j, j < c → R' i j = R i j := by
  intro i hi j hj
  rw [h.factor k i hi j hj, ← sum_onF (R' i) (fun k => R k j) (p.getD · 0) (fun k hk => h.lt k _ (getD_some hk)), h'.sum _ hi]
  split
  · rfl
  · exact (h.below i (by omega) hi j hj).symm
theorem Red.piv {R : Mt} {p : List Nat} {n c j : Nat} (h : Red R p n c) (hj : j < c) : j ∈ p ↔ isPiv R n j := by
  constructor
  · intro hm hd
    obtain ⟨k, hk, rfl⟩ := List.getElem_of_mem hm
    have hk' := List.getElem?_eq_getElem hk
    have hkn : k < n := Nat.lt_of_lt_of_le hk h.len
    obtain ⟨x, hx⟩ := hd
    have this : R k p[k] = _ := hx k hkn
    rw [h.unit k _ hk' k hkn, if_pos rfl, sumF_none (fun l hl => by rw [h.left k _ hk' l hl, F.zero_mul])] at this
    exact F.one_ne_zero this
  · intro hd
    refine Classical.byContradiction fun hm => hd ?_
    refine ⟨onF (p.getD · 0) (fun k => if p.getD k 0 < j then R k j else 0) p.length, fun i hi => ?_⟩
    rw [← sumF_short (c := c) (Nat.le_of_lt hj) (fun l h1 h2 => ?_)]
    rotate_left
    · rw [onF, sumF_none (fun k hk => ?_), F.mul_zero]
      split
      · rename_i e
        show (if p.getD k 0 < j then R k j else 0) = 0
        rw [if_neg (by omega)]
      · rfl
    rw [h.sum _ hi]
    split
    · rename_i hip
      have hpi := getD_some hip
      by_cases e : p.getD i 0 < j
      · rw [if_pos e]
      · rw [if_neg e]
        have hne : p.getD i 0 ≠ j := fun e => hm (e ▸ List.mem_of_getElem? hpi)
        exact h.left i _ hpi j (by omega)
    · exact h.below i (by omega) hi j hj
theorem sorted_eq : ∀ {p q : List Nat}, p.Pairwise (· < ·) → q.Pairwise (· < ·) → (∀ x, x ∈ p ↔ x ∈ q) → p = q
  | [], [], _, _, _ => rfl
  | [], b :: q, _, _, h => by have := (h b).2 (by simp); simp at this
  | a :: p, [], _, _, h => by have := (h a).1 (by simp); simp at this
  | a :: p, b :: q, hp, hq, h => by
    rw [List.pairwise_cons] at hp hq
    have e : a = b := by
      have h1 := (h a).1 (by simp)
      have h2 := (h b).2 (by simp)
      rw [List.mem_cons] at h1 h2
      rcases h1 with h1 | h1
      · exact h1
      · rcases h2 with h2 | h2
        · exact h2.symm
        · have := hp.1 b h2; have := hq.1 a h1; omega
    subst e
    rw [sorted_eq hp.2 hq.2 (fun x => ?_)]
    have := h x
    rw [List.mem_cons, List.mem_cons] at this
    constructor
    · intro hx
      rcases this.1 (.inr hx) with rfl | h2
      · have := hp.1 x hx; omega
      · exact h2
    · intro hx
      rcases this.2 (.inr hx) with rfl | h2
      · have := hq.1 x hx; omega
      · exact h2
theorem isPiv_iff {A B : Mt} {n m c j : Nat} (h : RowsIn A n B m c) (k : RowsIn B m A n c) (hj : j < c) : isPiv A n j ↔ isPiv B m j :=
  ⟨fun a b => a (dep_mono h hj b), fun a b => a (dep_mono k hj b)⟩
theorem Red.eq {R A : Mt} {p : List Nat} {n m c C : Nat} (h : Red R p n c) (h1 : RowsIn R n A m C) (h2 : RowsIn A m R n C) (hc : c ≤ C) : p = pivL A m c := by
  refine sorted_eq h.up (pivL_up _ _ _) fun x => ?_
  rw [mem_pivL]
  constructor
  · intro hx
    obtain ⟨k, hk, rfl⟩ := List.getElem_of_mem hx
    have hlt := h.lt k _ (List.getElem?_eq_getElem hk)
    exact ⟨hlt, (isPiv_iff h1 h2 (by omega)).1 ((h.piv hlt).1 hx)⟩
  · intro ⟨h3, h4⟩; exact (h.piv h3).2 ((isPiv_iff h1 h2 (by omega)).2 h4)
/-- a matrix, reduced -/
theorem red_ex (A : Mt) (n c : Nat) : ∃ R, Red R (pivL A n c) n c ∧ RowsIn R n A n c ∧ RowsIn A n R n c := by
  obtain ⟨R, p, h, h1, h2⟩ := elim_ex A n c c
  rw [h.eq h1 h2 (Nat.le_refl _)] at h
  exact ⟨R, h, h1, h2⟩
theorem full_len : ∀ {s : Nat} {p : List Nat}, (∀ x, x < s → x ∈ p) → s ≤ p.length
  | 0, _, _ => Nat.zero_le _
  | s + 1, p, h => by
    have hm := h s (by omega)
    have := full_len (s := s) (p := p.erase s) (fun x hx => (List.mem_erase_of_ne (by omega)).2 (h x (by omega)))
    rw [List.length_erase_of_mem hm] at this
    have := List.length_pos_of_mem hm
    omega
theorem rk_le {A B C : Mt} {n c r : Nat} (h : ∀ i, i < n → ∀ j, j < c → A i j = sumF (fun k => gm (C i k) (B k j)) r) : (pivL A n c).length ≤ r := by
  refine Classical.byContradiction fun hlt => ?_
  obtain ⟨R, h0, h1, h2⟩ := red_ex (fun k i => B k ((pivL A n c).getD i 0)) r (pivL A n c).length
  generalize hq : pivL A n c = q at *
  generalize hp : pivL (fun k i => B k (q.getD i 0)) r q.length = p at *
  have hex : ∃ i, i < q.length ∧ i ∉ p := Classical.byContradiction fun hno => by
    have := full_len (s := q.length) (p := p) (fun x hx => Classical.byContradiction fun hm => hno ⟨x, hx, hm⟩)
    have := h0.len
    omega
  obtain ⟨i, hi, him⟩ := hex
  have hnp : ¬ isPiv (fun k i => B k (q.getD i 0)) r i := fun hh => him (by rw [← hp]; exact mem_pivL.2 ⟨hi, hh⟩)
  obtain ⟨x, hx⟩ := Classical.byContradiction hnp
  have hmem : q.getD i 0 ∈ q := List.mem_of_getElem? (getD_some hi)
  have hall : ∀ l, l < q.length → q.getD l 0 < c := fun l hl => by
    have : q.getD l 0 ∈ pivL A n c := by rw [hq]; exact List.mem_of_getElem? (getD_some hl)
    exact (mem_pivL.1 this).1
  have hup : ∀ l, l < i → q.getD l 0 < q.getD i 0 := fun l hl => by
    have hu := pivL_up A n c
    rw [hq] at hu
    have := List.pairwise_iff_getElem.1 hu l i (by omega) hi hl
    simp only [List.getD, List.getElem?_eq_getElem hi, List.getElem?_eq_getElem (show l < q.length by omega), Option.getD_some]
    exact this
  have hpv : isPiv A n (q.getD i 0) := (mem_pivL.1 (show q.getD i 0 ∈ pivL A n c by rw [hq]; exact hmem)).2
  refine hpv ⟨onF (q.getD · 0) x i, fun a ha => ?_⟩
  rw [sum_onF _ _ _ hup]
  show A a (q.getD i 0) = _
  rw [h a ha _ (hall i hi), sumF_congr (fun k hk => by rw [show B k (q.getD i 0) = _ from hx k hk, sumF_mul_left]), sumF_swap (fun k l => gm (C a k) (gm (B k (q.getD l 0)) (x l))) i r]
  refine sumF_congr fun l hl => ?_
  rw [h a ha _ (hall l (by omega)), sumF_mul_right]
  exact sumF_congr fun k _ => (F.mul_assoc _ _ _).symm
def tr (A : Mt) : Mt := fun i j => A j i
theorem factor_ex (A : Mt) (n c : Nat) : ∃ C B : Mt, ∀ i, i < n → ∀ j, j < c → A i j = sumF (fun k => gm (C i k) (B k j)) (pivL A n c).length := by
  obtain ⟨R, h0, h1, h2⟩ := red_ex A n c
  exact ⟨_, R, h0.factor h2⟩
theorem rk_tr_le (A : Mt) (n c : Nat) : (pivL (tr A) c n).length ≤ (pivL A n c).length := by
  obtain ⟨C, B, h⟩ := factor_ex A n c
  exact rk_le (C := tr B) (B := tr C) fun j hj i hi => by
    show A i j = _
    rw [h i hi j hj]; exact sumF_congr fun k _ => F.mul_comm _ _
theorem rk_tr (A : Mt) (n c : Nat) : (pivL (tr A) c n).length = (pivL A n c).length := Nat.le_antisymm (rk_tr_le A n c) (rk_tr_le (tr A) c n)
theorem rk_rows (A : Mt) (n c : Nat) : (pivL A n c).length ≤ n := by
  obtain ⟨R, h0, _, _⟩ := red_ex A n c
  exact h0.len
def mulF (n : Nat) (A B : Mt) : Mt := fun i j => sumF (fun k => gm (A i k) (B k j)) n
theorem rk_mul_left (A B : Mt) (n m c : Nat) : (pivL (mulF m A B) n c).length ≤ (pivL A n m).length := by
  obtain ⟨C, D, h⟩ := factor_ex A n m
  exact rk_le (C := C) (B := mulF m D B) fun i hi j hj => by
    simp only [mulF]
    rw [sumF_congr (fun k hk => by rw [h i hi k hk, sumF_mul_right]), sumF_swap (fun k l => gm (gm (C i l) (D l k)) (B k j)) _ m]
    refine sumF_congr fun l _ => ?_
    rw [sumF_mul_left]; exact sumF_congr fun k _ => F.mul_assoc _ _ _
theorem rk_mul_right (A B : Mt) (n m c : Nat) : (pivL (mulF m A B) n c).length ≤ (pivL B m c).length := by
  obtain ⟨C, D, h⟩ := factor_ex B m c
  exact rk_le (C := mulF m A C) (B := D) fun i hi j hj => by
    simp only [mulF]
    rw [sumF_congr (fun k hk => by rw [h k hk j hj, sumF_mul_left]), sumF_swap (fun k l => gm (A i k) (gm (C k l) (D l j))) _ m]
    refine sumF_congr fun l _ => ?_
    rw [sumF_mul_right]; exact sumF_congr fun k _ => (F.mul_assoc _ _ _).symm
theorem pivL_congr {A B : Mt} {n c : Nat} (h : ∀ i, i < n → ∀ j, j < c → A i j = B i j) : pivL A n c = pivL B n c := by
  refine sorted_eq (pivL_up _ _ _) (pivL_up _ _ _) fun x => ?_
  rw [mem_pivL, mem_pivL]
  have key : x < c → (isPiv A n x ↔ isPiv B n x) := fun hx => by
    have e : Dep A n x (fun i => A i x) ↔ Dep B n x (fun i => B i x) := by
      constructor
      · rintro ⟨y, hy⟩
        exact ⟨y, fun i hi => by show B i x = _; rw [← h i hi x hx]; refine (hy i hi).trans (sumF_congr fun l hl => by rw [h i hi l (by omega)])⟩
      · rintro ⟨y, hy⟩
        exact ⟨y, fun i hi => by show A i x = _; rw [h i hi x hx]; refine (hy i hi).trans (sumF_congr fun l hl => by rw [h i hi l (by omega)])⟩
    exact not_congr e
  exact and_congr_right key
/-- the rows of a basis have full rank -/
theorem rk_basis (A : Mt) (n c : Nat) : (pivL (fun k j => A ((pivL (tr A) c n).getD k 0) j) (pivL (tr A) c n).length c).length = (pivL (tr A) c n).length := by
  rw [← rk_tr]
  generalize hq : pivL (tr A) c n = q
  have e : pivL (tr fun k j => A (q.getD k 0) j) c q.length = List.range q.length := by
    refine sorted_eq (pivL_up _ _ _) List.pairwise_lt_range fun i => ?_
    rw [mem_pivL, List.mem_range]
    refine ⟨fun h => h.1, fun hi => ⟨hi, fun ⟨x, hx⟩ => ?_⟩⟩
    have hmem : q.getD i 0 ∈ pivL (tr A) c n := by rw [hq]; exact List.mem_of_getElem? (getD_some hi)
    have hup : ∀ l, l < i → q.getD l 0 < q.getD i 0 := fun l hl => by
      have hu := pivL_up (tr A) c n
      rw [hq] at hu
      have := List.pairwise_iff_getElem.1 hu l i (by omega) hi hl
      simp only [List.getD, List.getElem?_eq_getElem hi, List.getElem?_eq_getElem (show l < q.length by omega), Option.getD_some]
      exact this
    refine (mem_pivL.1 hmem).2 ⟨onF (q.getD · 0) x i, fun a ha => ?_⟩
    rw [sum_onF _ _ _ hup]
    exact hx a ha
  rw [e, List.length_range]

/-! solving -/
theorem Red.solve {R A : Mt} {p : List Nat} {n c : Nat} (h : Red R p n c) (k : RowsIn A n R n (c + 1)) (hz : ∀ i, p.length ≤ i → i < n → R i c = 0) :
    ∀ i, i < n → A i c = sumF (fun l => gm (A i l) (onF (p.getD · 0) (fun k => R k c) p.length l)) c := by
  refine (dep_iff (Nat.lt_succ_self c) _).2 (k.null ((dep_iff (Nat.lt_succ_self c) _).1 fun i hi => ?_))
  rw [h.sum _ hi]
  split
  · rfl
  · exact hz i (by omega) hi
theorem Red.solve_no {R A : Mt} {p : List Nat} {n c i : Nat} (h : Red R p n c) (k : RowsIn R n A n (c + 1)) (hi : p.length ≤ i) (hn : i < n) (hz : R i c ≠ 0) : ¬ Dep A n c (fun i => A i c) := by
  intro hd
  obtain ⟨x, hx⟩ := dep_mono k (Nat.lt_succ_self c) hd
  exact hz ((hx i hn).trans (sumF_none fun l hl => by rw [h.below i hi hn l hl, F.zero_mul]))
theorem onF_off {p : List Nat} {f : Nat → F} {r l : Nat} (hr : r ≤ p.length) (h : l ∉ p) : onF (p.getD · 0) f r l = 0 :=
  sumF_none fun k hk => if_neg fun (e : p.getD k 0 = l) => h (e ▸ List.mem_of_getElem? (getD_some (by omega)))
theorem sols_eq {A : Mt} {n c : Nat} {x y : Nat → F} (hx : ∀ l, l < c → l ∉ pivL A n c → x l = 0) (hy : ∀ l, l < c → l ∉ pivL A n c → y l = 0)
    (h : ∀ i, i < n → sumF (fun l => gm (A i l) (x l)) c = sumF (fun l => gm (A i l) (y l)) c) : ∀ l, l < c → x l = y l := by
  obtain ⟨R, h0, h1, h2⟩ := red_ex A n c
  have hn := h1.null (x := fun l => ga (x l) (y l)) (fun i hi => by
    rw [sumF_congr (fun l _ => F.mul_add _ _ _), sumF_add, h i hi, F.add_self])
  intro l hl
  by_cases hm : l ∈ pivL A n c
  · obtain ⟨k, hk, e⟩ := List.getElem_of_mem hm
    have hk' : (pivL A n c)[k]? = some l := by rw [List.getElem?_eq_getElem hk, e]
    have hkn : k < n := Nat.lt_of_lt_of_le hk h0.len
    have := hn k hkn
    rw [sumF_pick _ l c hl (fun m hm' hne => ?_), h0.unit k l hk' k hkn, if_pos rfl, F.one_mul] at this
    · exact F.eq_of_add_eq_zero this
    · by_cases hmm : m ∈ pivL A n c
      · obtain ⟨i, hi, e2⟩ := List.getElem_of_mem hmm
        have hi' : (pivL A n c)[i]? = some m := by rw [List.getElem?_eq_getElem hi, e2]
        rw [h0.unit i m hi' k hkn, if_neg (fun e3 => hne (Option.some.inj (hi'.symm.trans (by rw [← e3]; exact hk')))), F.zero_mul]
      · show gm _ (ga (x m) (y m)) = 0
        rw [hx m hm' hmm, hy m hm' hmm]; simp
  · rw [hx l hl hm, hy l hl hm]

/-! the inverse -/
def augI (n : Nat) (A : Mt) : Mt := fun i j => if j < n then A i j else if j = n + i then 1 else 0
theorem range_of {p : List Nat} {n : Nat} (hu : p.Pairwise (· < ·)) (hl : ∀ x, x ∈ p → x < n) (hn : p.length = n) : p = List.range n := by
  refine sorted_eq hu List.pairwise_lt_range fun x => ⟨fun h => List.mem_range.2 (hl x h), fun h => ?_⟩
  have hx := List.mem_range.1 h
  have low : ∀ k, (h : k < p.length) → k ≤ p[k] := by
    intro k
    induction k with
    | zero => intro _; exact Nat.zero_le _
    | succ k ih => intro h; have h1 := ih (by omega); have := List.pairwise_iff_getElem.1 hu k (k + 1) (by omega) h (by omega); omega
  have high : ∀ d k, (h : k < p.length) → k + d + 1 = n → p[k] ≤ k := by
    intro d
    induction d with
    | zero => intro k h e; have := hl _ (List.getElem_mem h); omega
    | succ d ih => intro k h e; have h1 := ih (k + 1) (by omega) (by omega); have := List.pairwise_iff_getElem.1 hu k (k + 1) h (by omega) (by omega); omega
  have hxp : x < p.length := by omega
  have : p[x] = x := Nat.le_antisymm (high (n - 1 - x) x hxp (by omega)) (low x hxp)
  rw [← this]; exact List.getElem_mem hxp
theorem Red.full_unit {R : Mt} {p : List Nat} {n : Nat} (h : Red R p n n) (hn : p.length = n) : ∀ i, i < n → ∀ j, j < n → R i j = if i = j then 1 else 0 := by
  have e := range_of h.up (fun x hx => by obtain ⟨k, hk, rfl⟩ := List.getElem_of_mem hx; exact h.lt k _ (List.getElem?_eq_getElem hk)) hn
  intro i hi j hj
  exact h.unit j j (by rw [e, List.getElem?_range hj]) i hi
theorem sum_unit (f : Nat → F) {n j : Nat} (hj : j < n) : sumF (fun k => gm (f k) (if k = j then 1 else 0)) n = f j := by
  rw [sumF_pick _ j n hj (fun l _ hne => by rw [if_neg hne, F.mul_zero]), if_pos rfl, F.mul_one]
theorem inv_right {R A : Mt} {p : List Nat} {n : Nat} (h : Red R p n n) (hn : p.length = n) (k : RowsIn (augI n A) n R n (n + n)) :
    ∀ i, i < n → ∀ j, j < n → mulF n A (fun a b => R a (n + b)) i j = if i = j then 1 else 0 := by
  intro i hi j hj
  obtain ⟨e, he⟩ := k i hi
  have h1 : ∀ j, j < n → A i j = e j := fun j hj => by
    have := he j (by omega)
    rw [augI, if_pos hj] at this
    rw [this, sumF_congr (fun k hk => by rw [h.full_unit hn k hk j hj]), sum_unit _ hj]
  have h2 := he (n + j) (by omega)
  rw [augI, if_neg (by omega)] at h2
  simp only [mulF]
  rw [sumF_congr (fun k hk => by rw [h1 k hk]), ← h2]
  by_cases e : i = j
  · rw [if_pos e, if_pos (by omega)]
  · rw [if_neg e, if_neg (by omega)]
theorem inv_left {R A : Mt} {p : List Nat} {n : Nat} (h : Red R p n n) (hn : p.length = n) (k : RowsIn R n (augI n A) n (n + n)) :
    ∀ i, i < n → ∀ j, j < n → mulF n (fun a b => R a (n + b)) A i j = if i = j then 1 else 0 := by
  intro i hi j hj
  obtain ⟨e, he⟩ := k i hi
  have h1 : ∀ j, j < n → R i (n + j) = e j := fun j hj => by
    rw [he (n + j) (by omega), sumF_congr (g := fun k => gm (e k) (if k = j then 1 else 0)) (fun k hk => by
      rw [augI, if_neg (by omega)]
      by_cases e2 : k = j
      · rw [if_pos (by omega), if_pos e2]
      · rw [if_neg (by omega), if_neg e2]), sum_unit _ hj]
  have h2 := he j (by omega)
  rw [h.full_unit hn i hi j hj] at h2
  simp only [mulF]
  rw [sumF_congr (fun k hk => by rw [h1 k hk]), h2]
  exact sumF_congr fun k hk => by rw [augI, if_pos hj]
/-- what has an inverse on its left has full rank -/
theorem rk_one {A B : Mt} {n : Nat} (h : ∀ i, i < n → ∀ j, j < n → mulF n A B i j = if i = j then 1 else 0) : (pivL B n n).length = n := by
  have h1 := rk_mul_right A B n n n
  have e : pivL (mulF n A B) n n = List.range n := by
    refine sorted_eq (pivL_up _ _ _) List.pairwise_lt_range fun i => ?_
    rw [mem_pivL, List.mem_range]
    refine ⟨fun h => h.1, fun hi => ⟨hi, fun ⟨x, hx⟩ => ?_⟩⟩
    have := hx i hi
    rw [sumF_none (fun l hl => by rw [h i hi l (by omega), if_neg (by omega), F.zero_mul])] at this
    have h2 := h i hi i hi
    rw [if_pos rfl] at h2
    exact F.one_ne_zero (h2.symm.trans this)
  rw [e, List.length_range] at h1
  exact Nat.le_antisymm (rk_rows _ _ _) h1
theorem mulF_assoc (A B C : Mt) (n m : Nat) (i j : Nat) : mulF m (mulF n A B) C i j = mulF n A (mulF m B C) i j := by
  simp only [mulF]
  rw [sumF_congr (fun k _ => sumF_mul_right _ _ _), sumF_swap (fun k l => gm (gm (A i l) (B l k)) (C k j)) n m]
  refine sumF_congr fun l _ => ?_
  rw [sumF_mul_left]; exact sumF_congr fun k _ => F.mul_assoc _ _ _
/-- two inverses are one -/
theorem inv_same {A B C : Mt} {n : Nat} (h : ∀ i, i < n → ∀ j, j < n → mulF n A B i j = if i = j then 1 else 0) (k : ∀ i, i < n → ∀ j, j < n → mulF n B C i j = if i = j then 1 else 0) : ∀ i, i < n → ∀ j, j < n → A i j = C i j := by
  intro i hi j hj
  have h1 : mulF n A (mulF n B C) i j = A i j := by
    rw [show mulF n A (mulF n B C) i j = sumF (fun l => gm (A i l) (mulF n B C l j)) n from rfl, sumF_congr (fun l hl => by rw [k l hl j hj]), sum_unit _ hj]
  have h2 : mulF n (mulF n A B) C i j = C i j := by
    rw [show mulF n (mulF n A B) C i j = sumF (fun l => gm (mulF n A B i l) (C l j)) n from rfl, sumF_congr (fun l hl => by rw [h i hi l hl]), sumF_pick _ i n hi (fun l _ hne => by rw [if_neg (fun e => hne e.symm), F.zero_mul]), if_pos rfl, F.one_mul]
  rw [← h1, ← mulF_assoc, h2]
