/- The document's own answer for elimination, an echelon that remembers how it was made: the plain algebra; no program is spoken of. -/
import Derived.Test.YtjmbpldkggbdlaaGreatDoorSolveL
namespace Go.Proofs.YtjmbpldkggbdlaaGreatDoor
open Go.RowKit Gf
set_option linter.unusedVariables false
set_option maxRecDepth 20000
theorem pivL_next (B : Mt) (n i : Nat) : pivL B n (i + 1) = pivL B n i ++ (if @decide (isPiv B n i) (Classical.propDecidable _) then [i] else []) := by
  simp only [pivL, List.range_succ, List.filter_append, List.filter_cons, List.filter_nil]
structure SpanOf (A : Mt) (c n t : Nat) (V U : Mt) (f : Nat → Nat) : Prop where
  made : ∀ i, i < t → ∀ j, j < c → V i j = sumF (fun l => gm (U i l) (A l j)) n
  one : ∀ i, i < t → V i (f i) = 1
  zero : ∀ i k, i < k → k < t → V k (f i) = 0
  lt : ∀ i, i < t → f i < c
  off : ∀ i, i < t → ∀ l, l < n → l ∉ pivL (tr A) c n → U i l = 0
  len : t = (pivL (tr A) c n).length
  all : RowsIn A n V t c
/-- what is left of a row when the first k rows of the span are taken off it -/
def wN (V : Mt) (f : Nat → Nat) (v : Nat → F) : Nat → Nat → F
  | 0 => v
  | k + 1 => fun j => ga (wN V f v k j) (gm (wN V f v k (f k)) (V k j))
/-- and what was taken off -/
def uN (V U : Mt) (f : Nat → Nat) (v : Nat → F) : Nat → Nat → F
  | 0 => fun _ => 0
  | k + 1 => fun l => ga (uN V U f v k l) (gm (wN V f v k (f k)) (U k l))
theorem SpanOf.start (A : Mt) (c : Nat) (V U : Mt) (f : Nat → Nat) : SpanOf A c 0 0 V U f :=
  ⟨fun i h => absurd h (Nat.not_lt_zero _), fun i h => absurd h (Nat.not_lt_zero _), fun i k _ h => absurd h (Nat.not_lt_zero _), fun i h => absurd h (Nat.not_lt_zero _), fun i h => absurd h (Nat.not_lt_zero _), rfl, fun i h => absurd h (Nat.not_lt_zero _)⟩
theorem SpanOf.sum {A V U : Mt} {c n t : Nat} {f : Nat → Nat} (h : SpanOf A c n t V U f) (v : Nat → F) : ∀ k, k ≤ t → ∀ j, j < c → wN V f v k j = ga (v j) (sumF (fun l => gm (uN V U f v k l) (A l j)) n)
  | 0, _, j, _ => by simp only [wN, uN]; rw [sumF_none (fun l _ => F.zero_mul _), F.add_zero]
  | k + 1, hk, j, hj => by
    simp only [wN, uN]
    rw [h.sum v k (by omega) j hj, h.made k (by omega) j hj]
    rw [show sumF (fun l => gm (ga (uN V U f v k l) (gm (wN V f v k (f k)) (U k l))) (A l j)) n = ga (sumF (fun l => gm (uN V U f v k l) (A l j)) n) (gm (wN V f v k (f k)) (sumF (fun l => gm (U k l) (A l j)) n)) by
      rw [sumF_mul_left, ← sumF_add]
      exact sumF_congr fun l _ => by rw [F.add_mul, F.mul_assoc]]
    rw [F.add_assoc]
theorem SpanOf.zeros {A V U : Mt} {c n t : Nat} {f : Nat → Nat} (h : SpanOf A c n t V U f) (v : Nat → F) : ∀ k, k ≤ t → ∀ i, i < k → wN V f v k (f i) = 0
  | 0, _, i, hi => absurd hi (Nat.not_lt_zero _)
  | k + 1, hk, i, hi => by
    simp only [wN]
    by_cases e : i = k
    · subst e; rw [h.one i (by omega), F.mul_one, F.add_self]
    · rw [h.zeros v k (by omega) i (by omega), h.zero i k (by omega) (by omega), F.mul_zero, F.add_zero]
theorem SpanOf.offs {A V U : Mt} {c n t : Nat} {f : Nat → Nat} (h : SpanOf A c n t V U f) (v : Nat → F) : ∀ k, k ≤ t → ∀ l, l < n → l ∉ pivL (tr A) c n → uN V U f v k l = 0
  | 0, _, l, _, _ => rfl
  | k + 1, hk, l, hl, hn => by
    simp only [uN]
    rw [h.offs v k (by omega) l hl hn, h.off k (by omega) l hl hn, F.mul_zero, F.add_zero]
theorem SpanOf.rest_zero {A V U : Mt} {c n t : Nat} {f : Nat → Nat} (h : SpanOf A c n t V U f) {v : Nat → F} (hd : Dep (tr A) c n v) : ∀ j, j < c → wN V f v t j = 0 := by
  obtain ⟨x, hx⟩ := hd
  have h1 : RowsIn (fun _ => wN V f v t) 1 A n c := fun i _ => ⟨fun l => ga (x l) (uN V U f v t l), fun j hj => by
    show wN V f v t j = _
    rw [h.sum v t (Nat.le_refl _) j hj, hx j hj, ← sumF_add]
    exact sumF_congr fun l _ => by rw [F.add_mul, F.mul_comm (x l)]; rfl⟩
  obtain ⟨d, hd⟩ := h1.trans h.all 0 (by omega)
  have hz : ∀ i, i < t → d i = 0 := by
    intro i
    induction i using Nat.strongRecOn with
    | _ i ih =>
      intro hi
      have h2 : wN V f v t (f i) = 0 := h.zeros v t (Nat.le_refl _) i hi
      rw [show wN V f v t (f i) = _ from hd (f i) (h.lt i hi), sumF_pick _ i t hi (fun k hk hne => by
        by_cases e : k < i
        · rw [ih k e hk, F.zero_mul]
        · rw [h.zero i k (by omega) hk, F.mul_zero]), h.one i hi, F.mul_one] at h2
      exact h2
  intro j hj
  rw [show wN V f v t j = _ from hd j hj]
  exact sumF_none fun i hi => by rw [hz i hi, F.zero_mul]
theorem SpanOf.rest_dep {A V U : Mt} {c n t : Nat} {f : Nat → Nat} (h : SpanOf A c n t V U f) {v : Nat → F} (hz : ∀ j, j < c → wN V f v t j = 0) : ∀ j, j < c → v j = sumF (fun l => gm (tr A j l) (uN V U f v t l)) n := by
  intro j hj
  have := h.sum v t (Nat.le_refl _) j hj
  rw [hz j hj] at this
  rw [F.eq_of_add_eq_zero this.symm]
  exact sumF_congr fun l _ => F.mul_comm _ _
theorem SpanOf.piv_no {A V U : Mt} {c n t : Nat} {f : Nat → Nat} (h : SpanOf A c n t V U f) (hz : ∀ j, j < c → wN V f (A n) t j = 0) : pivL (tr A) c (n + 1) = pivL (tr A) c n := by
  rw [pivL_next, if_neg, List.append_nil]
  intro hh
  exact (@of_decide_eq_true _ (Classical.propDecidable _) hh) ⟨_, h.rest_dep hz⟩
theorem SpanOf.piv_yes {A V U : Mt} {c n t : Nat} {f : Nat → Nat} (h : SpanOf A c n t V U f) {j : Nat} (hj : j < c) (hz : wN V f (A n) t j ≠ 0) : pivL (tr A) c (n + 1) = pivL (tr A) c n ++ [n] := by
  rw [pivL_next, if_pos]
  simp only [decide_eq_true_eq]
  intro hd
  exact hz (h.rest_zero hd j hj)
theorem SpanOf.add_no {A V U : Mt} {c n t : Nat} {f : Nat → Nat} (h : SpanOf A c n t V U f) (hz : ∀ j, j < c → wN V f (A n) t j = 0) (hU : ∀ i, i < t → U i n = 0) : SpanOf A c (n + 1) t V U f := by
  have hp := h.piv_no hz
  refine ⟨fun i hi j hj => ?_, h.one, h.zero, h.lt, fun i hi l hl hn => ?_, by rw [hp]; exact h.len, fun i hi => ?_⟩
  · simp only [sumF]; rw [← h.made i hi j hj, hU i hi, F.zero_mul, F.add_zero]
  · by_cases e : l = n
    · rw [e]; exact hU i hi
    · rw [hp] at hn; exact h.off i hi l (by omega) hn
  · by_cases e : i = n
    · subst e
      have h1 : RowsIn (fun _ => A i) 1 A i c := fun k _ => ⟨uN V U f (A i) t, fun j hj => by
        refine (h.rest_dep hz j hj).trans (sumF_congr fun l _ => F.mul_comm _ _)⟩
      exact h1.trans h.all 0 (by omega)
    · exact h.all i (by omega)
def addV (V : Mt) (f : Nat → Nat) (v : Nat → F) (t a : Nat) : Mt := fun i => if i = t then (fun j => gm (inv (wN V f v t a)) (wN V f v t j)) else V i
def addU (V U : Mt) (f : Nat → Nat) (v : Nat → F) (t a n : Nat) : Mt := fun i => if i = t then (fun l => gm (inv (wN V f v t a)) (if l < n then uN V U f v t l else if l = n then 1 else 0)) else U i
def addf (f : Nat → Nat) (t a : Nat) : Nat → Nat := fun i => if i = t then a else f i
theorem SpanOf.add_yes {A V U : Mt} {c n t a : Nat} {f : Nat → Nat} (h : SpanOf A c n t V U f) (ha : a < c) (hz : wN V f (A n) t a ≠ 0) (hU : ∀ i, i < t → U i n = 0) :
    SpanOf A c (n + 1) (t + 1) (addV V f (A n) t a) (addU V U f (A n) t a n) (addf f t a) := by
  have hp := h.piv_yes ha hz
  have hV : ∀ j, j < c → addV V f (A n) t a t j = gm (inv (wN V f (A n) t a)) (ga (A n j) (sumF (fun l => gm (uN V U f (A n) t l) (A l j)) n)) := fun j hj => by
    simp only [addV, if_true]; rw [h.sum (A n) t (Nat.le_refl _) j hj]
  refine ⟨fun i hi j hj => ?_, fun i hi => ?_, fun i k hik hk => ?_, fun i hi => ?_, fun i hi l hl hn => ?_, ?_, fun i hi => ?_⟩
  · by_cases e : i = t
    · subst e
      rw [hV j hj]
      simp only [sumF, addU, if_true, Nat.lt_irrefl, if_false, F.mul_one]
      rw [F.mul_add, F.add_comm, sumF_mul_left]
      congr 1
      exact sumF_congr fun l hl => by rw [if_pos hl, F.mul_assoc]
    · simp only [addV, addU, e, if_false, sumF]
      rw [← h.made i (by omega) j hj, hU i (by omega), F.zero_mul, F.add_zero]
  · by_cases e : i = t
    · simp only [addV, addf, e, if_true]; exact F.inv_mul hz
    · simp only [addV, addf, e, if_false]; exact h.one i (by omega)
  · by_cases e : k = t
    · simp only [addV, addf, e, if_true, show ¬ i = t by omega, if_false]
      rw [h.zeros (A n) t (Nat.le_refl _) i (by omega), F.mul_zero]
    · simp only [addV, addf, e, if_false, show ¬ i = t by omega]; exact h.zero i k hik (by omega)
  · by_cases e : i = t
    · simp only [addf, e, if_true]; exact ha
    · simp only [addf, e, if_false]; exact h.lt i (by omega)
  · rw [hp] at hn
    simp only [List.mem_append, List.mem_singleton, not_or] at hn
    by_cases e : i = t
    · simp only [addU, e, if_true]
      rw [if_pos (by omega), h.offs (A n) t (Nat.le_refl _) l (by omega) hn.1, F.mul_zero]
    · simp only [addU, e, if_false]; exact h.off i (by omega) l (by omega) hn.1
  · rw [hp, List.length_append, ← h.len]; rfl
  · have hext : RowsIn A n (addV V f (A n) t a) (t + 1) c := fun k hk => by
      obtain ⟨x, hx⟩ := h.all k hk
      refine ⟨fun q => if q < t then x q else 0, fun j hj => ?_⟩
      simp only [sumF, Nat.lt_irrefl, if_false, F.zero_mul, F.add_zero]
      rw [hx j hj]
      exact sumF_congr fun q hq => by simp only [hq, if_true, addV, show ¬ q = t by omega, if_false]
    by_cases e : i = n
    · subst e
      have h1 : RowsIn (fun q => if q = 0 then (fun j => sumF (fun l => gm (uN V U f (A i) t l) (A l j)) i) else addV V f (A i) t a t) 2 (addV V f (A i) t a) (t + 1) c := by
        intro q hq
        by_cases e : q = 0
        · simp only [e, if_true]
          have h2 : RowsIn (fun _ => fun j => sumF (fun l => gm (uN V U f (A i) t l) (A l j)) i) 1 A i c := fun k _ => ⟨_, fun j hj => rfl⟩
          exact h2.trans hext 0 (by omega)
        · simp only [e, if_false]
          exact RowsIn.refl _ (t + 1) c t (by omega)
      have h3 : RowsIn (fun _ => A i) 1 (fun q => if q = 0 then (fun j => sumF (fun l => gm (uN V U f (A i) t l) (A l j)) i) else addV V f (A i) t a t) 2 c := by
        apply RowsIn.two
        intro q hq
        refine ⟨0, 1, 1, wN V f (A i) t a, by omega, by omega, fun j hj => ?_⟩
        simp only [if_true, show ¬ (1 = 0) by omega, if_false]
        rw [hV j hj, ← F.mul_assoc, F.mul_inv hz, F.one_mul, F.one_mul, F.add_comm, F.add_right_cancel]
      exact h3.trans h1 0 (by omega)
    · exact hext i (by omega)
end Go.Proofs.YtjmbpldkggbdlaaGreatDoor
