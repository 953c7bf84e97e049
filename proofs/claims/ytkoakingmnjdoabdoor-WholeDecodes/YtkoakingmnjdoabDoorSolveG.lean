/- What Solve and Express of package solve answer, of all matrices and lists. -/
import Derived.Test.YtkoakingmnjdoabDoorSolveF
namespace Go.Proofs.YtkoakingmnjdoabDoor
open Go.RowKit Gf
set_option linter.unusedVariables false
set_option maxRecDepth 20000
/-- the solution of a reduced matrix, as far as the first k pivots go -/
def solX (c : Nat) (p : List Nat) (R : Mt) (k : Nat) : List F := rowF c (onF (p.getD · 0) (fun i => R i c) k)
theorem solX_len (c : Nat) (p : List Nat) (R : Mt) (k : Nat) : (solX c p R k).length = c := rowF_len _ _
theorem solX_zero (c : Nat) (p : List Nat) (R : Mt) : zeros c = solX c p R 0 := rowF_eq (zeros_len _) fun j _ => at8_zeros _ _
theorem solX_step {c k j : Nat} {p : List Nat} (R : Mt) (hp : p.Pairwise (· < ·)) (hk : p[k]? = some j) (hj : j < c) : (solX c p R k).set j (R k c) = solX c p R (k + 1) := by
  have hkl := (List.getElem?_eq_some_iff.1 hk).1
  have hg : p.getD k 0 = j := by simp [List.getD, hk]
  refine rowF_eq (by rw [List.length_set, solX_len]) fun l hl => ?_
  have h1 : at8 (solX c p R k) l = onF (p.getD · 0) (fun i => R i c) k l := at8_rowF hl
  have h2 : at8 ((solX c p R k).set j (R k c)) l = if l = j then R k c else at8 (solX c p R k) l := by
    simp only [at8, List.getD, List.getElem?_set, solX_len]
    by_cases e : j = l
    · subst e; simp [hl]
    · simp [e, show ¬ l = j from fun h => e h.symm]
  rw [h2, h1]
  simp only [onF, sumF, hg]
  by_cases e : l = j
  · subst e
    rw [if_pos rfl, if_pos rfl, sumF_none, F.zero_add]
    intro i hi
    have hil : i < p.length := by omega
    have := List.pairwise_iff_getElem.1 hp i k hil hkl hi
    have e1 : p[k] = l := by rw [List.getElem?_eq_getElem hkl] at hk; exact Option.some.inj hk
    rw [if_neg]
    simp only [List.getD, List.getElem?_eq_getElem hil, Option.getD_some]
    omega
  · rw [if_neg e, if_neg (fun h => e h.symm), F.add_zero]
theorem natV_at {p : List Nat} {k j : Nat} (h : p[k]? = some j) : (natV p)[k]? = some (.int .i64 j) := by simp [natV, h]
/-- what Solve tells where there is a solution: the only one that is 0 off the pivots -/
structure SolOf (A : Mt) (r c : Nat) (v x : Nat → F) : Prop where
  sol : ∀ i, i < r → v i = sumF (fun l => gm (A i l) (x l)) c
  off : ∀ l, l < c → l ∉ pivL A r c → x l = 0
theorem SolOf.same {A : Mt} {r c : Nat} {v x y : Nat → F} (h : SolOf A r c v x) (k : SolOf A r c v y) : ∀ l, l < c → x l = y l :=
  sols_eq h.off k.off fun i hi => (h.sol i hi).symm.trans (k.sol i hi)
theorem own_nat {w : World} {B cp k j : Nat} {av : Option Addr} {p : List Nat} (ho : w.ownsRow B 3 1 (.slice av p.length cp) p.length (natV p)) (hk : p[k]? = some j) : ∃ g, av = some ⟨g, 0, none⟩ ∧ g < w.heap.size ∧ w.cell? ⟨g, k, none⟩ = some (.int .i64 j) := by
  have hkl := (List.getElem?_eq_some_iff.1 hk).1
  rcases ho.2 with ⟨e, e0⟩ | ⟨g, cap, cur, e, h1, h2, h3⟩
  · omega
  · cases e
    refine ⟨g, rfl, ltHeap h2, ?_⟩
    rw [ho.cellAt k (by omega), natV_at hk]
end Go.Proofs.YtkoakingmnjdoabDoor
