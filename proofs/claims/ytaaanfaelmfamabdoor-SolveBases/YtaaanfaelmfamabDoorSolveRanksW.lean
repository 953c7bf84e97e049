/- The walk of the statement SolveRanks: it returns true of all pairs of matrices. -/
import Derived.Test.YtaaanfaelmfamabDoorSolveA
import Derived.Test.YtaaanfaelmfamabDoorMatTake
import Derived.Test.YtaaanfaelmfamabDoorMatS
import Derived.Test.YtaaanfaelmfamabDoorErrs
namespace Go.Proofs.YtaaanfaelmfamabDoor
open Go.RowKit Gf
set_option linter.unusedVariables false
set_option maxRecDepth 20000
/-- numbers as the program's numbers -/
def natI (p : List Nat) : List Int := p.map fun x => ((x : Nat) : Int)
theorem natI_len (p : List Nat) : (natI p).length = p.length := by simp [natI]
theorem natV_natI (p : List Nat) : natV p = (natI p).map (Value.int .i64) := by simp [natV, natI]
theorem rowI_nat {w : World} {B cap : Nat} {av : Option Addr} {p : List Nat} (ho : w.ownsRow B 3 1 (.slice av p.length cap) p.length (natV p)) : RowI w av (natI p) := by
  rcases ho.2 with ⟨e, e0⟩ | ⟨g, cap', cur, e, h⟩
  · refine .inl ?_
    have := List.eq_nil_of_length_eq_zero e0
    rw [this]; rfl
  · cases e
    refine .inr ⟨g, 0, rfl, fun j n hj => ?_⟩
    simp only [natI, List.getElem?_map, Option.map_eq_some_iff] at hj
    obtain ⟨x, hx, rfl⟩ := hj
    obtain ⟨g', e', _, hc⟩ := own_nat ho hx
    cases e'
    rw [Nat.zero_add]; exact hc
theorem own_nil_cap {w : World} {B n cap : Nat} {av : Option Addr} {e : TypeId} {xs : List Value} (ho : w.ownsRow B e 1 (.slice av n cap) n xs) : av = none → cap = 0 := by
  intro h
  rcases ho.2 with ⟨e, _⟩ | ⟨g, cap', cur, e, _⟩
  · cases e; rfl
  · rw [h] at e; cases e
theorem takeM_grid (c : Nat) (xs : List F) (p : List Nat) {r : Nat} (hx : xs.length = r * c) (hp : ∀ x ∈ p, x < r) : (takeM c xs (natI p)).flatten = grid c (fun k j => cellF c xs (p.getD k 0) j) p.length := by
  rw [grid_flat]
  congr 1
  apply List.ext_getElem?
  intro k
  by_cases hk : k < p.length
  · have h1 : (natI p)[k]? = some ((p[k] : Nat) : Int) := by simp [natI, hk]
    rw [takeM, List.getElem?_map, h1, List.getElem?_map, List.getElem?_range hk]
    simp only [Option.map_some, Int.toNat_natCast, Option.some.injEq]
    rw [rowAt_rowF hx (hp _ (List.getElem_mem hk))]
    simp only [cellF, List.getD, List.getElem?_eq_getElem hk, Option.getD_some]
  · rw [List.getElem?_eq_none (by simp [takeM, natI]; omega), List.getElem?_eq_none (by simp; omega)]
theorem cellF_grid {c n : Nat} {f : Mt} : ∀ i, i < n → ∀ j, j < c → cellF c (grid c f n) i j = f i j := fun i hi j hj => at8_grid hi hj
theorem cellF_mul {r n c : Nat} {xs ys : List F} : ∀ i, i < r → ∀ j, j < c → cellF c (mulM n c xs ys r) i j = mulF n (cellF n xs) (cellF c ys) i j := fun i hi j hj => at8_grid hi hj
end Go.Proofs.YtaaanfaelmfamabDoor
