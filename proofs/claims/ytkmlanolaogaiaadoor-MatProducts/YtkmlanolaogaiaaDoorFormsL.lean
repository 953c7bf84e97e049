/- The walk of the statement MatForms: it returns true of all matrices, lists of rows and sizes. -/
import Derived.Test.YtkmlanolaogaiaaDoorMatIn
import Derived.Test.YtkmlanolaogaiaaDoorMatAs
import Derived.Test.YtkmlanolaogaiaaDoorMatOf
import Derived.Test.YtkmlanolaogaiaaDoorRefOf
import Derived.Test.YtkmlanolaogaiaaDoorRef2
import Derived.Test.YtkmlanolaogaiaaDoorErrsNeq
import Derived.Deep.RegionWith
import Derived.Deep.DeepCutAuto
namespace Go.Proofs.YtkmlanolaogaiaaDoor
open Go.RowKit Gf
set_option linter.unusedVariables false
set_option maxRecDepth 20000
theorem one_zeros {n : Nat} (h : 0 < n) : eqB (oneM n) (zeros (n * n)) = false := by
  simp only [eqB, decide_eq_false_iff_not]
  intro e
  have h1 := at8_oneM (n := n) (i := 0) (j := 0) h h
  rw [if_pos rfl, e, at8_zeros] at h1
  exact absurd h1 (by decide)
/-- an answered matrix in its box, and its error: right, or refused -/
def AnsM (w : World) (v e : Value) (s : Addr) (ok : Prop) (r c : Int) (xs : List F) : Prop :=
  ∃ N, v = .pointer (some ⟨N, 0, none⟩) ∧ ((ok ∧ e = .nilIface ∧ ∃ g m, w.heap[N]? = some (.cells #[.int .i64 r, .int .i64 c, .slice (some ⟨g, 0, none⟩) m m] 24 (0, 0)) ∧ w.heap[g]? = some (.cells (vfs xs) 5 (0, 0)) ∧ m = xs.length) ∨
    (¬ ok ∧ e = errAt s ∧ w.heap[N]? = some (.cells #[.int .i64 0, .int .i64 0, .slice none 0 0] 24 (0, 0))))
def sz (x : Int) : Prop := 0 ≤ x ∧ x ≤ 64
end Go.Proofs.YtkmlanolaogaiaaDoor
