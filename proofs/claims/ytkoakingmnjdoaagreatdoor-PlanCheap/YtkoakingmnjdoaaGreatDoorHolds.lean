/- What is held of memory, as a list of blocks: carried from world to world in one step. -/
import Derived.Test.YtkoakingmnjdoaaGreatDoorMatA
namespace Go.Proofs.YtkoakingmnjdoaaGreatDoor
open Go.RowKit Gf
set_option linter.unusedVariables false
set_option maxRecDepth 20000
/-- these blocks hold these things -/
def Holds (w : World) (L : List (Nat × Obj)) : Prop := ∀ (i : Nat) (p : Nat × Obj), L[i]? = some p → w.heap[p.1]? = some p.2
theorem holds_nil (w : World) : Holds w [] := fun i p h => by simp at h
theorem holds_cons {w : World} {L : List (Nat × Obj)} {k : Nat} {o : Obj} (h : Holds w L) (hk : w.heap[k]? = some o) : Holds w ((k, o) :: L) := fun i p hi => by
  cases i with
  | zero => obtain rfl := Option.some.inj hi; exact hk
  | succ i => exact h i p hi
theorem holds_later {w w' : World} {L : List (Nat × Obj)} (h : Holds w L) (hb : Below w.heap.size w w') : Holds w' L := fun i p hi => heap_later (h i p hi) hb
theorem holds_alloc {w : World} {L : List (Nat × Obj)} (h : Holds w L) (o : Obj) : Holds (w.alloc o) L := fun i p hi => (Below.heap_alloc _ _ _ (ltHeap (h i p hi))).trans (h i p hi)
theorem holds_new {w : World} {L : List (Nat × Obj)} (h : Holds w L) (cs : Array Value) (t : TypeId) : Holds (w.alloc (.cells cs t)) ((w.heap.size, .cells cs t (0, 0)) :: L) := holds_cons (holds_alloc h _) (heap_alloc_last _ _)
theorem holds_at {w : World} {L : List (Nat × Obj)} (h : Holds w L) (i : Nat) {k : Nat} {o : Obj} (hi : L[i]? = some (k, o)) : w.heap[k]? = some o := h i (k, o) hi
theorem holds_row {w : World} {L : List (Nat × Obj)} (h : Holds w L) (i : Nat) {k : Nat} {xs : List F} {t : TypeId} {fr : Nat × Nat} (hi : L[i]? = some (k, .cells (vfs xs) t fr)) : Row8 w (some ⟨k, 0, none⟩) xs := row8_own (holds_at h i hi)
theorem boxB {B N : Nat} {W : World} {cs : Array Value} {t : TypeId} (h : W.heap[N]? = some (.cells cs t (0, 0))) (hB : N < B) (j : Nat) (v : Value) (hv : cs[j]? = some v) : ∀ w', Below B W w' → w'.cell? ⟨N, j, none⟩ = some v :=
  fun w' hb => cellAt ((hb.block N hB).trans h) j v hv
end Go.Proofs.YtkoakingmnjdoaaGreatDoor
