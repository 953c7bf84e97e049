/- Small facts on worlds that have grown: cells of a box, rows of bytes, lengths. -/
import Derived.Test.YtkoakingmnjdoaaGreatDoorGfStr
namespace Go.Proofs.YtkoakingmnjdoaaGreatDoor
open Go.RowKit Gf
set_option maxRecDepth 20000
theorem below_size {B : Nat} {w w' : World} (h : Below B w w') : w.heap.size ≤ w'.heap.size := h.size
theorem cells4 {w w1 : World} {v0 v1 v2 v3 : Value} {t : TypeId} (h : Below (w.alloc (.cells #[v0, v1, v2, v3] t)).heap.size (w.alloc (.cells #[v0, v1, v2, v3] t)) w1) :
    w1.heap[w.heap.size]? = some (.cells #[v0, v1, v2, v3] t (0, 0)) := (h.block _ (by simp)).trans (heap_alloc_last w _)
theorem box_cell {w1 : World} {N : Nat} {cs : Array Value} {t : TypeId} (h : w1.heap[N]? = some (.cells cs t (0, 0))) (j : Nat) (v : Value) (hv : cs[j]? = some v) :
    ∀ w', Below w1.heap.size w1 w' → w'.cell? ⟨N, j, none⟩ = some v := fun w' hb => by
  rw [cell_of_row w' N j cs t (0, 0) ((hb.block N (Array.getElem?_eq_some_iff.1 h).1).trans h)]; exact hv
/-- a list of bytes, and what stays of it in whatever world has grown since -/
theorem row_keep {w : World} {a : Option Addr} {xs : List F} (h : Row8 w a xs) : ∀ w', Below w.heap.size w w' → Row8 w' a xs := fun _ hb => row8_below h hb
theorem row_next {w w1 : World} {a : Option Addr} {xs : List F} (h : ∀ w', Below w.heap.size w w' → Row8 w' a xs) (hb : Below w.heap.size w w1) : ∀ w', Below w1.heap.size w1 w' → Row8 w' a xs :=
  fun _ hb' => row8_below (h _ hb) hb'
theorem cell_next {w w1 : World} {p : Addr} {v : Value} (h : ∀ w', Below w.heap.size w w' → w'.cell? p = some v) (hb : Below w.heap.size w w1) : ∀ w', Below w1.heap.size w1 w' → w'.cell? p = some v :=
  fun _ hb' => cell_later hb' (h _ hb)
theorem len_next {w w1 : World} (hb : Below w.heap.size w w1) {w2 : World} (h : Below w1.heap.size w1 w2) : Below w.heap.size w w2 := hb.trans (h.mono hb.size)
end Go.Proofs.YtkoakingmnjdoaaGreatDoor
