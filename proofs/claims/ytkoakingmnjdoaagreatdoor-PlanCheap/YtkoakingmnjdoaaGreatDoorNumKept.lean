/- What the statements' own look at a copy's marked room answers: true where list and room stand; nothing that was there turns. -/
import Derived.Test.YtkoakingmnjdoaaGreatDoorNumBytes
import Derived.Test.YtkoakingmnjdoaaGreatDoorRegHeld
namespace Go.Proofs.YtkoakingmnjdoaaGreatDoor
open Go.RowKit Gf
set_option linter.unusedVariables false
set_option maxRecDepth 20000
theorem marks_at : ∀ k < 6, (at8 marks k).toNat = 201 + k := by decide +kernel
theorem conv_keep8 {w : World} {a : Option Addr} {la ca : Nat} {xs : List F} (hla : la = xs.length) (hx : ∀ w', Below w.heap.size w w' → Row8 w' a xs) :
    ∀ w', Below w.heap.size w w' → (convert 23 9 (.slice a la ca)).run Tryz.prog w' = .ok (.string (str8 xs)) w' := fun w' hb => conv8 hla (hx w' hb)
theorem row8_front {w : World} {g : Nat} {xs ys : List F} {t : TypeId} {fr : Nat × Nat} (h : w.heap[g]? = some (.cells (vfs (xs ++ ys)) t fr)) : Row8 w (some ⟨g, 0, none⟩) xs := by
  refine .inr ⟨g, 0, rfl, fun j hj => ?_⟩
  rw [cell_of_row _ _ _ _ _ _ h, Nat.zero_add, vfs_get _ j (by rw [List.length_append]; omega)]
  simp [at8, hj, List.getElem?_append_left]
end Go.Proofs.YtkoakingmnjdoaaGreatDoor
