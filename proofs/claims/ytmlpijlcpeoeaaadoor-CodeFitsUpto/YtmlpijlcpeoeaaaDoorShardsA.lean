/- The chapter's worked answers of package shards hold: the function 'alive' of the statements returns true; a half lies within its block. -/
import Derived.Test.YtmlpijlcpeoeaaaDoorShardsS
import Derived.Test.YtmlpijlcpeoeaaaDoorShardsR
import Derived.Lib.SlBytesConst
namespace Go.Proofs.YtmlpijlcpeoeaaaDoor
open Go.RowKit Gf
set_option linter.unusedVariables false
set_option maxRecDepth 20000
theorem row8_half {w : World} {g H c v : Nat} {xs : List F} {t : TypeId} {fr : Nat × Nat} (h : w.heap[g]? = some (.cells (vfs (padF (c * H) xs)) t fr)) (hv : v < c) : Row8 w (some ⟨g, v * H, none⟩) (hf H xs v) :=
  .inr ⟨g, v * H, rfl, fun j hj => by
    rw [hf_len] at hj
    have hlt := place_lt (c := H) hv hj
    rw [cell_of_row _ _ _ _ _ _ h, vfs_get _ _ (by rw [padF_len]; exact hlt), at8_padF hlt, hf, at8_rowF hj]⟩
theorem heap_alloc_any (w : World) (o : Obj) : (w.alloc o).heap[w.heap.size]? = some o := by show (w.heap.push o)[w.heap.size]? = _; simp
theorem alive6_1 : hf 2 [97, 98, 99, 100, 101] 1 = [99, 100] := by decide +kernel
theorem alive6_2 : hf 2 [97, 98, 99, 100, 101] 2 = [101, 0] := by decide +kernel
end Go.Proofs.YtmlpijlcpeoeaaaDoor
