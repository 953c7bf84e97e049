/- alive of stage 4. -/
import Derived.Test.YtokepcikpkffpaaDoorBaseF
import Derived.Test.YtokepcikpkffpaaDoorHolds
namespace Go.Proofs.YtokepcikpkffpaaDoor
open Go.RowKit Gf
set_option linter.unusedVariables false
set_option maxRecDepth 20000
theorem alive_par : parM 2 2 = [142, 244, 244, 142] := by decide +kernel
set_option maxHeartbeats 2000000 in
theorem alive4_ok (w : World) : Calls Tryd.prog 8 #[] w fun e w' => e = .returned (.bool true) ∧ Below w.heap.size w w' := by
  go_enter Tryd.func8, Tryd.ntmps8
  go_wp2_with fail
  refine Calls.mono (parity_F 2 2 _ (by decide) (by decide) (by decide)) ?_
  rintro e w2 ⟨g, m, rfl, hm, hg, hh, hb⟩
  obtain rfl : m = 4 := hm
  rw [alive_par] at hh
  have HW2 : Hid (Below w.heap.size w w2) := hb
  have hA := holds_new (holds_cons (holds_nil w2) hh) #[.int .i64 2, .int .i64 2, .slice (some ⟨g, 0, none⟩) 4 4] 30
  have c1 := cellAt (holds_at hA 0 rfl) 0 _ rfl
  have c2 := cellAt (holds_at hA 0 rfl) 1 _ rfl
  have c3 := cellAt (holds_at hA 0 rfl) 2 _ rfl
  have hcv := conv8 (ca := 4) (show 4 = ([142, 244, 244, 142] : List F).length from rfl) (holds_row hA 1 rfl)
  rw [show str8 [142, 244, 244, 142] = { data := #[142, 244, 244, 142] } by decide +kernel] at hcv
  have h2 : ((w2.alloc (.cells #[.int .i64 2, .int .i64 2, .slice (some ⟨g, 0, none⟩) 4 4] 30)).alloc (.cells #[.int .u8 142, .int .u8 244, .int .u8 244, .int .u8 142] 5)).heap[w2.heap.size + 1]? = some (.cells (vfs [142, 244, 244, 142]) 5 (0, 0)) := by
    have := heap_alloc_last (w2.alloc (.cells #[.int .i64 2, .int .i64 2, .slice (some ⟨g, 0, none⟩) 4 4] 30)) (.cells #[.int .u8 142, .int .u8 244, .int .u8 244, .int .u8 142] 5)
    rw [World.size_alloc] at this
    exact this
  have hcv2 := conv8 (ca := 4) (show 4 = ([142, 244, 244, 142] : List F).length from rfl) (row8_own h2)
  rw [show str8 [142, 244, 244, 142] = { data := #[142, 244, 244, 142] } by decide +kernel] at hcv2
  clear hb hh hA h2
  go_wp2
  go_ret
  exact ⟨rfl, (HW2.out.alloc HW2.out.size _).alloc (by have := HW2.out.size; simp; omega) _⟩
end Go.Proofs.YtokepcikpkffpaaDoor
