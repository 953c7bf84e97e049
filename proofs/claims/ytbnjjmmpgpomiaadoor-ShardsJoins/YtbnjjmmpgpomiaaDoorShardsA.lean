/- The chapter's worked answers of package shards hold: the function 'alive' of the statements returns true; a half lies within its block. -/
import Derived.Test.YtbnjjmmpgpomiaaDoorShardsS
import Derived.Test.YtbnjjmmpgpomiaaDoorShardsR
import Derived.Lib.SlBytesConst
namespace Go.Proofs.YtbnjjmmpgpomiaaDoor
open Go.RowKit Gf
set_option linter.unusedVariables false
set_option maxRecDepth 20000
theorem row8_half {w : World} {g H c v : Nat} {xs : List F} {t : TypeId} {fr : Nat × Nat} (h : w.heap[g]? = some (.cells (vfs (padF (c * H) xs)) t fr)) (hv : v < c) : Row8 w (some ⟨g, v * H, none⟩) (hf H xs v) :=
  .inr ⟨g, v * H, rfl, fun j hj => by
    rw [hf_len] at hj
    have hlt := place_lt (c := H) hv hj
    rw [cell_of_row _ _ _ _ _ _ h, vfs_get _ _ (by rw [padF_len]; exact hlt), at8_padF hlt, hf, at8_rowF hj]⟩
theorem heap_alloc_any (w : World) (o : Obj) : (w.alloc o).heap[w.heap.size]? = some o := by show (w.heap.push o)[w.heap.size]? = _; simp
theorem alive6_1 : hf 2 [97, 98, 99, 100, 101] 1 = [99, 100] := by decide +kernel
theorem alive6_2 : hf 2 [97, 98, 99, 100, 101] 2 = [101, 0] := by decide +kernel
set_option maxHeartbeats 2000000 in
theorem alive6_ok (w : World) (E : Nat → Addr) (hE : ErrsE w E) : Calls Tryd.prog 8 #[] w fun e w' => e = .returned (.bool true) ∧ Below w.heap.size w w' := by
  have HE : Hid _ := hE
  clear hE
  go_enter Tryd.func8, Tryd.ntmps8
  go_wp2_with fail
  refine Calls.mono (half_F 2 5 _ E HE.out (by decide) (by decide)) ?_
  rw [show halfV 2 5 = 2 from by decide, show halfE 2 5 = 0 from by decide, evV_zero]
  rintro e w1 ⟨rfl, hb1⟩
  have HB1 : Hid _ := hb1
  have HL : Hid _ := row8_own (show (w1.alloc (.cells #[.int .u8 97, .int .u8 98, .int .u8 99, .int .u8 100, .int .u8 101] 5 (5, 6))).heap[w1.heap.size]? = some (.cells (vfs [97, 98, 99, 100, 101]) 5 (5, 6)) from heap_alloc_any _ _)
  have kc := Lib.run_convert_bytes_const (P := Tryd.prog) w1 37 5 #[.int .u8 97, .int .u8 98, .int .u8 99, .int .u8 100, .int .u8 101] 5 5 Tryd.underlying37 Tryd.underlying5
  clear hb1
  go_wp2_with fail
  clear kc
  refine Calls.mono (split_ok 2 5 5 _ [97, 98, 99, 100, 101] _ E (errsE_below HE.out (HB1.out.alloc HB1.out.size _)) (by decide) (by decide) (by decide) (by decide) rfl HL.out) ?_
  rintro e w2 ⟨hb, g, c, H, rfl, rfl, rfl, l1, l2, l3, h1, h2, hb2⟩
  rw [show cntN (2 * 2) 5 = 2 from by decide] at h1 h2
  have HB2 : Hid (Below w.heap.size w w2) := (HB1.out.alloc HB1.out.size _).trans (hb2.mono (by have := HB1.out.size; simp; omega))
  have k1 := conv8 (la := 2) (ca := 2) (show 2 = (hf 2 [97, 98, 99, 100, 101] 1).length from rfl) (row8_half (v := 1) h2 (by decide))
  have k2 := conv8 (la := 2) (ca := 2) (show 2 = (hf 2 [97, 98, 99, 100, 101] 2).length from rfl) (row8_half (v := 2) h2 (by decide))
  rw [alive6_1, show str8 [99, 100] = { data := #[99, 100] } by decide +kernel] at k1
  rw [alive6_2, show str8 [101, 0] = { data := #[101, 0] } by decide +kernel] at k2
  have c1 := cellAt h1 1 _ (hvV_at (by decide) (by decide))
  have c2 := cellAt h1 2 _ (hvV_at (by decide) (by decide))
  clear hb2 h1 h2
  go_wp2
  go_ret
  exact ⟨rfl, HB2.out⟩
end Go.Proofs.YtbnjjmmpgpomiaaDoor
