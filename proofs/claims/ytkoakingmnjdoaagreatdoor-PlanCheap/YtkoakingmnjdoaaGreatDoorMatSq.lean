/- What Zero of package tesseraref02, and square of the statements, answer; nothing that was there turns. -/
import Derived.Test.YtkoakingmnjdoaaGreatDoorMatV
namespace Go.Proofs.YtkoakingmnjdoaaGreatDoor
open Go.RowKit Gf
set_option linter.unusedVariables false
set_option maxRecDepth 20000
set_option maxHeartbeats 400000 in
theorem rzero_F (r c : Nat) (w : World) (hr : r ≤ 64) (hc : c ≤ 64) :
    Calls Tryz.prog 63 #[.int .i64 r, .int .i64 c] w fun e w' => ∃ g n, e = .returned (.agg #[.int .i64 r, .int .i64 c, .slice (some ⟨g, 0, none⟩) n n]) ∧ n = r * c ∧ w.heap.size ≤ g ∧
      w'.heap[g]? = some (.cells (vfs (zeros (r * c))) 5 (0, 0)) ∧ Below w.heap.size w w' := by
  obtain ⟨m0, m1⟩ := mul_small (r := r) (c := c) hr hc
  have hr' : (r : Int) ≤ 64 := by omega
  have hc' : (c : Int) ≤ 64 := by omega
  have hN : Hid (r * c ≤ 4096) := by
    have : (r : Int) * (c : Int) = ((r * c : Nat) : Int) := by simp
    show _ ≤ _
    omega
  have hmk := run_make8 (r * c) (by have := hN.out; omega)
  rw [show ((r * c : Nat) : Int) = (r : Int) * (c : Int) from by simp] at hmk
  go_enter Tryz.func63, Tryz.ntmps63
  go_wp2
  refine bodyPost_ret (v := .agg #[.int .i64 r, .int .i64 c, .slice (some ⟨w.heap.size + 1, 0, none⟩) (r * c) (r * c)]) (by simp [results, Tryz.results63, go_sem]) rfl ⟨w.heap.size + 1, r * c, rfl, rfl, by omega, ?_, ?_⟩
  · exact heap_alloc2_new w _ _
  · exact ((Below.refl _ _).alloc (Nat.le_refl _) _).alloc (by simp) _
/-- n bytes: those that are there, noughts behind -/
def padTo (n : Nat) (xs : List F) : List F := xs.take n ++ zeros (n - xs.length)
theorem padTo_len (n : Nat) (xs : List F) : (padTo n xs).length = n := by
  rw [padTo, List.length_append, zeros_len, List.length_take]; omega
theorem run_copyPad (g n : Nat) (a : Option Addr) (la ca : Nat) (xs : List F) (w : World) (ty : TypeId) (hla : la = xs.length)
    (hg : w.heap[g]? = some (.cells (vfs (zeros n)) 5 (0, 0))) (hx : Row8 w a xs) :
    (Builtin.copy_ #[23, 23] ty #[.slice (some ⟨g, 0, none⟩) n n, .slice a la ca]).run Tryz.prog w = .ok (goInt ((min xs.length n : Nat) : Int)) (w.setRow g (vfs (padTo n xs))) := by
  have hs : (Tryz.prog.info? 5).map (·.size) = some 1 := by kernel_rfl
  subst hla
  rcases hx with rfl | ⟨b, off, rfl, hx⟩
  · rw [List.length_nil, run_copy_none w _ _ _ _ _ _ _ _ _ _ Tryz.underlying23 hs (by simp)]
    have e : padTo n [] = zeros n := by simp [padTo]
    rw [e, setRow_self w g _ _ _ hg, Nat.zero_min]; rfl
  · have hlen : ((xs.take n).map vf).length = Nat.min xs.length n := by rw [List.length_map, List.length_take]; show min _ _ = min _ _; omega
    have he : (List.take 0 (vfs (zeros n)).toList ++ (xs.take n).map vf ++ List.drop (0 + ((xs.take n).map vf).length) (vfs (zeros n)).toList).toArray = vfs (padTo n xs) := by
      rw [hlen]
      simp only [List.take_zero, List.nil_append, Nat.zero_add, padTo, vfs, List.map_append, List.toList_toArray, zeros, List.map_replicate, List.drop_replicate]
      congr 3
      show n - min _ _ = _
      omega
    rw [run_copy_row (P := Tryz.prog) w 23 23 ty 5 g 0 n n ⟨b, off, none⟩ xs.length ca (vfs (zeros n)) 5 ((xs.take n).map vf) Tryz.underlying23 hs hg hlen
      (fun j v hv => by
        simp only [List.getElem?_map, Option.map_eq_some_iff] at hv
        obtain ⟨x, hx1, rfl⟩ := hv
        have hj' := (List.getElem?_eq_some_iff.1 hx1).1
        rw [List.length_take] at hj'
        have hj : j < xs.length := by omega
        rw [List.getElem?_take_of_lt (by omega)] at hx1
        have e : at8 xs j = x := by simp [at8, hx1]
        have hadd : (⟨b, off, none⟩ : Addr).add j = ⟨b, off + j, none⟩ := by unfold Addr.add; split <;> simp_all
        rw [hadd, hx j hj, e]; rfl)
      (by rw [hlen, vfs_size, zeros_len]; show 0 + min _ _ ≤ _; omega)
      (fun v hv => by
        simp only [List.mem_map] at hv
        obtain ⟨x, _, rfl⟩ := hv
        rfl)]
    rw [he, hlen]
end Go.Proofs.YtkoakingmnjdoaaGreatDoor
