/- What Zero of package tesseraref02, and square of the statements, answer; nothing that was there turns. -/
import Derived.Test.YtagahiahhgafpaaDoorMatV
namespace Go.Proofs.YtagahiahhgafpaaDoor
open Go.RowKit Gf
set_option linter.unusedVariables false
set_option maxHeartbeats 400000 in
theorem rzero_F (r c : Nat) (w : World) (hr : r ≤ 64) (hc : c ≤ 64) :
    Calls Tryd.prog 17 #[.int .i64 r, .int .i64 c] w fun e w' => ∃ g n, e = .returned (.agg #[.int .i64 r, .int .i64 c, .slice (some ⟨g, 0, none⟩) n n]) ∧ n = r * c ∧ w.heap.size ≤ g ∧
      w'.heap[g]? = some (.cells (vfs (zeros (r * c))) 5 (0, 0)) ∧ Below w.heap.size w w' := by
  obtain ⟨m0, m1⟩ := mul_small (r := r) (c := c) hr hc
  have hr' : (r : Int) ≤ 64 := by omega
  have hc' : (c : Int) ≤ 64 := by omega
  have hN : Hid (r * c ≤ 4096) := by
    have : (r : Int) * (c : Int) = ((r * c : Nat) : Int) := by simp
    show _ ≤ _
    omega
  have hmk := run_make8 (r * c) (by have := hN.out; omega)
  rw [show ((r * c : Nat) : Int) = (r : Int) * (c : Int) from by simp] at hmk
  go_enter Tryd.func17, Tryd.ntmps17
  go_wp2
  refine bodyPost_ret (v := .agg #[.int .i64 r, .int .i64 c, .slice (some ⟨w.heap.size + 1, 0, none⟩) (r * c) (r * c)]) (by simp [results, Tryd.results17, go_sem]) rfl ⟨w.heap.size + 1, r * c, rfl, rfl, by omega, ?_, ?_⟩
  · exact heap_alloc2_new w _ _
  · exact ((Below.refl _ _).alloc (Nat.le_refl _) _).alloc (by simp) _
/-- n bytes: those that are there, noughts behind -/
def padTo (n : Nat) (xs : List F) : List F := xs.take n ++ zeros (n - xs.length)
theorem padTo_len (n : Nat) (xs : List F) : (padTo n xs).length = n := by
  rw [padTo, List.length_append, zeros_len, List.length_take]; omega
theorem run_copyPad (g n : Nat) (a : Option Addr) (la ca : Nat) (xs : List F) (w : World) (ty : TypeId) (hla : la = xs.length)
    (hg : w.heap[g]? = some (.cells (vfs (zeros n)) 5 (0, 0))) (hx : Row8 w a xs) :
    (Builtin.copy_ #[22, 22] ty #[.slice (some ⟨g, 0, none⟩) n n, .slice a la ca]).run Tryd.prog w = .ok (goInt ((min xs.length n : Nat) : Int)) (w.setRow g (vfs (padTo n xs))) := by
  have hs : (Tryd.prog.info? 5).map (·.size) = some 1 := by kernel_rfl
  subst hla
  rcases hx with rfl | ⟨b, off, rfl, hx⟩
  · rw [List.length_nil, run_copy_none w _ _ _ _ _ _ _ _ _ _ Tryd.underlying22 hs (by simp)]
    have e : padTo n [] = zeros n := by simp [padTo]
    rw [e, setRow_self w g _ _ _ hg, Nat.zero_min]; rfl
  · have hlen : ((xs.take n).map vf).length = Nat.min xs.length n := by rw [List.length_map, List.length_take]; show min _ _ = min _ _; omega
    have he : (List.take 0 (vfs (zeros n)).toList ++ (xs.take n).map vf ++ List.drop (0 + ((xs.take n).map vf).length) (vfs (zeros n)).toList).toArray = vfs (padTo n xs) := by
      rw [hlen]
      simp only [List.take_zero, List.nil_append, Nat.zero_add, padTo, vfs, List.map_append, List.toList_toArray, zeros, List.map_replicate, List.drop_replicate]
      congr 3
      show n - min _ _ = _
      omega
    rw [run_copy_row (P := Tryd.prog) w 22 22 ty 5 g 0 n n ⟨b, off, none⟩ xs.length ca (vfs (zeros n)) 5 ((xs.take n).map vf) Tryd.underlying22 hs hg hlen
      (fun j v hv => by
        simp only [List.getElem?_map, Option.map_eq_some_iff] at hv
        obtain ⟨x, hx1, rfl⟩ := hv
        have hj' := (List.getElem?_eq_some_iff.1 hx1).1
        rw [List.length_take] at hj'
        have hj : j < xs.length := by omega
        rw [List.getElem?_take_of_lt (by omega)] at hx1
        have e : at8 xs j = x := by simp [at8, hx1]
        have hadd : (⟨b, off, none⟩ : Addr).add j = ⟨b, off + j, none⟩ := by unfold Addr.add; split <;> simp_all
        rw [hadd, hx j hj, e]; rfl)
      (by rw [hlen, vfs_size, zeros_len]; show 0 + min _ _ ≤ _; omega)
      (fun v hv => by
        simp only [List.mem_map] at hv
        obtain ⟨x, _, rfl⟩ := hv
        rfl)]
    rw [he, hlen]
set_option maxHeartbeats 1000000 in
theorem square_F (n la ca : Nat) (a : Option Addr) (xs : List F) (w : World) (hn : n ≤ 64) (hla : la = xs.length) (hx : Row8 w a xs) :
    Calls Tryd.prog 38 #[.int .i64 n, .slice a la ca] w fun e w' => ∃ g m, e = .returned (.agg #[.int .i64 n, .int .i64 n, .slice (some ⟨g, 0, none⟩) m m]) ∧ m = n * n ∧ w.heap.size ≤ g ∧
      w'.heap[g]? = some (.cells (vfs (padTo (n * n) xs)) 5 (0, 0)) ∧ Below w.heap.size w w' := by
  have HL : Hid _ := hla
  have HR : Hid _ := hx
  clear hla hx
  go_enter Tryd.func38, Tryd.ntmps38
  go_wp2_with fail
  refine Calls.mono (rzero_F n n _ hn hn) ?_
  rintro e w2 ⟨g, m, rfl, hm, hg, hh, hb2⟩
  have z2 := hb2.size
  simp only [World.size_alloc] at z2 hg
  have z4 : w.heap.size < w2.heap.size := by omega
  have zg : g < w2.heap.size := ltHeap hh
  have HM : Hid _ := hm
  have HB' : Hid (Below w.heap.size w w2) := ((Below.refl w.heap.size w).alloc (Nat.le_refl _) _).trans (hb2.mono (by simp))
  have k1 : Hid _ := heap_later (heap_alloc_last w (.cells #[.int .i64 0, .int .i64 0, .slice none 0 0] 24)) hb2
  subst hm
  have hcp := fun ty => run_copyPad g (n * n) a la ca xs (w2.alloc (.cells #[.int .i64 n, .int .i64 n, .slice (some ⟨g, 0, none⟩) (n * n) (n * n)] 24)) ty HL.out ((Below.heap_alloc _ _ _ zg).trans hh) (row8_below HR.out (HB'.out.alloc (by omega) _))
  have B3 := setRow_heap _ g _ (vfs (padTo (n * n) xs)) _ _ ((Below.heap_alloc w2 (.cells #[.int .i64 n, .int .i64 n, .slice (some ⟨g, 0, none⟩) (n * n) (n * n)] 24) _ zg).trans hh)
  have B2 := (setRow_heap_other (w2.alloc (.cells #[.int .i64 n, .int .i64 n, .slice (some ⟨g, 0, none⟩) (n * n) (n * n)] 24)) g w2.heap.size (vfs (padTo (n * n) xs)) (by omega)).trans (heap_alloc_last w2 (.cells #[.int .i64 n, .int .i64 n, .slice (some ⟨g, 0, none⟩) (n * n) (n * n)] 24))
  have B1 := (setRow_heap_other (w2.alloc (.cells #[.int .i64 n, .int .i64 n, .slice (some ⟨g, 0, none⟩) (n * n) (n * n)] 24)) g w.heap.size (vfs (padTo (n * n) xs)) (by omega)).trans ((Below.heap_alloc w2 (.cells #[.int .i64 n, .int .i64 n, .slice (some ⟨g, 0, none⟩) (n * n) (n * n)] 24) _ z4).trans k1.out)
  have B4 := below_row (HB'.out.alloc (by omega) (.cells #[.int .i64 n, .int .i64 n, .slice (some ⟨g, 0, none⟩) (n * n) (n * n)] 24)) (g := g) (by omega) (vfs (padTo (n * n) xs))
  have c0 : ∀ j v, (#[.int .i64 n, .int .i64 n, .slice (some ⟨g, 0, none⟩) (n * n) (n * n)] : Array Value)[j]? = some v → (w2.alloc (.cells #[.int .i64 n, .int .i64 n, .slice (some ⟨g, 0, none⟩) (n * n) (n * n)] 24)).cell? ⟨w2.heap.size, j, none⟩ = some v := fun j v h => cellAt (heap_alloc_last w2 _) j v h
  generalize hW4 : (w2.alloc (.cells #[.int .i64 n, .int .i64 n, .slice (some ⟨g, 0, none⟩) (n * n) (n * n)] 24)).setRow g (vfs (padTo (n * n) xs)) = W4 at hcp B1 B2 B3 B4
  have c1 := cellAt B2 0 _ rfl
  have c2 := cellAt B2 1 _ rfl
  have c3 := cellAt B2 2 _ rfl
  have d1 := cellAt B1 0 _ rfl
  have d2 := cellAt B1 1 _ rfl
  have d3 := cellAt B1 2 _ rfl
  have d4 : W4.frozen? ⟨w.heap.size, 0, none⟩ = false := frozen_of_row _ _ _ _ _ B1
  have d5 : W4.frozen? ⟨w.heap.size, 1, none⟩ = false := frozen_of_row _ _ _ _ _ B1
  have d6 : W4.frozen? ⟨w.heap.size, 2, none⟩ = false := frozen_of_row _ _ _ _ _ B1
  have HB1 : Hid _ := B1
  have HB3 : Hid _ := B3
  have HB4 : Hid _ := B4
  clear B1 B2 B3 B4 hh hb2 k1 c0 hW4
  go_wp2
  refine bodyPost_ret (v := .agg #[.int .i64 n, .int .i64 n, .slice (some ⟨g, 0, none⟩) (n * n) (n * n)]) (by simp [results, Tryd.results38, go_sem, d1, d2, d3]) rfl ⟨g, n * n, rfl, rfl, by omega, ?_, ?_⟩
  · rw [heap_setCell_other _ _ _ _ (by show g ≠ w.heap.size; omega), heap_setCell_other _ _ _ _ (by show g ≠ w.heap.size; omega), heap_setCell_other _ _ _ _ (by show g ≠ w.heap.size; omega)]
    exact HB3.out
  · exact ((HB4.out.setCell (by simp) _).setCell (by simp) _).setCell (by simp) _
end Go.Proofs.YtagahiahhgafpaaDoor
