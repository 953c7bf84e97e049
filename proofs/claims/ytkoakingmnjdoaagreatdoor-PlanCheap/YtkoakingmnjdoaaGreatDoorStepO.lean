/- What the program knows of an operation: its table. -/
import Derived.Test.YtkoakingmnjdoaaGreatDoorStepW
import Derived.Laws.EntriesVeiled
namespace Go.Proofs.YtkoakingmnjdoaaGreatDoor
open Go.RowKit Gf
set_option linter.unusedVariables false
set_option maxRecDepth 20000
def opc0 : Array Value := #[.string ⟨#[]⟩, .bool false, .bool false, .bool false, .bool false, .bool false, .nilFunc, .nilFunc]
def opc1 : Array Value := #[.string ⟨#[108, 111, 97, 100]⟩, .bool false, .bool true, .bool true, .bool false, .bool false, .func (.func 139) #[] #[], .func (.func 140) #[] #[]]
def opc2 : Array Value := #[.string ⟨#[122, 101, 114, 111]⟩, .bool false, .bool false, .bool true, .bool false, .bool false, .func (.func 141) #[] #[], .func (.func 142) #[] #[]]
def opc3 : Array Value := #[.string ⟨#[109, 117, 108]⟩, .bool true, .bool false, .bool false, .bool false, .bool false, .func (.func 143) #[] #[], .func (.func 144) #[] #[]]
def opc4 : Array Value := #[.string ⟨#[97, 100, 100]⟩, .bool true, .bool true, .bool false, .bool true, .bool false, .func (.func 145) #[] #[], .func (.func 146) #[] #[]]
def opc5 : Array Value := #[.string ⟨#[115, 116, 111, 114, 101]⟩, .bool false, .bool true, .bool false, .bool true, .bool true, .func (.func 147) #[] #[], .func (.func 148) #[] #[]]
def opsC : Array Value := #[.string ⟨#[]⟩, .bool false, .bool false, .bool false, .bool false, .bool false, .nilFunc, .nilFunc, .string ⟨#[108, 111, 97, 100]⟩, .bool false, .bool true, .bool true, .bool false, .bool false, .func (.func 139) #[] #[], .func (.func 140) #[] #[], .string ⟨#[122, 101, 114, 111]⟩, .bool false, .bool false, .bool true, .bool false, .bool false, .func (.func 141) #[] #[], .func (.func 142) #[] #[], .string ⟨#[109, 117, 108]⟩, .bool true, .bool false, .bool false, .bool false, .bool false, .func (.func 143) #[] #[], .func (.func 144) #[] #[], .string ⟨#[97, 100, 100]⟩, .bool true, .bool true, .bool false, .bool true, .bool false, .func (.func 145) #[] #[], .func (.func 146) #[] #[], .string ⟨#[115, 116, 111, 114, 101]⟩, .bool false, .bool true, .bool false, .bool true, .bool true, .func (.func 147) #[] #[], .func (.func 148) #[] #[]]
def opsZ : Array Value := #[.string ⟨#[]⟩, .bool false, .bool false, .bool false, .bool false, .bool false, .nilFunc, .nilFunc, .string ⟨#[]⟩, .bool false, .bool false, .bool false, .bool false, .bool false, .nilFunc, .nilFunc, .string ⟨#[]⟩, .bool false, .bool false, .bool false, .bool false, .bool false, .nilFunc, .nilFunc, .string ⟨#[]⟩, .bool false, .bool false, .bool false, .bool false, .bool false, .nilFunc, .nilFunc, .string ⟨#[]⟩, .bool false, .bool false, .bool false, .bool false, .bool false, .nilFunc, .nilFunc, .string ⟨#[]⟩, .bool false, .bool false, .bool false, .bool false, .bool false, .nilFunc, .nilFunc]
theorem opsC_one : opsC.all (·.oneCell') = true := by simp [opsC, Value.oneCell']
theorem opc0_one : opc0.all (·.oneCell') = true := by simp [opc0, Value.oneCell']
theorem info65 : (Tryz.prog.info? 164).map (·.size) = some 8 := by kernel_rfl
theorem info81 : (Tryz.prog.info? 175).map (·.size) = some opsC.size := by kernel_rfl
set_option maxRecDepth 100000 in
set_option maxHeartbeats 4000000 in
theorem ops_F (w : World) : Calls Tryz.prog 130 #[] w fun e w' => e = .returned (.agg opsC) ∧ Below w.heap.size w w' := by
  have HA : Hid _ := heap_alloc_last w (.cells opsZ 175)
  have HI : Hid _ := info81
  have H1 : Hid _ := opsC_one
  have HO : Hid (opsZ.size = opsC.size) := by show _ = _; rfl
  go_enter Tryz.func130, Tryz.ntmps130
  go_wp2_with (refine wpList_store_row rfl 175 _ _ rfl w.heap.size opsC rfl rfl 175 opsZ HA.out HI.out HO.out H1.out ?_)
  refine bodyPost_ret (v := .agg opsC) (results_cell_row rfl _ _ w.heap.size 175 _ (0, 0) _ rfl (setRow_heap _ _ _ _ _ _ HA.out) Tryz.underlying175 rfl HI.out) rfl ⟨rfl, ?_⟩
  exact below_row ((Below.refl _ _).alloc (Nat.le_refl _) _) (Nat.le_refl _) _
set_option maxRecDepth 100000 in
set_option maxHeartbeats 4000000 in
theorem find_no (op : Int) (w : World) (h : ¬ (1 ≤ op ∧ op ≤ 5)) : Calls Tryz.prog 123 #[.int .i64 op] w fun e w' => e = .returned (.tuple #[.agg opc0, .bool false]) ∧ Below w.heap.size w w' := by
  have H : Hid (¬ (1 ≤ op ∧ op ≤ 5)) := h
  clear h
  go_enter Tryz.func123, Tryz.ntmps123
  go_wp2_with fail
  refine Calls.mono (ops_F _) ?_
  rintro e w1 ⟨rfl, hb1⟩
  have hk := heap_later (heap_alloc_last w (.cells opc0 164)) hb1
  have hB : Below w.heap.size w w1 := ((Below.refl w.heap.size w).alloc (Nat.le_refl _) _).trans (hb1.mono (by simp))
  have HA : Hid _ := heap_alloc_last w1 (.cells opsZ 175)
  have HT : Hid _ := setRow_heap _ _ _ opsC _ _ HA.out
  have HI : Hid _ := info81
  have HI5 : Hid _ := info65
  have H1 : Hid _ := opsC_one
  have HO : Hid (opsZ.size = opsC.size) := by show _ = _; rfl
  have HB : Hid (Below w.heap.size w ((w1.alloc (.cells opsZ 175)).setRow w1.heap.size opsC)) := below_row (hB.alloc hB.size _) hB.size _
  have HK : Hid (((w1.alloc (.cells opsZ 175)).setRow w1.heap.size opsC).heap[w.heap.size]? = some (.cells opc0 164 (0, 0))) := by
    have hlt := ltHeap hk
    exact (setRow_heap_other _ _ _ _ (by omega)).trans (heap_later hk ((Below.refl _ _).alloc (Nat.le_refl _) _))
  have hlt9 := ltHeap hk
  clear hb1 hk hB
  by_cases n1 : op < 1
  · go_wp2_with (first | (refine wpList_store_row rfl 175 _ _ rfl w1.heap.size opsC rfl rfl 175 opsZ HA.out HI.out HO.out H1.out ?_; generalize hW2 : World.setRow _ _ _ = W2; have HB2 : Hid (Below w.heap.size w W2) := (by show Below _ _ _; rw [← hW2]; exact HB.out); have HK2 : Hid (W2.heap[w.heap.size]? = some (.cells opc0 164 (0, 0))) := (by show _ = _; rw [← hW2]; exact HK.out); have HT2 : Hid (W2.heap[w1.heap.size]? = some (.cells opsC 175 (0, 0))) := (by show _ = _; rw [← hW2]; exact HT.out); clear hW2 HA HB HK HT) | (refine wpList_store_row rfl 164 _ _ rfl w.heap.size opc0 rfl rfl 164 opc0 HK2.out HI5.out rfl opc0_one ?_; generalize hW3 : World.setRow _ _ _ = W3; have HB3 : Hid (Below w.heap.size w W3) := (by show Below _ _ _; rw [← hW3]; exact below_row HB2.out (Nat.le_refl _) _); have hk3 : W3.heap[w.heap.size]? = some (.cells opc0 164 (0, 0)) := (by rw [← hW3]; exact setRow_heap _ _ _ _ _ _ HK2.out); clear hW3))
    have c0 := cellAt hk3 0 _ rfl
    have c1 := cellAt hk3 1 _ rfl
    have c2 := cellAt hk3 2 _ rfl
    have c3 := cellAt hk3 3 _ rfl
    have c4 := cellAt hk3 4 _ rfl
    have c5 := cellAt hk3 5 _ rfl
    have c6 := cellAt hk3 6 _ rfl
    have c7 := cellAt hk3 7 _ rfl
    have z3 := ltHeap hk3
    refine bodyPost_ret (v := .tuple #[.agg opc0, .bool false]) (by simp [results, Tryz.f123, go_sem, c0, c1, c2, c3, c4, c5, c6, c7, opc0]) rfl ⟨rfl, HB3.out⟩
  · have n2 : 6 ≤ op := by have := H.out; omega
    go_wp2_with (first | (refine wpList_store_row rfl 175 _ _ rfl w1.heap.size opsC rfl rfl 175 opsZ HA.out HI.out HO.out H1.out ?_; generalize hW2 : World.setRow _ _ _ = W2; have HB2 : Hid (Below w.heap.size w W2) := (by show Below _ _ _; rw [← hW2]; exact HB.out); have HK2 : Hid (W2.heap[w.heap.size]? = some (.cells opc0 164 (0, 0))) := (by show _ = _; rw [← hW2]; exact HK.out); have HT2 : Hid (W2.heap[w1.heap.size]? = some (.cells opsC 175 (0, 0))) := (by show _ = _; rw [← hW2]; exact HT.out); clear hW2 HA HB HK HT) | (refine wpList_store_row rfl 164 _ _ rfl w.heap.size opc0 rfl rfl 164 opc0 HK2.out HI5.out rfl opc0_one ?_; generalize hW3 : World.setRow _ _ _ = W3; have HB3 : Hid (Below w.heap.size w W3) := (by show Below _ _ _; rw [← hW3]; exact below_row HB2.out (Nat.le_refl _) _); have hk3 : W3.heap[w.heap.size]? = some (.cells opc0 164 (0, 0)) := (by rw [← hW3]; exact setRow_heap _ _ _ _ _ _ HK2.out); clear hW3))
    have c0 := cellAt hk3 0 _ rfl
    have c1 := cellAt hk3 1 _ rfl
    have c2 := cellAt hk3 2 _ rfl
    have c3 := cellAt hk3 3 _ rfl
    have c4 := cellAt hk3 4 _ rfl
    have c5 := cellAt hk3 5 _ rfl
    have c6 := cellAt hk3 6 _ rfl
    have c7 := cellAt hk3 7 _ rfl
    have z3 := ltHeap hk3
    refine bodyPost_ret (v := .tuple #[.agg opc0, .bool false]) (by simp [results, Tryz.f123, go_sem, c0, c1, c2, c3, c4, c5, c6, c7, opc0]) rfl ⟨rfl, HB3.out⟩
theorem opc1_one : opc1.all (·.oneCell') = true := by simp [opc1, Value.oneCell']
set_option maxRecDepth 100000 in
set_option maxHeartbeats 4000000 in
theorem find_1 (w : World) : Calls Tryz.prog 123 #[.int .i64 1] w fun e w' => e = .returned (.tuple #[.agg opc1, .bool true]) ∧ Below w.heap.size w w' := by
  go_enter Tryz.func123, Tryz.ntmps123
  go_wp2_with fail
  refine Calls.mono (ops_F _) ?_
  rintro e w1 ⟨rfl, hb1⟩
  have hk := heap_later (heap_alloc_last w (.cells opc0 164)) hb1
  have hB : Below w.heap.size w w1 := ((Below.refl w.heap.size w).alloc (Nat.le_refl _) _).trans (hb1.mono (by simp))
  have HA : Hid _ := heap_alloc_last w1 (.cells opsZ 175)
  have HT : Hid _ := setRow_heap _ _ _ opsC _ _ HA.out
  have HI : Hid _ := info81
  have HI5 : Hid _ := info65
  have H1 : Hid _ := opsC_one
  have HO : Hid (opsZ.size = opsC.size) := by show _ = _; rfl
  have HB : Hid (Below w.heap.size w ((w1.alloc (.cells opsZ 175)).setRow w1.heap.size opsC)) := below_row (hB.alloc hB.size _) hB.size _
  have HK : Hid (((w1.alloc (.cells opsZ 175)).setRow w1.heap.size opsC).heap[w.heap.size]? = some (.cells opc0 164 (0, 0))) := by
    have hlt := ltHeap hk
    exact (setRow_heap_other _ _ _ _ (by omega)).trans (heap_later hk ((Below.refl _ _).alloc (Nat.le_refl _) _))
  have hlt9 := ltHeap hk
  clear hb1 hk hB
  go_wp2_with (first | (refine wpList_store_row rfl 175 _ _ rfl w1.heap.size opsC rfl rfl 175 opsZ HA.out HI.out HO.out H1.out ?_; generalize hW2 : World.setRow _ _ _ = W2; have HB2 : Hid (Below w.heap.size w W2) := (by show Below _ _ _; rw [← hW2]; exact HB.out); have HK2 : Hid (W2.heap[w.heap.size]? = some (.cells opc0 164 (0, 0))) := (by show _ = _; rw [← hW2]; exact HK.out); have HT2 : Hid (W2.heap[w1.heap.size]? = some (.cells opsC 175 (0, 0))) := (by show _ = _; rw [← hW2]; exact HT.out); clear hW2 HA HB HK HT; have d0 := cellAt HT2.out 8 _ rfl; have d1 := cellAt HT2.out 9 _ rfl; have d2 := cellAt HT2.out 10 _ rfl; have d3 := cellAt HT2.out 11 _ rfl; have d4 := cellAt HT2.out 12 _ rfl; have d5 := cellAt HT2.out 13 _ rfl; have d6 := cellAt HT2.out 14 _ rfl; have d7 := cellAt HT2.out 15 _ rfl) | (refine wpList_store_row rfl 164 _ _ rfl w.heap.size opc1 rfl rfl 164 opc0 HK2.out HI5.out rfl opc1_one ?_; generalize hW3 : World.setRow _ _ _ = W3; have HB3 : Hid (Below w.heap.size w W3) := (by show Below _ _ _; rw [← hW3]; exact below_row HB2.out (Nat.le_refl _) _); have hk3 : W3.heap[w.heap.size]? = some (.cells opc1 164 (0, 0)) := (by rw [← hW3]; exact setRow_heap _ _ _ _ _ _ HK2.out); clear hW3))
  have c0 := cellAt hk3 0 _ rfl
  have c1 := cellAt hk3 1 _ rfl
  have c2 := cellAt hk3 2 _ rfl
  have c3 := cellAt hk3 3 _ rfl
  have c4 := cellAt hk3 4 _ rfl
  have c5 := cellAt hk3 5 _ rfl
  have c6 := cellAt hk3 6 _ rfl
  have c7 := cellAt hk3 7 _ rfl
  have z3 := ltHeap hk3
  refine bodyPost_ret (v := .tuple #[.agg opc1, .bool true]) (by simp [results, Tryz.f123, go_sem, c0, c1, c2, c3, c4, c5, c6, c7, opc1]) rfl ⟨rfl, HB3.out⟩
theorem opc2_one : opc2.all (·.oneCell') = true := by simp [opc2, Value.oneCell']
set_option maxRecDepth 100000 in
set_option maxHeartbeats 4000000 in
theorem find_2 (w : World) : Calls Tryz.prog 123 #[.int .i64 2] w fun e w' => e = .returned (.tuple #[.agg opc2, .bool true]) ∧ Below w.heap.size w w' := by
  go_enter Tryz.func123, Tryz.ntmps123
  go_wp2_with fail
  refine Calls.mono (ops_F _) ?_
  rintro e w1 ⟨rfl, hb1⟩
  have hk := heap_later (heap_alloc_last w (.cells opc0 164)) hb1
  have hB : Below w.heap.size w w1 := ((Below.refl w.heap.size w).alloc (Nat.le_refl _) _).trans (hb1.mono (by simp))
  have HA : Hid _ := heap_alloc_last w1 (.cells opsZ 175)
  have HT : Hid _ := setRow_heap _ _ _ opsC _ _ HA.out
  have HI : Hid _ := info81
  have HI5 : Hid _ := info65
  have H1 : Hid _ := opsC_one
  have HO : Hid (opsZ.size = opsC.size) := by show _ = _; rfl
  have HB : Hid (Below w.heap.size w ((w1.alloc (.cells opsZ 175)).setRow w1.heap.size opsC)) := below_row (hB.alloc hB.size _) hB.size _
  have HK : Hid (((w1.alloc (.cells opsZ 175)).setRow w1.heap.size opsC).heap[w.heap.size]? = some (.cells opc0 164 (0, 0))) := by
    have hlt := ltHeap hk
    exact (setRow_heap_other _ _ _ _ (by omega)).trans (heap_later hk ((Below.refl _ _).alloc (Nat.le_refl _) _))
  have hlt9 := ltHeap hk
  clear hb1 hk hB
  go_wp2_with (first | (refine wpList_store_row rfl 175 _ _ rfl w1.heap.size opsC rfl rfl 175 opsZ HA.out HI.out HO.out H1.out ?_; generalize hW2 : World.setRow _ _ _ = W2; have HB2 : Hid (Below w.heap.size w W2) := (by show Below _ _ _; rw [← hW2]; exact HB.out); have HK2 : Hid (W2.heap[w.heap.size]? = some (.cells opc0 164 (0, 0))) := (by show _ = _; rw [← hW2]; exact HK.out); have HT2 : Hid (W2.heap[w1.heap.size]? = some (.cells opsC 175 (0, 0))) := (by show _ = _; rw [← hW2]; exact HT.out); clear hW2 HA HB HK HT; have d0 := cellAt HT2.out 16 _ rfl; have d1 := cellAt HT2.out 17 _ rfl; have d2 := cellAt HT2.out 18 _ rfl; have d3 := cellAt HT2.out 19 _ rfl; have d4 := cellAt HT2.out 20 _ rfl; have d5 := cellAt HT2.out 21 _ rfl; have d6 := cellAt HT2.out 22 _ rfl; have d7 := cellAt HT2.out 23 _ rfl) | (refine wpList_store_row rfl 164 _ _ rfl w.heap.size opc2 rfl rfl 164 opc0 HK2.out HI5.out rfl opc2_one ?_; generalize hW3 : World.setRow _ _ _ = W3; have HB3 : Hid (Below w.heap.size w W3) := (by show Below _ _ _; rw [← hW3]; exact below_row HB2.out (Nat.le_refl _) _); have hk3 : W3.heap[w.heap.size]? = some (.cells opc2 164 (0, 0)) := (by rw [← hW3]; exact setRow_heap _ _ _ _ _ _ HK2.out); clear hW3))
  have c0 := cellAt hk3 0 _ rfl
  have c1 := cellAt hk3 1 _ rfl
  have c2 := cellAt hk3 2 _ rfl
  have c3 := cellAt hk3 3 _ rfl
  have c4 := cellAt hk3 4 _ rfl
  have c5 := cellAt hk3 5 _ rfl
  have c6 := cellAt hk3 6 _ rfl
  have c7 := cellAt hk3 7 _ rfl
  have z3 := ltHeap hk3
  refine bodyPost_ret (v := .tuple #[.agg opc2, .bool true]) (by simp [results, Tryz.f123, go_sem, c0, c1, c2, c3, c4, c5, c6, c7, opc2]) rfl ⟨rfl, HB3.out⟩
theorem opc3_one : opc3.all (·.oneCell') = true := by simp [opc3, Value.oneCell']
set_option maxRecDepth 100000 in
set_option maxHeartbeats 4000000 in
theorem find_3 (w : World) : Calls Tryz.prog 123 #[.int .i64 3] w fun e w' => e = .returned (.tuple #[.agg opc3, .bool true]) ∧ Below w.heap.size w w' := by
  go_enter Tryz.func123, Tryz.ntmps123
  go_wp2_with fail
  refine Calls.mono (ops_F _) ?_
  rintro e w1 ⟨rfl, hb1⟩
  have hk := heap_later (heap_alloc_last w (.cells opc0 164)) hb1
  have hB : Below w.heap.size w w1 := ((Below.refl w.heap.size w).alloc (Nat.le_refl _) _).trans (hb1.mono (by simp))
  have HA : Hid _ := heap_alloc_last w1 (.cells opsZ 175)
  have HT : Hid _ := setRow_heap _ _ _ opsC _ _ HA.out
  have HI : Hid _ := info81
  have HI5 : Hid _ := info65
  have H1 : Hid _ := opsC_one
  have HO : Hid (opsZ.size = opsC.size) := by show _ = _; rfl
  have HB : Hid (Below w.heap.size w ((w1.alloc (.cells opsZ 175)).setRow w1.heap.size opsC)) := below_row (hB.alloc hB.size _) hB.size _
  have HK : Hid (((w1.alloc (.cells opsZ 175)).setRow w1.heap.size opsC).heap[w.heap.size]? = some (.cells opc0 164 (0, 0))) := by
    have hlt := ltHeap hk
    exact (setRow_heap_other _ _ _ _ (by omega)).trans (heap_later hk ((Below.refl _ _).alloc (Nat.le_refl _) _))
  have hlt9 := ltHeap hk
  clear hb1 hk hB
  go_wp2_with (first | (refine wpList_store_row rfl 175 _ _ rfl w1.heap.size opsC rfl rfl 175 opsZ HA.out HI.out HO.out H1.out ?_; generalize hW2 : World.setRow _ _ _ = W2; have HB2 : Hid (Below w.heap.size w W2) := (by show Below _ _ _; rw [← hW2]; exact HB.out); have HK2 : Hid (W2.heap[w.heap.size]? = some (.cells opc0 164 (0, 0))) := (by show _ = _; rw [← hW2]; exact HK.out); have HT2 : Hid (W2.heap[w1.heap.size]? = some (.cells opsC 175 (0, 0))) := (by show _ = _; rw [← hW2]; exact HT.out); clear hW2 HA HB HK HT; have d0 := cellAt HT2.out 24 _ rfl; have d1 := cellAt HT2.out 25 _ rfl; have d2 := cellAt HT2.out 26 _ rfl; have d3 := cellAt HT2.out 27 _ rfl; have d4 := cellAt HT2.out 28 _ rfl; have d5 := cellAt HT2.out 29 _ rfl; have d6 := cellAt HT2.out 30 _ rfl; have d7 := cellAt HT2.out 31 _ rfl) | (refine wpList_store_row rfl 164 _ _ rfl w.heap.size opc3 rfl rfl 164 opc0 HK2.out HI5.out rfl opc3_one ?_; generalize hW3 : World.setRow _ _ _ = W3; have HB3 : Hid (Below w.heap.size w W3) := (by show Below _ _ _; rw [← hW3]; exact below_row HB2.out (Nat.le_refl _) _); have hk3 : W3.heap[w.heap.size]? = some (.cells opc3 164 (0, 0)) := (by rw [← hW3]; exact setRow_heap _ _ _ _ _ _ HK2.out); clear hW3))
  have c0 := cellAt hk3 0 _ rfl
  have c1 := cellAt hk3 1 _ rfl
  have c2 := cellAt hk3 2 _ rfl
  have c3 := cellAt hk3 3 _ rfl
  have c4 := cellAt hk3 4 _ rfl
  have c5 := cellAt hk3 5 _ rfl
  have c6 := cellAt hk3 6 _ rfl
  have c7 := cellAt hk3 7 _ rfl
  have z3 := ltHeap hk3
  refine bodyPost_ret (v := .tuple #[.agg opc3, .bool true]) (by simp [results, Tryz.f123, go_sem, c0, c1, c2, c3, c4, c5, c6, c7, opc3]) rfl ⟨rfl, HB3.out⟩
theorem opc4_one : opc4.all (·.oneCell') = true := by simp [opc4, Value.oneCell']
set_option maxRecDepth 100000 in
set_option maxHeartbeats 4000000 in
theorem find_4 (w : World) : Calls Tryz.prog 123 #[.int .i64 4] w fun e w' => e = .returned (.tuple #[.agg opc4, .bool true]) ∧ Below w.heap.size w w' := by
  go_enter Tryz.func123, Tryz.ntmps123
  go_wp2_with fail
  refine Calls.mono (ops_F _) ?_
  rintro e w1 ⟨rfl, hb1⟩
  have hk := heap_later (heap_alloc_last w (.cells opc0 164)) hb1
  have hB : Below w.heap.size w w1 := ((Below.refl w.heap.size w).alloc (Nat.le_refl _) _).trans (hb1.mono (by simp))
  have HA : Hid _ := heap_alloc_last w1 (.cells opsZ 175)
  have HT : Hid _ := setRow_heap _ _ _ opsC _ _ HA.out
  have HI : Hid _ := info81
  have HI5 : Hid _ := info65
  have H1 : Hid _ := opsC_one
  have HO : Hid (opsZ.size = opsC.size) := by show _ = _; rfl
  have HB : Hid (Below w.heap.size w ((w1.alloc (.cells opsZ 175)).setRow w1.heap.size opsC)) := below_row (hB.alloc hB.size _) hB.size _
  have HK : Hid (((w1.alloc (.cells opsZ 175)).setRow w1.heap.size opsC).heap[w.heap.size]? = some (.cells opc0 164 (0, 0))) := by
    have hlt := ltHeap hk
    exact (setRow_heap_other _ _ _ _ (by omega)).trans (heap_later hk ((Below.refl _ _).alloc (Nat.le_refl _) _))
  have hlt9 := ltHeap hk
  clear hb1 hk hB
  go_wp2_with (first | (refine wpList_store_row rfl 175 _ _ rfl w1.heap.size opsC rfl rfl 175 opsZ HA.out HI.out HO.out H1.out ?_; generalize hW2 : World.setRow _ _ _ = W2; have HB2 : Hid (Below w.heap.size w W2) := (by show Below _ _ _; rw [← hW2]; exact HB.out); have HK2 : Hid (W2.heap[w.heap.size]? = some (.cells opc0 164 (0, 0))) := (by show _ = _; rw [← hW2]; exact HK.out); have HT2 : Hid (W2.heap[w1.heap.size]? = some (.cells opsC 175 (0, 0))) := (by show _ = _; rw [← hW2]; exact HT.out); clear hW2 HA HB HK HT; have d0 := cellAt HT2.out 32 _ rfl; have d1 := cellAt HT2.out 33 _ rfl; have d2 := cellAt HT2.out 34 _ rfl; have d3 := cellAt HT2.out 35 _ rfl; have d4 := cellAt HT2.out 36 _ rfl; have d5 := cellAt HT2.out 37 _ rfl; have d6 := cellAt HT2.out 38 _ rfl; have d7 := cellAt HT2.out 39 _ rfl) | (refine wpList_store_row rfl 164 _ _ rfl w.heap.size opc4 rfl rfl 164 opc0 HK2.out HI5.out rfl opc4_one ?_; generalize hW3 : World.setRow _ _ _ = W3; have HB3 : Hid (Below w.heap.size w W3) := (by show Below _ _ _; rw [← hW3]; exact below_row HB2.out (Nat.le_refl _) _); have hk3 : W3.heap[w.heap.size]? = some (.cells opc4 164 (0, 0)) := (by rw [← hW3]; exact setRow_heap _ _ _ _ _ _ HK2.out); clear hW3))
  have c0 := cellAt hk3 0 _ rfl
  have c1 := cellAt hk3 1 _ rfl
  have c2 := cellAt hk3 2 _ rfl
  have c3 := cellAt hk3 3 _ rfl
  have c4 := cellAt hk3 4 _ rfl
  have c5 := cellAt hk3 5 _ rfl
  have c6 := cellAt hk3 6 _ rfl
  have c7 := cellAt hk3 7 _ rfl
  have z3 := ltHeap hk3
  refine bodyPost_ret (v := .tuple #[.agg opc4, .bool true]) (by simp [results, Tryz.f123, go_sem, c0, c1, c2, c3, c4, c5, c6, c7, opc4]) rfl ⟨rfl, HB3.out⟩
theorem opc5_one : opc5.all (·.oneCell') = true := by simp [opc5, Value.oneCell']
set_option maxRecDepth 100000 in
set_option maxHeartbeats 4000000 in
theorem find_5 (w : World) : Calls Tryz.prog 123 #[.int .i64 5] w fun e w' => e = .returned (.tuple #[.agg opc5, .bool true]) ∧ Below w.heap.size w w' := by
  go_enter Tryz.func123, Tryz.ntmps123
  go_wp2_with fail
  refine Calls.mono (ops_F _) ?_
  rintro e w1 ⟨rfl, hb1⟩
  have hk := heap_later (heap_alloc_last w (.cells opc0 164)) hb1
  have hB : Below w.heap.size w w1 := ((Below.refl w.heap.size w).alloc (Nat.le_refl _) _).trans (hb1.mono (by simp))
  have HA : Hid _ := heap_alloc_last w1 (.cells opsZ 175)
  have HT : Hid _ := setRow_heap _ _ _ opsC _ _ HA.out
  have HI : Hid _ := info81
  have HI5 : Hid _ := info65
  have H1 : Hid _ := opsC_one
  have HO : Hid (opsZ.size = opsC.size) := by show _ = _; rfl
  have HB : Hid (Below w.heap.size w ((w1.alloc (.cells opsZ 175)).setRow w1.heap.size opsC)) := below_row (hB.alloc hB.size _) hB.size _
  have HK : Hid (((w1.alloc (.cells opsZ 175)).setRow w1.heap.size opsC).heap[w.heap.size]? = some (.cells opc0 164 (0, 0))) := by
    have hlt := ltHeap hk
    exact (setRow_heap_other _ _ _ _ (by omega)).trans (heap_later hk ((Below.refl _ _).alloc (Nat.le_refl _) _))
  have hlt9 := ltHeap hk
  clear hb1 hk hB
  go_wp2_with (first | (refine wpList_store_row rfl 175 _ _ rfl w1.heap.size opsC rfl rfl 175 opsZ HA.out HI.out HO.out H1.out ?_; generalize hW2 : World.setRow _ _ _ = W2; have HB2 : Hid (Below w.heap.size w W2) := (by show Below _ _ _; rw [← hW2]; exact HB.out); have HK2 : Hid (W2.heap[w.heap.size]? = some (.cells opc0 164 (0, 0))) := (by show _ = _; rw [← hW2]; exact HK.out); have HT2 : Hid (W2.heap[w1.heap.size]? = some (.cells opsC 175 (0, 0))) := (by show _ = _; rw [← hW2]; exact HT.out); clear hW2 HA HB HK HT; have d0 := cellAt HT2.out 40 _ rfl; have d1 := cellAt HT2.out 41 _ rfl; have d2 := cellAt HT2.out 42 _ rfl; have d3 := cellAt HT2.out 43 _ rfl; have d4 := cellAt HT2.out 44 _ rfl; have d5 := cellAt HT2.out 45 _ rfl; have d6 := cellAt HT2.out 46 _ rfl; have d7 := cellAt HT2.out 47 _ rfl) | (refine wpList_store_row rfl 164 _ _ rfl w.heap.size opc5 rfl rfl 164 opc0 HK2.out HI5.out rfl opc5_one ?_; generalize hW3 : World.setRow _ _ _ = W3; have HB3 : Hid (Below w.heap.size w W3) := (by show Below _ _ _; rw [← hW3]; exact below_row HB2.out (Nat.le_refl _) _); have hk3 : W3.heap[w.heap.size]? = some (.cells opc5 164 (0, 0)) := (by rw [← hW3]; exact setRow_heap _ _ _ _ _ _ HK2.out); clear hW3))
  have c0 := cellAt hk3 0 _ rfl
  have c1 := cellAt hk3 1 _ rfl
  have c2 := cellAt hk3 2 _ rfl
  have c3 := cellAt hk3 3 _ rfl
  have c4 := cellAt hk3 4 _ rfl
  have c5 := cellAt hk3 5 _ rfl
  have c6 := cellAt hk3 6 _ rfl
  have c7 := cellAt hk3 7 _ rfl
  have z3 := ltHeap hk3
  refine bodyPost_ret (v := .tuple #[.agg opc5, .bool true]) (by simp [results, Tryz.f123, go_sem, c0, c1, c2, c3, c4, c5, c6, c7, opc5]) rfl ⟨rfl, HB3.out⟩
/-- what find answers, by number -/
def opcN (op : Int) : Array Value := if op = 1 then opc1 else if op = 2 then opc2 else if op = 3 then opc3 else if op = 4 then opc4 else if op = 5 then opc5 else opc0
def okN (op : Int) : Bool := decide (1 ≤ op ∧ op ≤ 5)
theorem find_F (op : Int) (w : World) : Calls Tryz.prog 123 #[.int .i64 op] w fun e w' => e = .returned (.tuple #[.agg (opcN op), .bool (okN op)]) ∧ Below w.heap.size w w' := by
  by_cases h : 1 ≤ op ∧ op ≤ 5
  · have : op = 1 ∨ op = 2 ∨ op = 3 ∨ op = 4 ∨ op = 5 := by omega
    rcases this with rfl | rfl | rfl | rfl | rfl
    · exact find_1 w
    · exact find_2 w
    · exact find_3 w
    · exact find_4 w
    · exact find_5 w
  · have e1 : opcN op = opc0 := by unfold opcN; rw [if_neg (by omega), if_neg (by omega), if_neg (by omega), if_neg (by omega), if_neg (by omega)]
    have e2 : okN op = false := decide_eq_false h
    rw [e1, e2]
    exact find_no op w h
end Go.Proofs.YtkoakingmnjdoaaGreatDoor
