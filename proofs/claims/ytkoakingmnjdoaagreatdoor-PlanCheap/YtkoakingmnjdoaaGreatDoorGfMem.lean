/- What Sum, Scale and AddScaled of package gf make, of all lists: sums and products, place by place, in new memory; nothing that was there turns. -/
import Derived.Test.YtkoakingmnjdoaaGreatDoorGfLawsW2
import Derived.RegionTactic
import Derived.Deep.WholeRow
namespace Go.Proofs.YtkoakingmnjdoaaGreatDoor
open Go.RowKit Gf
set_option maxRecDepth 20000
/-- an element as a value -/
def vf (x : F) : Value := .int .u8 (x.toNat : Int)
/-- a list as a block's cells -/
def vfs (xs : List F) : Array Value := (xs.map vf).toArray
theorem vfs_get (xs : List F) (j : Nat) (h : j < xs.length) : (vfs xs)[j]? = some (.int .u8 ((at8 xs j).toNat : Int)) := by
  simp [vfs, h, vf, at8]
theorem vfs_size (xs : List F) : (vfs xs).size = xs.length := by simp [vfs]
theorem vfs_set (xs : List F) (j : Nat) (x : F) : (vfs xs).setIfInBounds j (.int .u8 (x.toNat : Int)) = vfs (xs.set j x) := by
  apply Array.ext_getElem?
  intro i
  simp only [vfs, Array.getElem?_setIfInBounds, List.size_toArray, List.length_map, List.getElem?_toArray, List.getElem?_map, List.getElem?_set]
  by_cases h : j = i
  · subst h; by_cases h2 : j < xs.length <;> simp [h2, vf]
  · simp [h]
/-- the products of an element with the first k numbers, of 16 -/
def tab (x : F) (k : Nat) : List F := (List.range 16).map fun i => if i < k then gm x (el i) else 0
theorem tab_len (x : F) (k : Nat) : (tab x k).length = 16 := by simp [tab]
theorem tab_at (x : F) (k j : Nat) (h : j < 16) : at8 (tab x k) j = if j < k then gm x (el j) else 0 := by
  simp [tab, at8, h]
theorem tab_half (x : F) (k : Nat) (h : k < 16) : at8 (tab x k) (k / 2) = gm x (el (k / 2)) := by
  rw [tab_at x k _ (by omega)]
  by_cases h0 : k = 0
  · subst h0; rw [if_neg (by decide)]; exact (F.mul_zero x).symm
  · rw [if_pos (by omega)]
theorem tab_succ (x : F) (k : Nat) (h : k < 16) : (tab x k).set k (gm x (el k)) = tab x (k + 1) := by
  apply List.ext_getElem?
  intro i
  simp only [tab, List.getElem?_set, List.length_map, List.length_range, List.getElem?_map]
  by_cases hi : k = i
  · subst hi; simp [h]
  · by_cases h16 : i < 16
    · simp only [hi, if_false, List.getElem?_range h16, Option.map_some]
      by_cases hk : i < k
      · rw [if_pos hk, if_pos (by omega)]
      · rw [if_neg hk, if_neg (by omega)]
    · simp [hi, h16]
theorem el_half : ∀ k < 16, el k = ga (gm (el (k / 2)) gen) (el (k % 2)) := by decide +kernel
theorem tab_step (x : F) (k : Nat) (h : k < 16) : bits .xor .u8 (dblI ((gm x (el (k / 2))).toNat : Int)) ((k : Int) % 2 * (x.toNat : Int) % 256) = ((gm x (el k)).toNat : Int) := by
  have e1 : dblI ((gm x (el (k / 2))).toNat : Int) = ((gm (gm x (el (k / 2))) gen).toNat : Int) := by
    unfold dblI; rw [Int.toNat_natCast, dbl_eq _ (bl _), F.val_mul (gm x _) gen]; rfl
  have e2 : ((k : Int) % 2 * (x.toNat : Int) % 256) = ((gm x (el (k % 2))).toNat : Int) := by
    have hx := (bl x)
    have : k % 2 = 0 ∨ k % 2 = 1 := by omega
    rcases this with e | e
    · rw [e, show ((k : Int) % 2) = 0 from by omega, show gm x (el 0) = 0 from F.mul_zero x]; simp
    · rw [e, show ((k : Int) % 2) = 1 from by omega, show gm x (el 1) = x from F.mul_one x]; omega
  rw [e1, e2, xor_val, F.mul_assoc, ← F.mul_add, ← el_half k h]
theorem vfs_one (xs : List F) : (vfs xs).all (·.oneCell') = true := by
  rw [Array.all_eq_true_iff_forall_mem]
  intro v hv
  simp only [vfs, List.mem_toArray, List.mem_map] at hv
  obtain ⟨x, _, rfl⟩ := hv
  rfl
theorem info16 (xs : List F) (h : xs.length = 16) : (Tryz.prog.info? 181).map (·.size) = some (vfs xs).size := by
  rw [vfs_size, h]; kernel_rfl
theorem setRow_heap_other (w : World) (g k : Nat) (cs : Array Value) (h : k ≠ g) : (w.setRow g cs).heap[k]? = w.heap[k]? := by
  simp only [World.setRow, Array.getElem?_modify]
  rw [if_neg (fun e => h e.symm)]
theorem below_row {B g : Nat} {w0 w : World} (hb : Below B w0 w) (hBg : B ≤ g) (cs : Array Value) : Below B w0 (w.setRow g cs) :=
  hb.trans ⟨rfl, rfl, rfl, by simp, fun k hk => setRow_heap_other w g k cs (by omega)⟩
set_option maxHeartbeats 1000000 in
theorem multiples_F (x : F) (w : World) :
    Calls Tryz.prog 136 #[.int .u8 x.toNat] w fun e w' => e = .returned (.agg (vfs (tab x 16))) ∧ Below w.heap.size w w' := by
  have HZ : Hid (#[Value.int .u8 0, .int .u8 0, .int .u8 0, .int .u8 0, .int .u8 0, .int .u8 0, .int .u8 0, .int .u8 0, .int .u8 0, .int .u8 0, .int .u8 0, .int .u8 0, .int .u8 0, .int .u8 0, .int .u8 0, .int .u8 0] = vfs (tab x 0)) := by show _ = _; simp [vfs, tab]; rfl
  go_enter Tryz.func136, Tryz.ntmps136
  go_wp2
  rw [HZ.out]
  go_loopw [5] (fun i w' => ∃ k : Nat, k ≤ 16 ∧ i = .int .i64 k ∧ w' = (w.alloc (.cells (vfs (tab x 0)) 181)).alloc (.cells (vfs (tab x k)) 181)) (fun i _ => 16 - (intOf i).toNat)
  case atStart => exact ⟨0, by omega, rfl, rfl⟩
  case round =>
    obtain ⟨k, hk, rfl, rfl⟩ := hrel
    by_cases hlt : k < 16
    · have hc := vfs_get (tab x k) (k / 2) (by rw [tab_len]; omega)
      rw [tab_half x k hlt] at hc
      have hb := F.bd (gm x (el (k / 2)))
      have hsz : k < (vfs (tab x k)).size := by rw [vfs_size, tab_len]; omega
      have HS : Hid _ := tab_step x k hlt
      have HT : Hid ((vfs (tab x k)).setIfInBounds k (.int .u8 ((gm x (el k)).toNat : Int)) = vfs (tab x (k + 1))) := by rw [vfs_set, tab_succ x k hlt]; rfl
      go_wp2_with (go_at_call 151; refine (double_any _ _ hb.1 hb.2).mono ?_; rintro e w' ⟨rfl, rfl⟩)
      exact ⟨⟨k + 1, by omega, by go_num, by rw [HS.out, HT.out]⟩, by simp [intOf]; omega⟩
    · have : k = 16 := by omega
      subst this
      have hA := heap_alloc2_new w (.cells (vfs (tab x 0)) 181) (.cells (vfs (tab x 16)) 181)
      have hB := heap_alloc2_old w (.cells (vfs (tab x 0)) 181) (.cells (vfs (tab x 16)) 181)
      have hi := info16 (tab x 16) (tab_len x 16)
      have ho : (vfs (tab x 0)).size = (vfs (tab x 16)).size := by rw [vfs_size, vfs_size, tab_len, tab_len]
      have h1 := vfs_one (tab x 16)
      have HA : Hid _ := hA
      have HB : Hid _ := hB
      have HI : Hid _ := hi
      have HO : Hid _ := ho
      have H1 : Hid _ := h1
      clear hA hB hi ho h1
      go_wp2_with (first | (refine wpList_load_row rfl 181 _ rfl (w.heap.size + 1) rfl 181 (vfs (tab x 16)) _ _ HA.out Tryz.underlying181 rfl HI.out ?_) | (refine wpList_store_row rfl 181 _ _ rfl w.heap.size (vfs (tab x 16)) rfl rfl 181 (vfs (tab x 0)) HB.out HI.out HO.out H1.out ?_))
      refine bodyPost_ret (v := .agg (vfs (tab x 16))) (results_cell_row rfl _ _ w.heap.size 181 _ (0, 0) _ rfl (setRow_heap _ _ _ _ _ _ HB.out) Tryz.underlying181 rfl HI.out) rfl ⟨rfl, ?_⟩
      exact below_row ((((Below.refl _ _).alloc (Nat.le_refl _) _).alloc (by simp) _)) (Nat.le_refl _) _
/-- sixteen zeros, as Go lays a new array -/
def zero16 : Array Value := #[Value.int .u8 0, .int .u8 0, .int .u8 0, .int .u8 0, .int .u8 0, .int .u8 0, .int .u8 0, .int .u8 0, .int .u8 0, .int .u8 0, .int .u8 0, .int .u8 0, .int .u8 0, .int .u8 0, .int .u8 0, .int .u8 0]
theorem mul_16 (x : F) (w : World) : Calls Tryz.prog 137 #[.int .u8 x.toNat, .int .u8 16] w fun e w' => e = .returned (.int .u8 (gm x (el 16)).toNat) ∧ w = w' := mul_F x (el 16) w
set_option maxHeartbeats 1000000 in
theorem adder_F (x : F) (w : World) :
    Calls Tryz.prog 129 #[.int .u8 x.toNat] w fun e w' => ∃ g, e = .returned (.func (.func 138) #[] #[.pointer (some ⟨g, 0, none⟩), .pointer (some ⟨g + 1, 0, none⟩)]) ∧ w.heap.size ≤ g ∧ Below w.heap.size w w' ∧
      w'.heap[g]? = some (.cells (vfs (tab x 16)) 181 (0, 0)) ∧ w'.heap[g + 1]? = some (.cells (vfs (tab (gm x (el 16)) 16)) 181 (0, 0)) := by
  go_enter Tryz.func129, Tryz.ntmps129
  go_wp2_with fail
  refine Calls.mono (multiples_F x _) ?_
  rintro e w1 ⟨rfl, hb1⟩
  go_wp2_with fail
  refine Calls.mono (mul_16 x _) ?_
  rintro e w' ⟨rfl, rfl⟩
  go_wp2_with fail
  refine Calls.mono (multiples_F (gm x (el 16)) _) ?_
  rintro e w2 ⟨rfl, hb2⟩
  have HA : Hid _ := heap_alloc2_old w2 (.cells zero16 181) (.cells zero16 181)
  have HB : Hid _ := heap_alloc2_new w2 (.cells zero16 181) (.cells zero16 181)
  have HI1 : Hid _ := info16 (tab x 16) (tab_len x 16)
  have HI2 : Hid _ := info16 (tab (gm x (el 16)) 16) (tab_len _ 16)
  have H1 : Hid _ := vfs_one (tab x 16)
  have H2 : Hid _ := vfs_one (tab (gm x (el 16)) 16)
  have HO1 : Hid (zero16.size = (vfs (tab x 16)).size) := by rw [vfs_size, tab_len]; rfl
  have HO2 : Hid (zero16.size = (vfs (tab (gm x (el 16)) 16)).size) := by rw [vfs_size, tab_len]; rfl
  have HC : Hid _ := (setRow_heap_other _ w2.heap.size (w2.heap.size + 1) (vfs (tab x 16)) (by omega)).trans HB.out
  go_wp2_with (first | (refine wpList_store_row rfl 181 _ _ rfl w2.heap.size (vfs (tab x 16)) rfl rfl 181 zero16 HA.out HI1.out HO1.out H1.out ?_) | (refine wpList_store_row rfl 181 _ _ rfl (w2.heap.size + 1) (vfs (tab (gm x (el 16)) 16)) rfl rfl 181 zero16 HC.out HI2.out HO2.out H2.out ?_))
  go_ret
  have hz1 := hb1.size
  have hz2 := hb2.size
  refine ⟨w2.heap.size, rfl, by omega, ?_, ?_, setRow_heap _ _ _ _ _ _ HC.out⟩
  · exact below_row (below_row ((((hb1.trans (hb2.mono hz1)).alloc (by omega) _).alloc (by simp; omega) _)) (by omega) _) (by omega) _
  · exact (setRow_heap_other _ _ _ _ (by omega)).trans (setRow_heap _ _ _ _ _ _ HA.out)
/-- a list with c times another added, place by place -/
def acc (c : F) : List F → List F → List F
  | z :: zs, y :: ys => ga z (gm c y) :: acc c zs ys
  | zs, _ => zs
theorem acc_nil (c : F) (zs : List F) : acc c zs [] = zs := by cases zs <;> rfl
theorem acc_len (c : F) : ∀ zs ys : List F, (acc c zs ys).length = zs.length
  | [], _ => rfl
  | _ :: _, [] => rfl
  | z :: zs, y :: ys => by simp [acc, acc_len c zs ys]
theorem acc_at (c : F) : ∀ (zs ys : List F) (k : Nat), ys.length ≤ k → at8 (acc c zs ys) k = at8 zs k
  | [], _, _, _ => rfl
  | _ :: _, [], _, _ => rfl
  | z :: zs, y :: ys, 0, h => absurd h (by simp)
  | z :: zs, y :: ys, k + 1, h => acc_at c zs ys k (by simpa using h)
theorem acc_step (c : F) : ∀ (zs ys : List F) (k : Nat), k < ys.length → k < zs.length → (acc c zs (ys.take k)).set k (ga (at8 zs k) (gm c (at8 ys k))) = acc c zs (ys.take (k + 1))
  | [], _, _, _, h => absurd h (Nat.not_lt_zero _)
  | _ :: _, [], _, h, _ => absurd h (Nat.not_lt_zero _)
  | z :: zs, y :: ys, 0, _, _ => by simp [acc, acc_nil, at8]
  | z :: zs, y :: ys, k + 1, h1, h2 => by
    have := acc_step c zs ys k (by simpa using h1) (by simpa using h2)
    simp only [List.take_succ_cons, acc, List.set_cons_succ, at8_cons_succ]
    rw [this]
theorem el_split : ∀ k < 256, el k = ga (el (k % 16)) (gm (el 16) (el (k / 16))) := by decide +kernel
theorem add_step (x y z : F) : bits .xor .u8 (z.toNat : Int) (bits .xor .u8 ((gm x (el (y.toNat % 16))).toNat : Int) ((gm (gm x (el 16)) (el (y.toNat / 16))).toNat : Int)) = ((ga z (gm x y)).toNat : Int) := by
  rw [xor_val, xor_val, F.mul_assoc, ← F.mul_add, ← el_split y.toNat (bl y), el_self]
theorem grownBy_drew {w w' : World} {r : Option Nat} (h : w.grownBy w' r) : w.grownBy w'.drew r := ⟨h.os, h.tape, h.output, h.size, h.block⟩
theorem grownBy_setCell {w w' : World} {g : Nat} {i : Nat} (h : w.grownBy w' (some g)) (v : Value) : w.grownBy (w'.setCell ⟨g, i, none⟩ v) (some g) :=
  ⟨h.os, h.tape, h.output, by simpa [World.setCell] using h.size, fun k hk hne => (heap_setCell_other _ _ _ _ (fun e => hne (by rw [e]))).trans (h.block k hk hne)⟩
set_option maxHeartbeats 1000000 in
theorem kernel_F (x : F) (sb n cs b off len cb t1 t2 : Nat) (zs ys : List F) (W : World) (hn : n = zs.length) (hlen : len = ys.length) (hm : len ≤ maxLen) (hle : ys.length ≤ zs.length)
    (ho : W.heap[sb]? = some (.cells (vfs zs) 5 (0, 0))) (hbs : b ≠ sb) (h1s : t1 ≠ sb) (h2s : t2 ≠ sb)
    (hy : ∀ j, j < ys.length → W.cell? ⟨b, off + j, none⟩ = some (.int .u8 ((at8 ys j).toNat : Int)))
    (h1 : W.heap[t1]? = some (.cells (vfs (tab x 16)) 181 (0, 0))) (h2 : W.heap[t2]? = some (.cells (vfs (tab (gm x (el 16)) 16)) 181 (0, 0))) :
    Calls Tryz.prog 138 #[.slice (some ⟨sb, 0, none⟩) n cs, .slice (some ⟨b, off, none⟩) len cb, .pointer (some ⟨t1, 0, none⟩), .pointer (some ⟨t2, 0, none⟩)] W fun e w' => e = .returned (.tuple #[]) ∧
      W.grownBy w' (some sb) ∧ w'.heap[sb]? = some (.cells (vfs (acc x zs ys)) 5 (0, 0)) := by
  unfold maxLen at hm
  subst hn hlen
  go_enter Tryz.func138, Tryz.ntmps138
  go_wp2
  go_loopw [10] (fun i wr => ∃ k : Nat, k ≤ ys.length ∧ i = .int .i64 k ∧ W.grownBy wr (some sb) ∧ wr.heap[sb]? = some (.cells (vfs (acc x zs (ys.take k))) 5 (0, 0))) (fun i _ => ys.length - (intOf i).toNat)
  case atStart => exact ⟨0, by omega, rfl, ⟨rfl, rfl, rfl, Nat.le_refl _, fun _ _ _ => rfl⟩, by rw [List.take_zero, acc_nil]; exact ho⟩
  case round =>
    obtain ⟨k, hk, rfl, hgb, hs⟩ := hrel
    by_cases hlt : k < ys.length
    · have c1 : wr.cell? ⟨sb, k, none⟩ = some (.int .u8 ((at8 zs k).toNat : Int)) := by
        rw [cell_of_row _ _ _ _ _ _ hs, vfs_get _ _ (by rw [acc_len]; omega), acc_at x zs (ys.take k) k (by simp; omega)]
      have c2 : wr.frozen? ⟨sb, k, none⟩ = false := frozen_of_row _ _ _ _ _ hs
      have c3 : wr.cell? ⟨b, off + k, none⟩ = some (.int .u8 ((at8 ys k).toNat : Int)) := hgb.cell (hy k hlt) (by simpa using hbs)
      have hkz : k < zs.length := by omega
      have q1 : wr.heap[t1]? = some (.cells (vfs (tab x 16)) 181 (0, 0)) := (hgb.block t1 (Array.getElem?_eq_some_iff.1 h1).1 (by simpa using h1s)).trans h1
      have q2 : wr.heap[t2]? = some (.cells (vfs (tab (gm x (el 16)) 16)) 181 (0, 0)) := (hgb.block t2 (Array.getElem?_eq_some_iff.1 h2).1 (by simpa using h2s)).trans h2
      have c4 : wr.cell? ⟨t1, (at8 ys k).toNat % 16, none⟩ = some (.int .u8 ((gm x (el ((at8 ys k).toNat % 16))).toNat : Int)) := by
        rw [cell_of_row _ _ _ _ _ _ q1, vfs_get _ _ (by rw [tab_len]; omega), tab_at _ _ _ (by omega), if_pos (by omega)]
      have c5 : wr.cell? ⟨t2, (at8 ys k).toNat / 16, none⟩ = some (.int .u8 ((gm (gm x (el 16)) (el ((at8 ys k).toNat / 16))).toNat : Int)) := by
        have := (bl (at8 ys k))
        rw [cell_of_row _ _ _ _ _ _ q2, vfs_get _ _ (by rw [tab_len]; omega), tab_at _ _ _ (by omega), if_pos (by omega)]
      have HG : Hid _ := hgb
      have HS : Hid _ := hs
      have HA : Hid _ := add_step x (at8 ys k) (at8 zs k)
      have HT : Hid _ := acc_step x zs ys k hlt hkz
      have hyb := (bl (at8 ys k))
      have r1 : bits .and .u8 ((at8 ys k).toNat : Int) 15 = (((at8 ys k).toNat % 16 : Nat) : Int) := by
        rw [u8_and15 _ (by omega) (by omega)]; omega
      have r2 : ((at8 ys k).toNat : Int) / 16 = (((at8 ys k).toNat / 16 : Nat) : Int) := by omega
      generalize hlo : (at8 ys k).toNat % 16 = lo at c4 r1 HA
      generalize hhi : (at8 ys k).toNat / 16 = hi at c5 r2 HA
      have l1 : lo < 16 := by omega
      have l2 : hi < 16 := by omega
      clear ho hy h1 h2 hs hgb q1 q2 hlo hhi
      go_wp2
      go_region
      go_wp2
      refine ⟨⟨k + 1, by omega, by go_num, ?_, ?_⟩, by simp [intOf]; omega⟩
      · exact grownBy_drew (grownBy_setCell HG.out _)
      · show (wr.setCell _ _).heap[sb]? = _
        rw [HA.out, heap_setCell_same _ _ _ _ _ _ HS.out, vfs_set, HT.out]
    · have hk' : k = ys.length := by omega
      have HK : Hid _ := hk'
      have HG : Hid _ := hgb
      have HS : Hid _ := hs
      clear hk' hgb hs ho hy h1 h2
      go_wp2
      go_end0
      refine ⟨rfl, HG.out, ?_⟩
      rw [HS.out, HK.out, List.take_length]
set_option maxHeartbeats 400000 in
theorem kernel_none (s : Value) (a : Option Addr) (cb : Nat) (p q : Value) (W : World) :
    Calls Tryz.prog 138 #[s, .slice a 0 cb, p, q] W fun e w' => e = .returned (.tuple #[]) ∧ W = w' := by
  go_enter Tryz.func138, Tryz.ntmps138
  go_wp2
  refine wp_loop_rounds 1 ?_
  rw [rounds_succ]
  go_wp2
  go_end0
  exact ⟨rfl, rfl⟩
/-- n zeros -/
def zeros (n : Nat) : List F := List.replicate n 0
theorem zeros_len (n : Nat) : (zeros n).length = n := by simp [zeros]
theorem at8_zeros (n j : Nat) : at8 (zeros n) j = 0 := by
  unfold at8 zeros; rw [List.getD_eq_getElem?_getD, List.getElem?_replicate]; split <;> rfl
theorem made8 (n : Nat) : madeCells (Value.int .u8 0).cells n = vfs (zeros n) := by
  apply Array.ext_getElem?
  intro i
  by_cases h : i < n <;> simp [madeCells, vfs, zeros, vf, Value.cells, h, Nat.mod_one]
theorem run_make8 (n : Nat) (hn : n ≤ 281474976710656) (w : World) :
    (Instr.makeSlice 23 (.int .i64 (n : Int)) (.int .i64 (n : Int))).run Tryz.prog w = .ok (.slice (some ⟨w.heap.size, 0, none⟩) n n) (w.alloc (.cells (vfs (zeros n)) 5)) := by
  have hi : (Tryz.prog.info? 5).map (fun i => (i.size, i.bytes, i.zero)) = some (1, 1, some (.int .u8 0)) := by kernel_rfl
  cases hq : Tryz.prog.info? 5 with
  | none => simp [hq] at hi
  | some i =>
    simp only [hq, Option.map_some, Option.some.injEq, Prod.mk.injEq] at hi
    have := run_make (P := Tryz.prog) w 23 5 i _ Tryz.underlying23 hq hi.2.2 .i64 .i64 n n (by omega) (by omega) (by rw [hi.2.1]; omega) (by omega)
    rw [this, hi.1]
    simp only [Int.toNat_natCast, Nat.mul_one, made8]
set_option maxRecDepth 10000 in
theorem run_copy8 (g : Nat) (n c : Nat) (a : Option Addr) (la ca : Nat) (zs xs : List F) (w : World) (ty : TypeId) (hn : n = zs.length) (hla : la = xs.length) (hle : xs.length ≤ zs.length)
    (hg : w.heap[g]? = some (.cells (vfs zs) 5 (0, 0))) (hx : Row8 w a xs) :
    (Builtin.copy_ #[23, 23] ty #[.slice (some ⟨g, 0, none⟩) n c, .slice a la ca]).run Tryz.prog w = .ok (goInt xs.length) (w.setRow g (vfs (xs ++ zs.drop xs.length))) := by
  have hs : (Tryz.prog.info? 5).map (·.size) = some 1 := by kernel_rfl
  subst hn hla
  rcases hx with rfl | ⟨b, off, rfl, hx⟩
  · rw [run_copy_none w _ _ _ _ _ _ _ _ _ _ Tryz.underlying23 hs (by simp)]
    simp only [List.length_nil, List.drop_zero, List.nil_append]
    rw [setRow_self w g _ _ _ hg]
    rfl
  · have := run_copy_row (P := Tryz.prog) w 23 23 ty 5 g 0 zs.length c ⟨b, off, none⟩ xs.length ca (vfs zs) 5 (xs.map vf) Tryz.underlying23 hs hg
      (by show _ = min _ _; rw [List.length_map]; omega) (fun j v hv => by
        simp only [List.getElem?_map, Option.map_eq_some_iff] at hv
        obtain ⟨x, hx1, rfl⟩ := hv
        have hj : j < xs.length := (List.getElem?_eq_some_iff.1 hx1).1
        have e : at8 xs j = x := by simp [at8, hx1]
        have hadd : (⟨b, off, none⟩ : Addr).add j = ⟨b, off + j, none⟩ := by unfold Addr.add; split <;> simp_all
        rw [hadd, hx j hj, e]; rfl) (by simp [vfs_size]; omega) (fun v hv => by
        simp only [List.mem_map] at hv
        obtain ⟨x, _, rfl⟩ := hv
        rfl)
    rw [this]
    congr 2
    · simp
    · simp [vfs]
/-- what AddScaled makes: the longer list's length, zeros where a list ends -/
def scaled (c : F) (xs ys : List F) : List F := acc c (xs ++ (zeros (max xs.length ys.length)).drop xs.length) ys
theorem scaled_len (c : F) (xs ys : List F) : (scaled c xs ys).length = max xs.length ys.length := by
  unfold scaled; rw [acc_len, List.length_append, List.length_drop, zeros_len]; omega
theorem row8_alloc {w : World} {a : Option Addr} {xs : List F} (h : Row8 w a xs) (o : Obj) : Row8 (w.alloc o) a xs := by
  rcases h with rfl | ⟨b, off, rfl, h⟩
  · exact .inl rfl
  · exact .inr ⟨b, off, rfl, fun j hj => by
      have := h j hj
      rw [World.cell?_alloc_lt _ _ _ (World.block_lt_of_cell? w _ this)]; exact this⟩
theorem row8_below {w w' : World} {a : Option Addr} {xs : List F} (h : Row8 w a xs) (hb : Below w.heap.size w w') : Row8 w' a xs := by
  rcases h with rfl | ⟨b, off, rfl, h⟩
  · exact .inl rfl
  · exact .inr ⟨b, off, rfl, fun j hj => cell_later hb (h j hj)⟩
theorem kernel_any (x : F) (sb n cs : Nat) (b : Option Addr) (len cb t1 t2 : Nat) (zs ys : List F) (w W : World) (hn : n = zs.length) (hlen : len = ys.length) (hm : len ≤ 140737488355328) (hle : ys.length ≤ zs.length)
    (hb : Below w.heap.size w W) (hsb : w.heap.size ≤ sb) (hst : sb < t1 ∧ sb < t2)
    (ho : W.heap[sb]? = some (.cells (vfs zs) 5 (0, 0))) (hy : Row8 w b ys)
    (h1 : W.heap[t1]? = some (.cells (vfs (tab x 16)) 181 (0, 0))) (h2 : W.heap[t2]? = some (.cells (vfs (tab (gm x (el 16)) 16)) 181 (0, 0))) :
    Calls Tryz.prog 138 #[.slice (some ⟨sb, 0, none⟩) n cs, .slice b len cb, .pointer (some ⟨t1, 0, none⟩), .pointer (some ⟨t2, 0, none⟩)] W fun e w' => e = .returned (.tuple #[]) ∧
      W.grownBy w' (some sb) ∧ w'.heap[sb]? = some (.cells (vfs (acc x zs ys)) 5 (0, 0)) := by
  by_cases h0 : ys = []
  · subst h0
    subst hlen
    exact (kernel_none _ _ _ _ _ _).mono fun e w' ⟨he, hw⟩ => ⟨he, by rw [← hw]; exact ⟨rfl, rfl, rfl, Nat.le_refl _, fun _ _ _ => rfl⟩, by rw [← hw, acc_nil]; exact ho⟩
  · rcases hy with e | ⟨bb, off, rfl, hy⟩
    · exact absurd e h0
    · have hl : 0 < ys.length := List.length_pos_iff.2 h0
      have hlt := World.block_lt_of_cell? w _ (hy 0 hl)
      simp at hlt
      exact kernel_F x sb n cs bb off len cb t1 t2 zs ys W hn hlen (by simp only [maxLen]; omega) hle ho (by omega) (by omega) (by omega) (fun j hj => cell_later hb (hy j hj)) h1 h2
set_option maxHeartbeats 1000000 in
theorem addScaled_F (x : F) (a b : Option Addr) (la ca lb cb : Nat) (xs ys : List F) (w : World) (hla : la = xs.length) (hlb : lb = ys.length) (ha : la ≤ 140737488355328) (hb : lb ≤ 140737488355328)
    (hx : Row8 w a xs) (hy : Row8 w b ys) :
    Calls Tryz.prog 122 #[.slice a la ca, .int .u8 x.toNat, .slice b lb cb] w fun e w' => ∃ g n, e = .returned (.slice (some ⟨g, 0, none⟩) n n) ∧ n = (scaled x xs ys).length ∧ w.heap.size ≤ g ∧
      Below w.heap.size w w' ∧ w'.heap[g]? = some (.cells (vfs (scaled x xs ys)) 5 (0, 0)) := by
  subst hla hlb
  rcases Nat.lt_or_ge xs.length ys.length with h | h
  · have hm := Nat.max_eq_right (Nat.le_of_lt h)
    have HM : Hid _ := hm
    have hmk := run_make8 ys.length (by omega) w
    have HP : Hid (w.alloc (.cells (vfs (zeros ys.length)) 5) |>.heap[w.heap.size]? |> (· = some (.cells (vfs (zeros ys.length)) 5 (0, 0)))) := heap_alloc_last w _
    have hx1 : Row8 (w.alloc (.cells (vfs (zeros ys.length)) 5)) a xs := row8_alloc hx _
    have hcp := run_copy8 w.heap.size ys.length ys.length a xs.length ca (zeros ys.length) xs (w.alloc (.cells (vfs (zeros ys.length)) 5)) 3 (zeros_len _).symm rfl (by rw [zeros_len]; omega) HP.out hx1
    rw [World.setRow_alloc_new] at hcp
    have HX : Hid _ := hx
    have HY : Hid _ := hy
    clear hm hx1 hx hy
    go_enter Tryz.func122, Tryz.ntmps122
    go_wp2_with fail
    refine Calls.mono (adder_F x _) ?_
    rintro e w2 ⟨g, rfl, hg, hb2, h1, h2⟩
    have hsz := hb2.size
    have hB : Below w.heap.size w w2 := ((Below.refl _ _).alloc (Nat.le_refl _) _).trans (hb2.mono (by simp))
    have hO := (hb2.block w.heap.size (by simp)).trans (heap_alloc_last w (.cells (vfs (xs ++ (zeros ys.length).drop xs.length)) 5))
    have hB' : Hid _ := hB
    have hO' : Hid _ := hO
    have h1' : Hid _ := h1
    have h2' : Hid _ := h2
    simp at hg hsz
    clear hB hO h1 h2 hmk hcp
    go_wp2_with fail
    refine Calls.mono (kernel_any x w.heap.size _ _ b _ cb g (g + 1) (xs ++ (zeros ys.length).drop xs.length) ys w _ (by rw [List.length_append, List.length_drop, zeros_len]; omega) rfl (by omega) (by rw [List.length_append, List.length_drop, zeros_len]; omega) hB'.out (Nat.le_refl _) (by omega) hO'.out HY.out h1'.out h2'.out) ?_
    rintro e w3 ⟨rfl, hgb, hh⟩
    go_wp2_with fail
    go_ret
    refine ⟨w.heap.size, _, rfl, ?_, Nat.le_refl _, ?_, ?_⟩
    · rw [scaled_len]; omega
    · exact hB'.out.trans ⟨hgb.os, hgb.tape, hgb.output, hgb.size, fun k hk => hgb.block k (by omega) (by simp; omega)⟩
    · rw [hh]; unfold scaled; rw [HM.out]
  · have hm := Nat.max_eq_left h
    have HM : Hid _ := hm
    have hmk := run_make8 xs.length (by omega) w
    have HP : Hid (w.alloc (.cells (vfs (zeros xs.length)) 5) |>.heap[w.heap.size]? |> (· = some (.cells (vfs (zeros xs.length)) 5 (0, 0)))) := heap_alloc_last w _
    have hx1 : Row8 (w.alloc (.cells (vfs (zeros xs.length)) 5)) a xs := row8_alloc hx _
    have hcp := run_copy8 w.heap.size xs.length xs.length a xs.length ca (zeros xs.length) xs (w.alloc (.cells (vfs (zeros xs.length)) 5)) 3 (zeros_len _).symm rfl (by rw [zeros_len]; omega) HP.out hx1
    rw [World.setRow_alloc_new] at hcp
    have HX : Hid _ := hx
    have HY : Hid _ := hy
    clear hm hx1 hx hy
    go_enter Tryz.func122, Tryz.ntmps122
    go_wp2_with fail
    refine Calls.mono (adder_F x _) ?_
    rintro e w2 ⟨g, rfl, hg, hb2, h1, h2⟩
    have hsz := hb2.size
    have hB : Below w.heap.size w w2 := ((Below.refl _ _).alloc (Nat.le_refl _) _).trans (hb2.mono (by simp))
    have hO := (hb2.block w.heap.size (by simp)).trans (heap_alloc_last w (.cells (vfs (xs ++ (zeros xs.length).drop xs.length)) 5))
    have hB' : Hid _ := hB
    have hO' : Hid _ := hO
    have h1' : Hid _ := h1
    have h2' : Hid _ := h2
    simp at hg hsz
    clear hB hO h1 h2 hmk hcp
    go_wp2_with fail
    refine Calls.mono (kernel_any x w.heap.size _ _ b _ cb g (g + 1) (xs ++ (zeros xs.length).drop xs.length) ys w _ (by rw [List.length_append, List.length_drop, zeros_len]; omega) rfl (by omega) (by rw [List.length_append, List.length_drop, zeros_len]; omega) hB'.out (Nat.le_refl _) (by omega) hO'.out HY.out h1'.out h2'.out) ?_
    rintro e w3 ⟨rfl, hgb, hh⟩
    go_wp2_with fail
    go_ret
    refine ⟨w.heap.size, _, rfl, ?_, Nat.le_refl _, ?_, ?_⟩
    · rw [scaled_len]; omega
    · exact hB'.out.trans ⟨hgb.os, hgb.tape, hgb.output, hgb.size, fun k hk => hgb.block k (by omega) (by simp; omega)⟩
    · rw [hh]; unfold scaled; rw [HM.out]
end Go.Proofs.YtkoakingmnjdoaaGreatDoor
