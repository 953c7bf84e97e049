/- What Sum, Scale and AddScaled of package gf make, of all lists: sums and products, place by place, in new memory; nothing that was there turns. -/
import Derived.Test.YtbnjjmmpgpomiaaDoorGfLawsW2
import Derived.RegionTactic
import Derived.Deep.WholeRow
namespace Go.Proofs.YtbnjjmmpgpomiaaDoor
open Go.RowKit Gf
set_option maxRecDepth 20000
/-- an element as a value -/
def vf (x : F) : Value := .int .u8 (x.toNat : Int)
/-- a list as a block's cells -/
def vfs (xs : List F) : Array Value := (xs.map vf).toArray
theorem vfs_get (xs : List F) (j : Nat) (h : j < xs.length) : (vfs xs)[j]? = some (.int .u8 ((at8 xs j).toNat : Int)) := by
  simp [vfs, h, vf, at8]
theorem vfs_size (xs : List F) : (vfs xs).size = xs.length := by simp [vfs]
theorem vfs_set (xs : List F) (j : Nat) (x : F) : (vfs xs).setIfInBounds j (.int .u8 (x.toNat : Int)) = vfs (xs.set j x) := by
  apply Array.ext_getElem?
  intro i
  simp only [vfs, Array.getElem?_setIfInBounds, List.size_toArray, List.length_map, List.getElem?_toArray, List.getElem?_map, List.getElem?_set]
  by_cases h : j = i
  · subst h; by_cases h2 : j < xs.length <;> simp [h2, vf]
  · simp [h]
/-- the products of an element with the first k numbers, of 16 -/
def tab (x : F) (k : Nat) : List F := (List.range 16).map fun i => if i < k then gm x (el i) else 0
theorem tab_len (x : F) (k : Nat) : (tab x k).length = 16 := by simp [tab]
theorem tab_at (x : F) (k j : Nat) (h : j < 16) : at8 (tab x k) j = if j < k then gm x (el j) else 0 := by
  simp [tab, at8, h]
theorem tab_half (x : F) (k : Nat) (h : k < 16) : at8 (tab x k) (k / 2) = gm x (el (k / 2)) := by
  rw [tab_at x k _ (by omega)]
  by_cases h0 : k = 0
  · subst h0; rw [if_neg (by decide)]; exact (F.mul_zero x).symm
  · rw [if_pos (by omega)]
theorem tab_succ (x : F) (k : Nat) (h : k < 16) : (tab x k).set k (gm x (el k)) = tab x (k + 1) := by
  apply List.ext_getElem?
  intro i
  simp only [tab, List.getElem?_set, List.length_map, List.length_range, List.getElem?_map]
  by_cases hi : k = i
  · subst hi; simp [h]
  · by_cases h16 : i < 16
    · simp only [hi, if_false, List.getElem?_range h16, Option.map_some]
      by_cases hk : i < k
      · rw [if_pos hk, if_pos (by omega)]
      · rw [if_neg hk, if_neg (by omega)]
    · simp [hi, h16]
theorem el_half : ∀ k < 16, el k = ga (gm (el (k / 2)) gen) (el (k % 2)) := by decide +kernel
theorem tab_step (x : F) (k : Nat) (h : k < 16) : bits .xor .u8 (dblI ((gm x (el (k / 2))).toNat : Int)) ((k : Int) % 2 * (x.toNat : Int) % 256) = ((gm x (el k)).toNat : Int) := by
  have e1 : dblI ((gm x (el (k / 2))).toNat : Int) = ((gm (gm x (el (k / 2))) gen).toNat : Int) := by
    unfold dblI; rw [Int.toNat_natCast, dbl_eq _ (bl _), F.val_mul (gm x _) gen]; rfl
  have e2 : ((k : Int) % 2 * (x.toNat : Int) % 256) = ((gm x (el (k % 2))).toNat : Int) := by
    have hx := (bl x)
    have : k % 2 = 0 ∨ k % 2 = 1 := by omega
    rcases this with e | e
    · rw [e, show ((k : Int) % 2) = 0 from by omega, show gm x (el 0) = 0 from F.mul_zero x]; simp
    · rw [e, show ((k : Int) % 2) = 1 from by omega, show gm x (el 1) = x from F.mul_one x]; omega
  rw [e1, e2, xor_val, F.mul_assoc, ← F.mul_add, ← el_half k h]
theorem vfs_one (xs : List F) : (vfs xs).all (·.oneCell') = true := by
  rw [Array.all_eq_true_iff_forall_mem]
  intro v hv
  simp only [vfs, List.mem_toArray, List.mem_map] at hv
  obtain ⟨x, _, rfl⟩ := hv
  rfl
theorem setRow_heap_other (w : World) (g k : Nat) (cs : Array Value) (h : k ≠ g) : (w.setRow g cs).heap[k]? = w.heap[k]? := by
  simp only [World.setRow, Array.getElem?_modify]
  rw [if_neg (fun e => h e.symm)]
theorem below_row {B g : Nat} {w0 w : World} (hb : Below B w0 w) (hBg : B ≤ g) (cs : Array Value) : Below B w0 (w.setRow g cs) :=
  hb.trans ⟨rfl, rfl, rfl, by simp, fun k hk => setRow_heap_other w g k cs (by omega)⟩
/-- sixteen zeros, as Go lays a new array -/
def zero16 : Array Value := #[Value.int .u8 0, .int .u8 0, .int .u8 0, .int .u8 0, .int .u8 0, .int .u8 0, .int .u8 0, .int .u8 0, .int .u8 0, .int .u8 0, .int .u8 0, .int .u8 0, .int .u8 0, .int .u8 0, .int .u8 0, .int .u8 0]
/-- a list with c times another added, place by place -/
def acc (c : F) : List F → List F → List F
  | z :: zs, y :: ys => ga z (gm c y) :: acc c zs ys
  | zs, _ => zs
theorem acc_nil (c : F) (zs : List F) : acc c zs [] = zs := by cases zs <;> rfl
theorem acc_len (c : F) : ∀ zs ys : List F, (acc c zs ys).length = zs.length
  | [], _ => rfl
  | _ :: _, [] => rfl
  | z :: zs, y :: ys => by simp [acc, acc_len c zs ys]
theorem acc_at (c : F) : ∀ (zs ys : List F) (k : Nat), ys.length ≤ k → at8 (acc c zs ys) k = at8 zs k
  | [], _, _, _ => rfl
  | _ :: _, [], _, _ => rfl
  | z :: zs, y :: ys, 0, h => absurd h (by simp)
  | z :: zs, y :: ys, k + 1, h => acc_at c zs ys k (by simpa using h)
theorem acc_step (c : F) : ∀ (zs ys : List F) (k : Nat), k < ys.length → k < zs.length → (acc c zs (ys.take k)).set k (ga (at8 zs k) (gm c (at8 ys k))) = acc c zs (ys.take (k + 1))
  | [], _, _, _, h => absurd h (Nat.not_lt_zero _)
  | _ :: _, [], _, h, _ => absurd h (Nat.not_lt_zero _)
  | z :: zs, y :: ys, 0, _, _ => by simp [acc, acc_nil, at8]
  | z :: zs, y :: ys, k + 1, h1, h2 => by
    have := acc_step c zs ys k (by simpa using h1) (by simpa using h2)
    simp only [List.take_succ_cons, acc, List.set_cons_succ, at8_cons_succ]
    rw [this]
theorem el_split : ∀ k < 256, el k = ga (el (k % 16)) (gm (el 16) (el (k / 16))) := by decide +kernel
theorem add_step (x y z : F) : bits .xor .u8 (z.toNat : Int) (bits .xor .u8 ((gm x (el (y.toNat % 16))).toNat : Int) ((gm (gm x (el 16)) (el (y.toNat / 16))).toNat : Int)) = ((ga z (gm x y)).toNat : Int) := by
  rw [xor_val, xor_val, F.mul_assoc, ← F.mul_add, ← el_split y.toNat (bl y), el_self]
theorem grownBy_drew {w w' : World} {r : Option Nat} (h : w.grownBy w' r) : w.grownBy w'.drew r := ⟨h.os, h.tape, h.output, h.size, h.block⟩
theorem grownBy_setCell {w w' : World} {g : Nat} {i : Nat} (h : w.grownBy w' (some g)) (v : Value) : w.grownBy (w'.setCell ⟨g, i, none⟩ v) (some g) :=
  ⟨h.os, h.tape, h.output, by simpa [World.setCell] using h.size, fun k hk hne => (heap_setCell_other _ _ _ _ (fun e => hne (by rw [e]))).trans (h.block k hk hne)⟩
/-- n zeros -/
def zeros (n : Nat) : List F := List.replicate n 0
theorem zeros_len (n : Nat) : (zeros n).length = n := by simp [zeros]
theorem at8_zeros (n j : Nat) : at8 (zeros n) j = 0 := by
  unfold at8 zeros; rw [List.getD_eq_getElem?_getD, List.getElem?_replicate]; split <;> rfl
theorem made8 (n : Nat) : madeCells (Value.int .u8 0).cells n = vfs (zeros n) := by
  apply Array.ext_getElem?
  intro i
  by_cases h : i < n <;> simp [madeCells, vfs, zeros, vf, Value.cells, h, Nat.mod_one]
theorem run_make8 (n : Nat) (hn : n ≤ 281474976710656) (w : World) :
    (Instr.makeSlice 37 (.int .i64 (n : Int)) (.int .i64 (n : Int))).run Tryd.prog w = .ok (.slice (some ⟨w.heap.size, 0, none⟩) n n) (w.alloc (.cells (vfs (zeros n)) 5)) := by
  have hi : (Tryd.prog.info? 5).map (fun i => (i.size, i.bytes, i.zero)) = some (1, 1, some (.int .u8 0)) := by kernel_rfl
  cases hq : Tryd.prog.info? 5 with
  | none => simp [hq] at hi
  | some i =>
    simp only [hq, Option.map_some, Option.some.injEq, Prod.mk.injEq] at hi
    have := run_make (P := Tryd.prog) w 37 5 i _ Tryd.underlying37 hq hi.2.2 .i64 .i64 n n (by omega) (by omega) (by rw [hi.2.1]; omega) (by omega)
    rw [this, hi.1]
    simp only [Int.toNat_natCast, Nat.mul_one, made8]
set_option maxRecDepth 10000 in
theorem run_copy8 (g : Nat) (n c : Nat) (a : Option Addr) (la ca : Nat) (zs xs : List F) (w : World) (ty : TypeId) (hn : n = zs.length) (hla : la = xs.length) (hle : xs.length ≤ zs.length)
    (hg : w.heap[g]? = some (.cells (vfs zs) 5 (0, 0))) (hx : Row8 w a xs) :
    (Builtin.copy_ #[37, 37] ty #[.slice (some ⟨g, 0, none⟩) n c, .slice a la ca]).run Tryd.prog w = .ok (goInt xs.length) (w.setRow g (vfs (xs ++ zs.drop xs.length))) := by
  have hs : (Tryd.prog.info? 5).map (·.size) = some 1 := by kernel_rfl
  subst hn hla
  rcases hx with rfl | ⟨b, off, rfl, hx⟩
  · rw [run_copy_none w _ _ _ _ _ _ _ _ _ _ Tryd.underlying37 hs (by simp)]
    simp only [List.length_nil, List.drop_zero, List.nil_append]
    rw [setRow_self w g _ _ _ hg]
    rfl
  · have := run_copy_row (P := Tryd.prog) w 37 37 ty 5 g 0 zs.length c ⟨b, off, none⟩ xs.length ca (vfs zs) 5 (xs.map vf) Tryd.underlying37 hs hg
      (by show _ = min _ _; rw [List.length_map]; omega) (fun j v hv => by
        simp only [List.getElem?_map, Option.map_eq_some_iff] at hv
        obtain ⟨x, hx1, rfl⟩ := hv
        have hj : j < xs.length := (List.getElem?_eq_some_iff.1 hx1).1
        have e : at8 xs j = x := by simp [at8, hx1]
        have hadd : (⟨b, off, none⟩ : Addr).add j = ⟨b, off + j, none⟩ := by unfold Addr.add; split <;> simp_all
        rw [hadd, hx j hj, e]; rfl) (by simp [vfs_size]; omega) (fun v hv => by
        simp only [List.mem_map] at hv
        obtain ⟨x, _, rfl⟩ := hv
        rfl)
    rw [this]
    congr 2
    · simp
    · simp [vfs]
/-- what AddScaled makes: the longer list's length, zeros where a list ends -/
def scaled (c : F) (xs ys : List F) : List F := acc c (xs ++ (zeros (max xs.length ys.length)).drop xs.length) ys
theorem scaled_len (c : F) (xs ys : List F) : (scaled c xs ys).length = max xs.length ys.length := by
  unfold scaled; rw [acc_len, List.length_append, List.length_drop, zeros_len]; omega
theorem row8_alloc {w : World} {a : Option Addr} {xs : List F} (h : Row8 w a xs) (o : Obj) : Row8 (w.alloc o) a xs := by
  rcases h with rfl | ⟨b, off, rfl, h⟩
  · exact .inl rfl
  · exact .inr ⟨b, off, rfl, fun j hj => by
      have := h j hj
      rw [World.cell?_alloc_lt _ _ _ (World.block_lt_of_cell? w _ this)]; exact this⟩
theorem row8_below {w w' : World} {a : Option Addr} {xs : List F} (h : Row8 w a xs) (hb : Below w.heap.size w w') : Row8 w' a xs := by
  rcases h with rfl | ⟨b, off, rfl, h⟩
  · exact .inl rfl
  · exact .inr ⟨b, off, rfl, fun j hj => cell_later hb (h j hj)⟩
end Go.Proofs.YtbnjjmmpgpomiaaDoor
