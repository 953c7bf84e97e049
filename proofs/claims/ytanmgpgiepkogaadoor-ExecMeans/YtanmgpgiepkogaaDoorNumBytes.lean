/- What the statements' own copy with marked room makes, of all lists of bytes; nothing that was there turns. -/
import Derived.Test.YtanmgpgiepkogaaDoorGfApp
namespace Go.Proofs.YtanmgpgiepkogaaDoor
open Go.RowKit Gf
set_option linter.unusedVariables false
set_option maxRecDepth 20000
/-- the marks behind a copy -/
def marks : List F := [201, 202, 203, 204, 205, 206]
theorem run_append8_room {w : World} {g n cap : Nat} {xs old ys : List F} {a : Option Addr} {m c : Nat} (ty : TypeId) (h : w.heap[g]? = some (.cells (vfs (xs ++ old)) 5 (0, 0))) (hn : n = xs.length) (hc : n + m ≤ cap) (hm : m = ys.length)
    (hroom : ys.length ≤ old.length) (hy : Row8 w a ys) (hnil : a = none → c = 0) :
    (Builtin.append_ #[31, 31] ty #[.slice (some ⟨g, 0, none⟩) n cap, .slice a m c]).run Tryd.prog w = .ok (.slice (some ⟨g, 0, none⟩) (n + m) cap) (w.setRow g (vfs (xs ++ ys ++ old.drop ys.length))) := by
  subst hn hm
  obtain ⟨i, hi, h1, h2, h3⟩ := info8
  cases a with
  | none =>
    have hys : ys = [] := by
      rcases hy with e | ⟨b, off, e, _⟩
      · exact e
      · cases e
    subst hys
    have hc0 := hnil rfl
    subst hc0
    rw [List.append_nil, List.length_nil, List.drop_zero, setRow_self w g _ _ _ h]
    have hle : xs.length ≤ cap := by simpa using hc
    simp [Builtin.append_, run_underlying Tryd.underlying31, sizeOf, typeInfo, hi, Builtin.lenOf, Builtin.firstCells, loadCells, hle, storeCells]
  | some ad =>
    have := run_append_room (P := Tryd.prog) w 31 ty 5 i Tryd.underlying31 hi g xs.length cap _ h ad ys.length c (ys.map vf) (by simp [h1]) (fun j v hv => by
      simp only [List.getElem?_map, Option.map_eq_some_iff] at hv
      obtain ⟨x, hx1, rfl⟩ := hv
      have hj : j < ys.length := (List.getElem?_eq_some_iff.1 hx1).1
      have e : at8 ys j = x := by simp [at8, hx1]
      rcases hy with e' | ⟨b, off, e', hy⟩
      · rw [e'] at hj; simp at hj
      · cases e'
        have hadd : (⟨b, off, none⟩ : Addr).add j = ⟨b, off + j, none⟩ := by unfold Addr.add; split <;> simp_all
        rw [hadd, hy j hj, e]; rfl) (fun v hv => by
      simp only [List.mem_map] at hv
      obtain ⟨x, _, rfl⟩ := hv
      rfl) hc (by simp [h1, vfs_size]; omega)
    rw [this]
    congr 2
    rw [h1]
    simp only [vfs, Nat.mul_one, List.length_map, List.map_append, List.toList_toArray]
    congr 1
    rw [List.take_left' (by simp), List.append_assoc, List.append_assoc, ← List.drop_drop, List.drop_left' (by simp), List.map_drop]
theorem run_make8_room (n : Nat) (hn : n ≤ 140737488351232) (w : World) :
    (Instr.makeSlice 31 (.int .i64 0) (.int .i64 ((n : Int) + 6))).run Tryd.prog w = .ok (.slice (some ⟨w.heap.size, 0, none⟩) 0 (n + 6)) (w.alloc (.cells (vfs (zeros (n + 6))) 5)) := by
  obtain ⟨i, hi, h1, h2, h3⟩ := info8
  have := run_make (P := Tryd.prog) w 31 5 i _ Tryd.underlying31 hi h3 .i64 .i64 0 ((n : Int) + 6) (by omega) (by omega) (by rw [h2]; omega) (by omega)
  rw [this, h1]
  have e : ((n : Int) + 6).toNat = n + 6 := by omega
  simp only [e, Nat.mul_one, made8, Int.toNat_zero]
set_option maxHeartbeats 1000000 in
theorem bytes_F (a : Option Addr) (la ca : Nat) (xs : List F) (w : World) (hla : la = xs.length) (ha : la ≤ 140737488351232) (hx : Row8 w a xs) (hnil : a = none → ca = 0) :
    Calls Tryd.prog 27 #[.slice a la ca] w fun e w' => ∃ g, e = .returned (.slice (some ⟨g, 0, none⟩) la (la + 6)) ∧ w.heap.size ≤ g ∧ Below w.heap.size w w' ∧
      w'.heap[g]? = some (.cells (vfs (xs ++ marks)) 5 (0, 0)) := by
  have hmk := run_make8_room la ha w
  have h1 := run_append8_room (w := w.alloc (.cells (vfs (zeros (la + 6))) 5)) (g := w.heap.size) (n := 0) (cap := la + 6) (xs := []) (old := zeros (la + 6)) (ys := xs) (a := a) (m := la) (c := ca) 31 (heap_alloc_last w _) rfl (by omega) hla (by rw [zeros_len]; omega) (row8_alloc hx _) hnil
  rw [World.setRow_alloc_new, List.nil_append, Nat.zero_add] at h1
  have hd : (zeros (la + 6)).drop xs.length = zeros 6 := by
    rw [← hla]; simp [zeros, List.drop_replicate]
  rw [hd] at h1
  have h2 := run_append8_room (w := (w.alloc (.cells (vfs (xs ++ zeros 6)) 5)).alloc (.cells (vfs marks) 5)) (g := w.heap.size) (n := la) (cap := la + 6) (xs := xs) (old := zeros 6) (ys := marks) (a := some ⟨w.heap.size + 1, 0, none⟩) (m := 6) (c := 6) 31 (heap_alloc2_old w _ _) hla (by omega) rfl (by decide) (row8_own (heap_alloc2_new w _ _)) (fun e => by cases e)
  have hd2 : (zeros 6).drop marks.length = [] := by decide
  rw [hd2, List.append_nil] at h2
  have HM : Hid (vfs marks = #[.int .u8 201, .int .u8 202, .int .u8 203, .int .u8 204, .int .u8 205, .int .u8 206]) := rfl
  have H1 : Hid _ := h1
  have H2 : Hid _ := h2
  have HH : Hid _ := setRow_heap _ _ _ (vfs (xs ++ marks)) _ _ (heap_alloc2_old w (.cells (vfs (xs ++ zeros 6)) 5) (.cells (vfs marks) 5))
  clear h1 h2 hla hx hd hd2 hnil
  go_enter Tryd.func27, Tryd.ntmps27
  go_wp2_with (first | (at_builtin; refine wpList_append_run rfl _ _ 31 rfl _ _ _ _ rfl rfl H1.out ?_) | (at_builtin; rw [← HM.out]; refine wpList_append_run rfl _ _ 31 rfl _ _ _ _ rfl rfl H2.out ?_))
  go_ret
  exact ⟨w.heap.size, rfl, Nat.le_refl _, below_row ((((Below.refl _ _).alloc (Nat.le_refl _) _).alloc (by simp) _)) (Nat.le_refl _) _, HH.out⟩
end Go.Proofs.YtanmgpgiepkogaaDoor
