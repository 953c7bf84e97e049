/- What the statements' own copy with marked room makes, of all lists of bytes; nothing that was there turns. -/
import Derived.Test.YtkoakingmnjdoaaGreatDoorGfApp
namespace Go.Proofs.YtkoakingmnjdoaaGreatDoor
open Go.RowKit Gf
set_option linter.unusedVariables false
set_option maxRecDepth 20000
/-- the marks behind a copy -/
def marks : List F := [201, 202, 203, 204, 205, 206]
theorem run_append8_room {w : World} {g n cap : Nat} {xs old ys : List F} {a : Option Addr} {m c : Nat} (ty : TypeId) (h : w.heap[g]? = some (.cells (vfs (xs ++ old)) 5 (0, 0))) (hn : n = xs.length) (hc : n + m ≤ cap) (hm : m = ys.length)
    (hroom : ys.length ≤ old.length) (hy : Row8 w a ys) (hnil : a = none → c = 0) :
    (Builtin.append_ #[23, 23] ty #[.slice (some ⟨g, 0, none⟩) n cap, .slice a m c]).run Tryz.prog w = .ok (.slice (some ⟨g, 0, none⟩) (n + m) cap) (w.setRow g (vfs (xs ++ ys ++ old.drop ys.length))) := by
  subst hn hm
  obtain ⟨i, hi, h1, h2, h3⟩ := info8
  cases a with
  | none =>
    have hys : ys = [] := by
      rcases hy with e | ⟨b, off, e, _⟩
      · exact e
      · cases e
    subst hys
    have hc0 := hnil rfl
    subst hc0
    rw [List.append_nil, List.length_nil, List.drop_zero, setRow_self w g _ _ _ h]
    have hle : xs.length ≤ cap := by simpa using hc
    simp [Builtin.append_, run_underlying Tryz.underlying23, sizeOf, typeInfo, hi, Builtin.lenOf, Builtin.firstCells, loadCells, hle, storeCells]
  | some ad =>
    have := run_append_room (P := Tryz.prog) w 23 ty 5 i Tryz.underlying23 hi g xs.length cap _ h ad ys.length c (ys.map vf) (by simp [h1]) (fun j v hv => by
      simp only [List.getElem?_map, Option.map_eq_some_iff] at hv
      obtain ⟨x, hx1, rfl⟩ := hv
      have hj : j < ys.length := (List.getElem?_eq_some_iff.1 hx1).1
      have e : at8 ys j = x := by simp [at8, hx1]
      rcases hy with e' | ⟨b, off, e', hy⟩
      · rw [e'] at hj; simp at hj
      · cases e'
        have hadd : (⟨b, off, none⟩ : Addr).add j = ⟨b, off + j, none⟩ := by unfold Addr.add; split <;> simp_all
        rw [hadd, hy j hj, e]; rfl) (fun v hv => by
      simp only [List.mem_map] at hv
      obtain ⟨x, _, rfl⟩ := hv
      rfl) hc (by simp [h1, vfs_size]; omega)
    rw [this]
    congr 2
    rw [h1]
    simp only [vfs, Nat.mul_one, List.length_map, List.map_append, List.toList_toArray]
    congr 1
    rw [List.take_left' (by simp), List.append_assoc, List.append_assoc, ← List.drop_drop, List.drop_left' (by simp), List.map_drop]
theorem run_make8_room (n : Nat) (hn : n ≤ 140737488351232) (w : World) :
    (Instr.makeSlice 23 (.int .i64 0) (.int .i64 ((n : Int) + 6))).run Tryz.prog w = .ok (.slice (some ⟨w.heap.size, 0, none⟩) 0 (n + 6)) (w.alloc (.cells (vfs (zeros (n + 6))) 5)) := by
  obtain ⟨i, hi, h1, h2, h3⟩ := info8
  have := run_make (P := Tryz.prog) w 23 5 i _ Tryz.underlying23 hi h3 .i64 .i64 0 ((n : Int) + 6) (by omega) (by omega) (by rw [h2]; omega) (by omega)
  rw [this, h1]
  have e : ((n : Int) + 6).toNat = n + 6 := by omega
  simp only [e, Nat.mul_one, made8, Int.toNat_zero]
end Go.Proofs.YtkoakingmnjdoaaGreatDoor
