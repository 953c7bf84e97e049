/- What Product of package mat answers, of all matrices in form that fit; nothing that was there turns. -/
import Derived.Test.YtanmgpgiepkogaaDoorMatV
import Derived.Deep.RegionHeld3
namespace Go.Proofs.YtanmgpgiepkogaaDoor
open Go.RowKit Gf
set_option linter.unusedVariables false
set_option maxRecDepth 20000
/-- rows as values: the first are slices over blocks of their own, the others are nil -/
def slV (c : Nat) (gs : List Nat) (r : Nat) : Array Value := ((gs.map fun g => Value.slice (some ⟨g, 0, none⟩) c c) ++ List.replicate (r - gs.length) (Value.slice none 0 0)).toArray
theorem slV_size {c : Nat} {gs : List Nat} {r : Nat} (h : gs.length ≤ r) : (slV c gs r).size = r := by simp [slV]; omega
theorem slV_at {c : Nat} {gs : List Nat} {r i : Nat} (h : i < gs.length) : (slV c gs r)[i]? = some (.slice (some ⟨gs[i], 0, none⟩) c c) := by
  simp only [slV, List.getElem?_toArray]
  rw [List.getElem?_append_left (by simpa using h), List.getElem?_map, List.getElem?_eq_getElem h]; rfl
theorem slV_next {c : Nat} {gs : List Nat} {r : Nat} (h : gs.length < r) : (slV c gs r)[gs.length]? = some (.slice none 0 0) := by
  simp only [slV, List.getElem?_toArray]
  rw [List.getElem?_append_right (by simp), List.length_map, Nat.sub_self, List.getElem?_replicate, if_pos (by omega)]
theorem slV_set {c : Nat} {gs : List Nat} {r : Nat} (g : Nat) (h : gs.length < r) : (slV c gs r).setIfInBounds gs.length (.slice (some ⟨g, 0, none⟩) c c) = slV c (gs ++ [g]) r := by
  simp only [slV]
  apply Array.toList_inj.1
  simp only [Array.toList_setIfInBounds, List.length_append, List.length_singleton, List.map_append, List.map_cons, List.map_nil, List.append_assoc]
  rw [List.set_append_right _ _ (by simp)]
  rw [show r - gs.length = (r - (gs.length + 1)) + 1 from by omega, List.replicate_succ]
  simp
theorem run_makeS (n : Nat) (hn : n ≤ 64) (w : World) :
    (Instr.makeSlice 67 (.int .i64 (n : Int)) (.int .i64 (n : Int))).run Tryd.prog w = .ok (.slice (some ⟨w.heap.size, 0, none⟩) n n) (w.alloc (.cells (slV 0 [] n) 31)) := by
  have hi : (Tryd.prog.info? 31).map (fun i => (i.size, i.bytes, i.zero)) = some (1, 24, some (.slice none 0 0)) := by kernel_rfl
  cases hq : Tryd.prog.info? 31 with
  | none => simp [hq] at hi
  | some i =>
    simp only [hq, Option.map_some, Option.some.injEq, Prod.mk.injEq] at hi
    have := run_make (P := Tryd.prog) w 67 31 i _ Tryd.underlying67 hq hi.2.2 .i64 .i64 n n (by omega) (by omega) (by rw [hi.2.1]; omega) (by omega)
    rw [this, hi.1]
    have e : madeCells (Value.slice none 0 0).cells n = slV 0 [] n := by
      apply Array.ext_getElem?
      intro i
      by_cases h : i < n <;> simp [madeCells, slV, Value.cells, h, Nat.mod_one]
    simp only [Int.toNat_natCast, Nat.mul_one, e]
end Go.Proofs.YtanmgpgiepkogaaDoor
