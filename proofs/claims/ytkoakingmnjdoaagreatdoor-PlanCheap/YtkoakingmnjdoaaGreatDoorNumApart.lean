/- What the statements' own look at two lists' memory answers: true where they lie apart; the second list is written over. -/
import Derived.Test.YtkoakingmnjdoaaGreatDoorNumKept
import Derived.ArgAppend
namespace Go.Proofs.YtkoakingmnjdoaaGreatDoor
open Go.RowKit Gf
set_option linter.unusedVariables false
set_option maxRecDepth 20000
/-- a byte with 85 added -/
def fl (x : F) : F := ga x 85
/-- the first k bytes turned -/
def flTo (xs : List F) (k : Nat) : List F := (xs.take k).map fl ++ xs.drop k
theorem flTo_len (xs : List F) (k : Nat) : (flTo xs k).length = xs.length := by simp [flTo]; omega
theorem flTo_zero (xs : List F) : flTo xs 0 = xs := by simp [flTo]
theorem flTo_all (xs : List F) : flTo xs xs.length = xs.map fl := by simp [flTo]
theorem flTo_at (xs : List F) (k : Nat) : at8 (flTo xs k) k = at8 xs k := by
  simp only [at8, flTo, List.getD_eq_getElem?_getD]
  by_cases h : k < xs.length
  · rw [List.getElem?_append_right (by simp; omega), List.length_map, List.length_take, List.getElem?_drop]
    congr 2; omega
  · rw [List.getElem?_eq_none (by simp; omega), List.getElem?_eq_none (by omega)]
theorem flTo_succ (xs : List F) (k : Nat) (h : k < xs.length) : (flTo xs k).set k (fl (at8 xs k)) = flTo xs (k + 1) := by
  apply list_ext8
  · simp [flTo_len]
  · intro j
    simp only [at8, flTo, List.getD_eq_getElem?_getD, List.getElem?_set, List.length_append, List.length_map, List.length_take, List.length_drop]
    by_cases hj : k = j
    · subst hj
      rw [if_pos rfl, if_pos (by omega), List.getElem?_append_left (by simp; omega)]
      simp [h]
    · rw [if_neg hj]
      by_cases hlt : j < k
      · rw [List.getElem?_append_left (by simp; omega), List.getElem?_append_left (by simp; omega)]
        simp [hlt, show j < k + 1 from by omega]
      · rw [List.getElem?_append_right (by simp; omega), List.getElem?_append_right (by simp; omega)]
        simp only [List.length_map, List.length_take, List.getElem?_drop]
        congr 2; omega
theorem fl_val (x : F) : bits .xor .u8 (x.toNat : Int) 85 = ((fl x).toNat : Int) := xor_val x 85
theorem append8_grows {w : World} {g n cap : Nat} {xs ys : List F} {ad : Addr} {m c : Nat} (ty : TypeId) (hx : Row8 w (some ⟨g, 0, none⟩) xs) (hn : n = xs.length) (hm : m = ys.length) (hcap : cap < n + m) (hb : n + m ≤ 140737488355328)
    (hy : ∀ j, j < ys.length → w.cell? (ad.add j) = some (.int .u8 ((at8 ys j).toNat : Int))) :
    ∃ g' cap' w', (Builtin.append_ #[23, 23] ty #[.slice (some ⟨g, 0, none⟩) n cap, .slice (some ad) m c]).run Tryz.prog w = .ok (.slice (some ⟨g', 0, none⟩) (n + m) cap') w' ∧
      Has8 w' g' (xs ++ ys) cap' ∧ w.grownBy w' none ∧ w.heap.size ≤ g' := by
  subst hn hm
  obtain ⟨i, hi, h1, h2, h3⟩ := info8
  obtain ⟨v', w', hrun, ho, hgr⟩ := run_append_arg_grows (P := Tryz.prog) w 23 ty 5 i _ 1 1 Tryz.underlying23 hi h3 h1 h2 rfl (by decide)
    ⟨g, 0, none⟩ xs.length cap (xs.map vf) (by simp) (fun j v hv => by
      simp only [List.getElem?_map, Option.map_eq_some_iff] at hv
      obtain ⟨x, hx1, rfl⟩ := hv
      have hj : j < xs.length := (List.getElem?_eq_some_iff.1 hx1).1
      have e : at8 xs j = x := by simp [at8, hx1]
      rcases hx with e' | ⟨b, off, e', hx⟩
      · rw [e'] at hj; simp at hj
      · cases e'
        have hadd : (⟨g, 0, none⟩ : Addr).add j = ⟨g, 0 + j, none⟩ := by unfold Addr.add; split <;> simp_all
        rw [hadd, hx j hj, e]; rfl)
    ad ys.length c (ys.map vf) (by simp) (fun j v hv => by
      simp only [List.getElem?_map, Option.map_eq_some_iff] at hv
      obtain ⟨x, hx1, rfl⟩ := hv
      have hj : j < ys.length := (List.getElem?_eq_some_iff.1 hx1).1
      have e : at8 ys j = x := by simp [at8, hx1]
      rw [hy j hj, e]; rfl) hcap (by simp only [maxLen]; omega) (by omega)
  rcases ho.2 with ⟨hv, h0⟩ | ⟨g', cap', cur', hv, hge, hg', hl', hm', hs', ht'⟩
  · omega
  · subst hv
    refine ⟨g', cap', w', hrun, ⟨cur', hg', by omega, by simpa using hl', hm', ?_⟩, hgr, hge⟩
    rw [List.length_append, List.map_append, ← ht', Nat.mul_one]
theorem has8_set {w : World} {g cap j : Nat} {xs : List F} (h : Has8 w g xs cap) (hj : j < xs.length) (x : F) : Has8 (w.setCell ⟨g, j, none⟩ (.int .u8 (x.toNat : Int))) g (xs.set j x) cap := by
  obtain ⟨cur, hg, hs, hl, hm, ht⟩ := h
  refine ⟨_, heap_setCell_same _ _ _ _ _ _ hg, by simpa using hs, by simpa using hl, hm, ?_⟩
  rw [List.length_set, Array.toList_setIfInBounds, List.take_set, ht, List.map_set]
  rfl
theorem has8_cell {w : World} {g cap j : Nat} {xs : List F} (h : Has8 w g xs cap) (hj : j < xs.length) : w.cell? ⟨g, j, none⟩ = some (.int .u8 ((at8 xs j).toNat : Int)) ∧ w.frozen? ⟨g, j, none⟩ = false := by
  have hr := row8_has h
  obtain ⟨cur, hg, _⟩ := h
  refine ⟨?_, frozen_of_row _ _ _ _ _ hg⟩
  rcases hr with e | ⟨b, off, e, hr⟩
  · rw [e] at hj; simp at hj
  · cases e
    simpa using hr j hj
theorem grownBy_refl (w : World) (r : Option Nat) : w.grownBy w r := ⟨rfl, rfl, rfl, Nat.le_refl _, fun _ _ _ => rfl⟩
theorem grownBy_trans {a b c : World} {r s : Option Nat} (h : a.grownBy b r) (k : b.grownBy c s) (hs : ∀ j, j < a.heap.size → some j ≠ r → some j ≠ s) : a.grownBy c r :=
  ⟨k.os.trans h.os, k.tape.trans h.tape, k.output.trans h.output, Nat.le_trans h.size k.size, fun j hj hr => (k.block j (Nat.lt_of_lt_of_le hj h.size) (hs j hj hr)).trans (h.block j hj hr)⟩
def sevens : List F := [7, 7, 7, 7, 7, 7, 7, 7]
end Go.Proofs.YtkoakingmnjdoaaGreatDoor
