/- What Clone of package bytes, and Row of package mat, answer; nothing that was there turns. -/
import Derived.Test.YtkoakingmnjdoaaGreatDoorMatO
import Derived.Test.YtkoakingmnjdoaaGreatDoorMatAt
import Derived.Test.YtkoakingmnjdoaaGreatDoorOwn
import Derived.Test.YtkoakingmnjdoaaGreatDoorHolds
import Derived.Test.YtkoakingmnjdoaaGreatDoorNumApart
import Derived.Lib.LazyBuf
namespace Go.Proofs.YtkoakingmnjdoaaGreatDoor
open Go.RowKit Gf
set_option linter.unusedVariables false
set_option maxRecDepth 20000
/-- bytes laid behind an empty list of one's own -/
theorem append8_new {w : World} {g m c : Nat} {a : Option Addr} {ys : List F} (ty : TypeId) (hg : w.heap[g]? = some (.cells #[] 5 (0, 0))) (hm : m = ys.length) (hb : m ≤ 140737488355328) (hy : Row8 w a ys) (hnil : a = none → c = 0) :
    ∃ g' cap' w', (Builtin.append_ #[23, 23] ty #[.slice (some ⟨g, 0, none⟩) 0 0, .slice a m c]).run Tryz.prog w = .ok (.slice (some ⟨g', 0, none⟩) m cap') w' ∧ Has8 w' g' ys cap' ∧ w.grownBy w' none ∧ (g' = g ∨ w.heap.size ≤ g') := by
  rcases hy with rfl | ⟨b, off, rfl, hy⟩
  · obtain rfl : m = 0 := hm
    refine ⟨g, 0, w, ?_, ⟨#[], hg, rfl, Nat.le_refl _, by decide, rfl⟩, grownBy_refl _ _, .inl rfl⟩
    have := run_append8_room (w := w) (g := g) (n := 0) (cap := 0) (xs := []) (old := []) (ys := []) (a := a) (m := 0) (c := c) ty (by simpa [vfs] using hg) rfl (Nat.le_refl _) rfl (Nat.le_refl _) (.inl rfl) hnil
    rw [this]
    congr 1
    exact setRow_self w g _ _ _ (by simpa [vfs] using hg)
  · by_cases h0 : m = 0
    · subst h0
      obtain rfl : ys = [] := List.eq_nil_of_length_eq_zero hm.symm
      refine ⟨g, 0, w, ?_, ⟨#[], hg, rfl, Nat.le_refl _, by decide, rfl⟩, grownBy_refl _ _, .inl rfl⟩
      have := run_append8_room (w := w) (g := g) (n := 0) (cap := 0) (xs := []) (old := []) (ys := []) (a := some ⟨b, off, none⟩) (m := 0) (c := c) ty (by simpa [vfs] using hg) rfl (Nat.le_refl _) rfl (Nat.le_refl _) (.inl rfl) (fun h => by cases h)
      rw [this]
      congr 1
      exact setRow_self w g _ _ _ (by simpa [vfs] using hg)
    · obtain ⟨g', cap', w', h1, h2, h3, h4⟩ := append8_grows (w := w) (g := g) (n := 0) (cap := 0) (xs := []) (ys := ys) (ad := ⟨b, off, none⟩) (m := m) (c := c) ty (.inl rfl) rfl hm (by omega) (by omega)
        (fun j hj => by
          have hadd : (⟨b, off, none⟩ : Addr).add j = ⟨b, off + j, none⟩ := by unfold Addr.add; split <;> simp_all
          rw [hadd, hy j hj])
      rw [Nat.zero_add] at h1
      exact ⟨g', cap', w', h1, h2, h3, .inr h4⟩
theorem slice_nil (w : World) (a : Option Addr) (n c : Nat) : (binOp .eql 23 (.slice a n c) (.slice none 0 0)).run Tryz.prog w = .ok (.bool a.isNone) w := run_eql_slice_nil w _ _ a n c Tryz.underlying23
set_option maxHeartbeats 400000 in
theorem clone_none (w : World) : Calls Tryz.prog 99 #[.slice none 0 0] w fun e w' => e = .returned (.slice none 0 0) ∧ w = w' := by
  have q : (binOp .eql 23 (.slice none 0 0) (.slice none 0 0)).run Tryz.prog w = .ok (.bool true) w := slice_nil w none 0 0
  go_enter Tryz.func99, Tryz.ntmps99
  go_wp2
  go_ret
  exact ⟨rfl, rfl⟩
set_option maxHeartbeats 400000 in
theorem clone_some (ad : Addr) (l cap : Nat) (xs : List F) (w : World) (hl : l = xs.length) (hm : l ≤ 140737488355328) (hX : Row8 w (some ad) xs) :
    Calls Tryz.prog 99 #[.slice (some ad) l cap] w fun e w' => ∃ g cap', e = .returned (.slice (some ⟨g, 0, none⟩) l cap') ∧ w.heap.size ≤ g ∧ Has8 w' g xs cap' ∧ Below w.heap.size w w' := by
  have hh := heap_alloc_last w (.cells #[] 5)
  obtain ⟨g', cap', w2, h1, h2, h3, h4⟩ := append8_new (w := w.alloc (.cells #[] 5)) (g := w.heap.size) (m := l) (c := cap) (a := some ad) (ys := xs) 23 hh hl hm (row8_alloc hX _) (fun h => by cases h)
  have HR : Hid _ := h1
  have H2 : Hid _ := h2
  have HB : Hid (Below w.heap.size w w2) := grownBy_below (g := w.heap.size) ((Below.refl _ _).alloc (Nat.le_refl _) _) ⟨h3.os, h3.tape, h3.output, h3.size, fun k hk _ => h3.block k hk (by simp)⟩ (Nat.le_refl _) (by simp)
  have hg : w.heap.size ≤ g' := by
    rcases h4 with rfl | h4
    · omega
    · simp at h4; omega
  have q : (binOp .eql 23 (.slice (some ad) l cap) (.slice none 0 0)).run Tryz.prog w = .ok (.bool false) w := slice_nil w (some ad) l cap
  clear h1 h2 h3 h4 hh hX hl
  go_enter Tryz.func99, Tryz.ntmps99
  go_wp2_with (at_builtin; refine wpList_append_run rfl _ _ 23 rfl _ _ _ _ rfl rfl HR.out ?_)
  go_ret
  exact ⟨g', cap', rfl, hg, H2.out, HB.out⟩
/-- the whole: a copy, or nothing -/
theorem clone_F (a : Option Addr) (l cap : Nat) (xs : List F) (w : World) (hl : l = xs.length) (hm : l ≤ 140737488355328) (hX : Row8 w a xs) (hnil : a = none → cap = 0) :
    Calls Tryz.prog 99 #[.slice a l cap] w fun e w' => ∃ a' cap', e = .returned (.slice a' l cap') ∧ Row8 w' a' xs ∧ (a = none ∧ a' = none ∧ w = w' ∧ cap' = 0 ∨ ∃ g, a' = some ⟨g, 0, none⟩ ∧ w.heap.size ≤ g ∧ Has8 w' g xs cap') ∧ Below w.heap.size w w' := by
  cases a with
  | none =>
    obtain rfl := hnil rfl
    have hx : xs = [] := by
      rcases hX with h | ⟨b, off, h, _⟩
      · exact h
      · cases h
    subst hx
    obtain rfl : l = 0 := hl
    exact (clone_none w).mono fun e w' ⟨he, hw⟩ => ⟨none, 0, he, .inl rfl, .inl ⟨rfl, rfl, hw, rfl⟩, by rw [hw]; exact Below.refl _ _⟩
  | some ad => exact (clone_some ad l cap xs w hl hm hX).mono fun e w' ⟨g, cap', he, hg, hh, hb⟩ => ⟨_, cap', he, row8_has hh, .inr ⟨g, rfl, hg, hh⟩, hb⟩
end Go.Proofs.YtkoakingmnjdoaaGreatDoor
