/- What Clone of package bytes, and Row of package mat, answer; nothing that was there turns. -/
import Derived.Test.YtanmgpgiepkogaaDoorMatO
import Derived.Test.YtanmgpgiepkogaaDoorMatAt
import Derived.Test.YtanmgpgiepkogaaDoorOwn
import Derived.Test.YtanmgpgiepkogaaDoorHolds
import Derived.Test.YtanmgpgiepkogaaDoorNumApart
import Derived.Lib.LazyBuf
namespace Go.Proofs.YtanmgpgiepkogaaDoor
open Go.RowKit Gf
set_option linter.unusedVariables false
set_option maxRecDepth 20000
/-- bytes laid behind an empty list of one's own -/
theorem append8_new {w : World} {g m c : Nat} {a : Option Addr} {ys : List F} (ty : TypeId) (hg : w.heap[g]? = some (.cells #[] 5 (0, 0))) (hm : m = ys.length) (hb : m ≤ 140737488355328) (hy : Row8 w a ys) (hnil : a = none → c = 0) :
    ∃ g' cap' w', (Builtin.append_ #[31, 31] ty #[.slice (some ⟨g, 0, none⟩) 0 0, .slice a m c]).run Tryd.prog w = .ok (.slice (some ⟨g', 0, none⟩) m cap') w' ∧ Has8 w' g' ys cap' ∧ w.grownBy w' none ∧ (g' = g ∨ w.heap.size ≤ g') := by
  rcases hy with rfl | ⟨b, off, rfl, hy⟩
  · obtain rfl : m = 0 := hm
    refine ⟨g, 0, w, ?_, ⟨#[], hg, rfl, Nat.le_refl _, by decide, rfl⟩, grownBy_refl _ _, .inl rfl⟩
    have := run_append8_room (w := w) (g := g) (n := 0) (cap := 0) (xs := []) (old := []) (ys := []) (a := a) (m := 0) (c := c) ty (by simpa [vfs] using hg) rfl (Nat.le_refl _) rfl (Nat.le_refl _) (.inl rfl) hnil
    rw [this]
    congr 1
    exact setRow_self w g _ _ _ (by simpa [vfs] using hg)
  · by_cases h0 : m = 0
    · subst h0
      obtain rfl : ys = [] := List.eq_nil_of_length_eq_zero hm.symm
      refine ⟨g, 0, w, ?_, ⟨#[], hg, rfl, Nat.le_refl _, by decide, rfl⟩, grownBy_refl _ _, .inl rfl⟩
      have := run_append8_room (w := w) (g := g) (n := 0) (cap := 0) (xs := []) (old := []) (ys := []) (a := some ⟨b, off, none⟩) (m := 0) (c := c) ty (by simpa [vfs] using hg) rfl (Nat.le_refl _) rfl (Nat.le_refl _) (.inl rfl) (fun h => by cases h)
      rw [this]
      congr 1
      exact setRow_self w g _ _ _ (by simpa [vfs] using hg)
    · obtain ⟨g', cap', w', h1, h2, h3, h4⟩ := append8_grows (w := w) (g := g) (n := 0) (cap := 0) (xs := []) (ys := ys) (ad := ⟨b, off, none⟩) (m := m) (c := c) ty (.inl rfl) rfl hm (by omega) (by omega)
        (fun j hj => by
          have hadd : (⟨b, off, none⟩ : Addr).add j = ⟨b, off + j, none⟩ := by unfold Addr.add; split <;> simp_all
          rw [hadd, hy j hj])
      rw [Nat.zero_add] at h1
      exact ⟨g', cap', w', h1, h2, h3, .inr h4⟩
theorem slice_nil (w : World) (a : Option Addr) (n c : Nat) : (binOp .eql 31 (.slice a n c) (.slice none 0 0)).run Tryd.prog w = .ok (.bool a.isNone) w := run_eql_slice_nil w _ _ a n c Tryd.underlying31
end Go.Proofs.YtanmgpgiepkogaaDoor
