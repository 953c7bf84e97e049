/- What Take of package mat answers, of all matrices in form and lists of numbers; nothing that was there turns. -/
import Derived.Test.YtanmgpgiepkogaaDoorMatRow
import Derived.Test.YtanmgpgiepkogaaDoorMatP
namespace Go.Proofs.YtanmgpgiepkogaaDoor
open Go.RowKit Gf
set_option linter.unusedVariables false
set_option maxRecDepth 20000
/-- the first lists of a list of lists -/
def slW (vs : List Value) (r : Nat) : Array Value := (vs ++ List.replicate (r - vs.length) (Value.slice none 0 0)).toArray
theorem slW_nil (r : Nat) : slV 0 [] r = slW [] r := by
  apply Array.ext_getElem?
  intro i
  by_cases h : i < r <;> simp [slV, slW, h]
theorem slW_at {vs : List Value} {r i : Nat} {v : Value} (h : vs[i]? = some v) : (slW vs r)[i]? = some v := by
  have hi := (List.getElem?_eq_some_iff.1 h).1
  simp only [slW, List.getElem?_toArray]
  rw [List.getElem?_append_left hi, h]
theorem slW_next {vs : List Value} {r : Nat} (h : vs.length < r) : (slW vs r)[vs.length]? = some (.slice none 0 0) := by
  simp only [slW, List.getElem?_toArray]
  rw [List.getElem?_append_right (Nat.le_refl _), Nat.sub_self, List.getElem?_replicate, if_pos (by omega)]
theorem slW_set {vs : List Value} {r : Nat} (v : Value) (h : vs.length < r) : (slW vs r).setIfInBounds vs.length v = slW (vs ++ [v]) r := by
  apply Array.ext_getElem?
  intro i
  rw [Array.getElem?_setIfInBounds]
  simp only [slW, List.getElem?_toArray, List.size_toArray, List.length_append, List.length_replicate]
  by_cases hi : vs.length = i
  · subst hi
    rw [if_pos rfl, if_pos (by omega), List.getElem?_append_left (by simp), List.getElem?_append_right (Nat.le_refl _), Nat.sub_self]; rfl
  · rw [if_neg hi]
    by_cases h2 : i < vs.length
    · rw [List.getElem?_append_left h2, List.getElem?_append_left (by simp; omega), List.getElem?_append_left h2]
    · rw [List.getElem?_append_right (by omega), List.getElem?_append_right (by simp; omega)]
      simp only [List.length_append, List.length_cons, List.length_nil, List.getElem?_replicate]
      by_cases h3 : i < r
      · rw [if_pos (by omega), if_pos (by omega)]
      · rw [if_neg (by omega), if_neg (by omega)]
/-- these values are lists of bytes, of c bytes each -/
def Lists8 (w : World) (c : Nat) (vs : List Value) (L : List (List F)) : Prop :=
  vs.length = L.length ∧ ∀ (j : Nat) (v : Value) (xs : List F), vs[j]? = some v → L[j]? = some xs → ∃ (a : Option Addr) (cap : Nat), v = .slice a c cap ∧ xs.length = c ∧ Row8 w a xs
theorem lists8_nil (w : World) (c : Nat) : Lists8 w c [] [] := ⟨rfl, fun j v xs h => by simp at h⟩
theorem lists8_snoc {w : World} {c cap : Nat} {vs : List Value} {L : List (List F)} {a : Option Addr} {xs : List F} (h : Lists8 w c vs L) (hx : xs.length = c) (hr : Row8 w a xs) : Lists8 w c (vs ++ [.slice a c cap]) (L ++ [xs]) := by
  refine ⟨by simp [h.1], fun j v ys hv hy => ?_⟩
  by_cases hj : j < vs.length
  · rw [List.getElem?_append_left hj] at hv
    rw [List.getElem?_append_left (by rw [← h.1]; exact hj)] at hy
    exact h.2 j v ys hv hy
  · have e := (List.getElem?_eq_some_iff.1 hv).1
    simp at e
    obtain rfl : j = vs.length := by omega
    rw [List.getElem?_append_right (Nat.le_refl _), Nat.sub_self] at hv
    rw [h.1, List.getElem?_append_right (Nat.le_refl _), Nat.sub_self] at hy
    obtain rfl := Option.some.inj hv
    obtain rfl := Option.some.inj hy
    exact ⟨a, cap, rfl, hx, hr⟩
theorem lists8_rows {w w' : World} {c M : Nat} {vs : List Value} {L : List (List F)} (h : Lists8 w c vs L) (hb : Below w.heap.size w w') (hc : ∀ j v, vs[j]? = some v → w'.cell? ⟨M, j, none⟩ = some v) : Rows8 w' (some ⟨M, 0, none⟩) L := by
  refine .inr ⟨M, 0, rfl, fun j xs hj => ?_⟩
  have hlt : j < vs.length := by rw [h.1]; exact (List.getElem?_eq_some_iff.1 hj).1
  have hv := List.getElem?_eq_getElem hlt
  obtain ⟨a, cap, e, hx, hr⟩ := h.2 j _ xs hv hj
  refine ⟨a, cap, ?_, row8_below hr hb⟩
  rw [Nat.zero_add, hc j _ hv, e, hx]
theorem lists8_len {w : World} {c : Nat} {vs : List Value} {L : List (List F)} (h : Lists8 w c vs L) : ∀ xs ∈ L, xs.length = c := fun xs hx => by
  obtain ⟨j, hj, e⟩ := List.getElem_of_mem hx
  have hlt : j < vs.length := by rw [h.1]; exact hj
  obtain ⟨a, cap, _, hl, _⟩ := h.2 j _ xs (List.getElem?_eq_getElem hlt) (by rw [List.getElem?_eq_getElem hj, e])
  exact hl
/-- the rows with these numbers -/
def takeM (c : Nat) (xs : List F) (ns : List Int) : List (List F) := ns.map fun n => rowAt c xs n.toNat
end Go.Proofs.YtanmgpgiepkogaaDoor
