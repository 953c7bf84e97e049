/- What the document's own Of and Row of package mat's chapter answer; nothing that was there turns. -/
import Derived.Test.YtanmgpgiepkogaaDoorMatTake
namespace Go.Proofs.YtanmgpgiepkogaaDoor
open Go.RowKit Gf
set_option linter.unusedVariables false
set_option maxRecDepth 20000
/-- bytes laid behind a list of one's own, whatever they are -/
theorem appendB {w : World} {B n m c : Nat} {v : Value} {zs ys : List F} {a : Option Addr} (ty : TypeId) (ho : w.ownsRow B 5 1 v n (zs.map vf)) (hm : m = ys.length) (hb : n + m ≤ 1000000) (hy : Row8 w a ys) (hnil : a = none → c = 0) (hB : B ≤ w.heap.size) :
    ∃ v' w', (Builtin.append_ #[31, 31] ty #[v, .slice a m c]).run Tryd.prog w = .ok v' w' ∧ w'.ownsRow B 5 1 v' (n + m) ((zs ++ ys).map vf) ∧ w.grownBy w' v.ownBlock := by
  obtain ⟨i, hi, h1, h2, h3⟩ := info8
  rcases hy with rfl | ⟨b, off, rfl, hy⟩
  · obtain rfl : m = 0 := hm
    cases a with
    | none =>
      obtain rfl := hnil rfl
      refine ⟨v, w, ?_, by simpa using ho, grownBy_refl _ _⟩
      rcases ho.2 with ⟨rfl, rfl⟩ | ⟨g, cap, cur, rfl, _, hg, hle, _⟩
      · simp [Builtin.append_, run_underlying Tryd.underlying31, sizeOf, typeInfo, hi, Builtin.lenOf, Builtin.firstCells]
      · simp [Builtin.append_, run_underlying Tryd.underlying31, sizeOf, typeInfo, hi, Builtin.lenOf, Builtin.firstCells, loadCells, hle, storeCells]
    | some ad =>
      obtain ⟨v', w', h4, h5, h6, _⟩ := run_append_own_at (P := Tryd.prog) w B 31 ty 5 i _ 1 1 Tryd.underlying31 hi h3 h1 h2 rfl (by decide) v n _ ho ad 0 c [] rfl (fun j u h => by simp at h) (fun u h => by cases h) (by simp only [maxLen]; omega) (by omega) hB
      exact ⟨v', w', h4, by simpa using h5, h6⟩
  · obtain ⟨v', w', h4, h5, h6, _⟩ := run_append_own_at (P := Tryd.prog) w B 31 ty 5 i _ 1 1 Tryd.underlying31 hi h3 h1 h2 rfl (by decide) v n _ ho ⟨b, off, none⟩ m c (ys.map vf) (by rw [List.length_map]; omega)
      (fun j u hv => by
        simp only [List.getElem?_map, Option.map_eq_some_iff] at hv
        obtain ⟨x, hx1, rfl⟩ := hv
        have hj : j < ys.length := (List.getElem?_eq_some_iff.1 hx1).1
        have e : at8 ys j = x := by simp [at8, hx1]
        have hadd : (⟨b, off, none⟩ : Addr).add j = ⟨b, off + j, none⟩ := by unfold Addr.add; split <;> simp_all
        rw [hadd, hy j hj, e]; rfl) (fun u hv => by
        simp only [List.mem_map] at hv
        obtain ⟨x, _, rfl⟩ := hv
        rfl) (by simp only [maxLen]; omega) (by omega) hB
    exact ⟨v', w', h4, by rw [List.map_append]; exact h5, h6⟩
theorem ownB_slice {w : World} {B n : Nat} {v : Value} {zs : List F} (ho : w.ownsRow B 5 1 v n (zs.map vf)) : ∃ a cap, v = .slice a n cap ∧ Row8 w a zs ∧ n = zs.length ∧ (a = none → cap = 0) := by
  have hl := ho.1
  rw [List.length_map] at hl
  rcases ho.2 with ⟨rfl, e⟩ | ⟨g, cap, cur, rfl, h2⟩
  · exact ⟨none, 0, by rw [e], .inl (List.eq_nil_of_length_eq_zero (by omega)), by omega, fun _ => rfl⟩
  · refine ⟨_, _, rfl, .inr ⟨g, 0, rfl, fun j hj => ?_⟩, by omega, fun h => by cases h⟩
    rw [Nat.zero_add, ho.cellAt j (by omega), List.getElem?_map, List.getElem?_eq_getElem hj]
    simp [at8, hj, vf]
theorem own_mono {w : World} {B B' size n : Nat} {v : Value} {e : TypeId} {xs : List Value} (h : w.ownsRow B e size v n xs) (hb : B' ≤ B) : w.ownsRow B' e size v n xs :=
  ⟨h.1, h.2.imp id fun ⟨g, cap, cur, h1, h2, h3⟩ => ⟨g, cap, cur, h1, Nat.le_trans hb h2, h3⟩⟩
theorem rows_cap_later {w w' : World} {a : Option Addr} {L : List (List F)} (hX : Rows8 w a L) (hb : Below w.heap.size w w')
    (hcp : ∀ b off, a = some ⟨b, off, none⟩ → ∀ j n a' cap', w.cell? ⟨b, off + j, none⟩ = some (.slice a' n cap') → j < L.length → a' = none → cap' = 0) :
    ∀ b off, a = some ⟨b, off, none⟩ → ∀ j n a' cap', w'.cell? ⟨b, off + j, none⟩ = some (.slice a' n cap') → j < L.length → a' = none → cap' = 0 := by
  intro b off e j n a' cap' hc hj ha
  rcases hX with e0 | ⟨b2, off2, e2, hrows⟩
  · rw [e0] at hj; simp at hj
  · rw [e] at e2
    cases e2
    obtain ⟨a1, cap1, h1, _⟩ := hrows j _ (List.getElem?_eq_getElem hj)
    have h2 := cell_later hb h1
    rw [hc] at h2
    simp only [Option.some.injEq, Value.slice.injEq] at h2
    obtain ⟨q1, q2, q3⟩ := h2
    rw [q3]
    exact hcp b off e j _ a1 cap1 h1 hj (by rw [← q1]; exact ha)
end Go.Proofs.YtanmgpgiepkogaaDoor
