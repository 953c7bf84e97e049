/- What Row of package mat answers, of all matrices and numbers; nothing that was there turns. -/
import Derived.Test.YtanmgpgiepkogaaDoorMatR
namespace Go.Proofs.YtanmgpgiepkogaaDoor
open Go.RowKit Gf
set_option linter.unusedVariables false
set_option maxRecDepth 20000
theorem rowOf_G (r c i l cap : Nat) (a : Option Addr) (xs : List F) (w0 w : World) (hr : r ≤ 64) (hc : c ≤ 64) (hi : i < r) (hl : l = r * c) (hx : xs.length = r * c) (hcap : l ≤ cap) (hX : Row8 w0 a xs) (hnil : a = none → cap = 0) :
    Calls Tryd.prog 69 #[.agg #[.int .i64 r, .int .i64 c, .slice a l cap], .int .i64 i] w fun e w' => ∃ a' cap', e = .returned (.slice a' c cap') ∧ Row8 w0 a' (rowAt c xs i) ∧ c ≤ cap' ∧ (a' = none → cap' = 0) ∧ (a ≠ none → a' ≠ none) ∧ Below w.heap.size w w' := by
  cases a with
  | none =>
    have hx0 : xs = [] := by
      rcases hX with h | ⟨b, off, h, _⟩
      · exact h
      · cases h
    have h0 : r * c = 0 := by rw [← hx, hx0]; rfl
    have hc0 : c = 0 := by
      rcases Nat.mul_eq_zero.1 h0 with h | h
      · omega
      · exact h
    subst hc0
    obtain rfl : l = 0 := by omega
    exact (rowOf_none r i cap none w hr hi).mono fun e w' ⟨he, hb⟩ => ⟨none, cap, he, .inl (by simp [rowAt]), Nat.zero_le _, hnil, fun h => absurd rfl h, hb⟩
  | some ad =>
    rcases hX with e | ⟨b, off, e, h⟩
    · have h0 : r * c = 0 := by rw [← hx, e]; rfl
      have hc0 : c = 0 := by
        rcases Nat.mul_eq_zero.1 h0 with h | h
        · omega
        · exact h
      subst hc0
      obtain rfl : l = 0 := by omega
      exact (rowOf_none r i cap (some ad) w hr hi).mono fun e w' ⟨he, hb⟩ => ⟨some ad, cap, he, .inl (by simp [rowAt]), Nat.zero_le _, hnil, fun h => h, hb⟩
    · cases e
      refine (rowOf_some r c i b off l cap w hr hc hi hl hcap).mono fun e w' ⟨he, hb⟩ => ⟨_, _, he, row8_rowAt hx hi (by omega) h, ?_, (fun h => by cases h), (fun _ h => by cases h), hb⟩
      have := Nat.mul_le_mul_right c (show i + 1 ≤ r from hi)
      rw [Nat.succ_mul] at this; omega
end Go.Proofs.YtanmgpgiepkogaaDoor
