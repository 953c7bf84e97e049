/- What Check and Group of package base answer, and the document's own Legal and Group, of all numbers. -/
import Derived.Test.YtbjjmlebpohmcaaDoorMatA
namespace Go.Proofs.YtbjjmlebpohmcaaDoor
open Go.RowKit Gf
set_option linter.unusedVariables false
set_option maxRecDepth 20000
/-- legal numbers of shards -/
def LegalP (k r : Int) : Prop := 1 ≤ k ∧ 2 ≤ r ∧ k + r ≤ 16
instance (k r : Int) : Decidable (LegalP k r) := inferInstanceAs (Decidable (_ ∧ _))
theorem legal_nat {k r : Int} (h : LegalP k r) : ∃ a b : Nat, k = a ∧ r = b ∧ 1 ≤ a ∧ 2 ≤ b ∧ a + b ≤ 16 := by
  obtain ⟨h1, h2, h3⟩ := h
  exact ⟨k.toNat, r.toNat, by omega, by omega, by omega, by omega, by omega⟩
/-- how many data shards a group has at most -/
def groupN (k r : Nat) : Nat := (k + (r - 1) - 1) / (r - 1)
theorem groupN_a : ∀ k < 15, ∀ r < 17, 1 ≤ k → 2 ≤ r → 1 ≤ groupN k r ∧ k ≤ groupN k r * (r - 1) := by decide +kernel
theorem groupN_b : ∀ k < 15, ∀ r < 17, 1 ≤ k → 2 ≤ r → (groupN k r - 1) * (r - 1) < k ∧ groupN k r ≤ 16 := by decide +kernel
theorem groupN_least {k r : Nat} (h1 : 1 ≤ k) (h2 : 2 ≤ r) (h3 : k + r ≤ 16) : 1 ≤ groupN k r ∧ k ≤ groupN k r * (r - 1) ∧ (groupN k r - 1) * (r - 1) < k ∧ groupN k r ≤ 16 :=
  let a := groupN_a k (by omega) r (by omega) h1 h2; let b := groupN_b k (by omega) r (by omega) h1 h2; ⟨a.1, a.2, b.1, b.2⟩
end Go.Proofs.YtbjjmlebpohmcaaDoor
