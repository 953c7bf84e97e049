/- What Check and Group of package base answer, and the document's own Legal and Group, of all numbers. -/
import Derived.Test.YtkoakingmnjdoabDoorMatA
namespace Go.Proofs.YtkoakingmnjdoabDoor
open Go.RowKit Gf
set_option linter.unusedVariables false
set_option maxRecDepth 20000
/-- legal numbers of shards -/
def LegalP (k r : Int) : Prop := 1 ≤ k ∧ 2 ≤ r ∧ k + r ≤ 16
instance (k r : Int) : Decidable (LegalP k r) := inferInstanceAs (Decidable (_ ∧ _))
theorem legal_nat {k r : Int} (h : LegalP k r) : ∃ a b : Nat, k = a ∧ r = b ∧ 1 ≤ a ∧ 2 ≤ b ∧ a + b ≤ 16 := by
  obtain ⟨h1, h2, h3⟩ := h
  exact ⟨k.toNat, r.toNat, by omega, by omega, by omega, by omega, by omega⟩
theorem bcheck_ok (k r : Nat) (w : World) (h1 : 1 ≤ k) (h2 : 2 ≤ r) (h3 : k + r ≤ 16) :
    Calls Tryd.prog 36 #[.int .i64 k, .int .i64 r] w fun e w' => e = .returned .nilIface ∧ w = w' := by
  have a1 : (1 : Int) ≤ k := by omega
  have a2 : (2 : Int) ≤ r := by omega
  have a3 : (k : Int) ≤ 16 - r := by omega
  clear h1 h2 h3
  go_enter Tryd.func36, Tryd.ntmps36
  go_wp2
  go_ret
  exact ⟨rfl, rfl⟩
theorem bcheck_bad (k r : Int) (w : World) (s : Addr) (hs : w.cell? ⟨0, 0, none⟩ = some (errAt s)) (hk0 : -9223372036854775808 ≤ k) (hk1 : k ≤ 9223372036854775807) (hr0 : -9223372036854775808 ≤ r) (hr1 : r ≤ 9223372036854775807) (h : ¬ LegalP k r) :
    Calls Tryd.prog 36 #[.int .i64 k, .int .i64 r] w fun e w' => e = .returned (errAt s) ∧ w = w' := by
  have hg : 0 < w.heap.size := by
    have := World.block_lt_of_cell? w _ hs; simpa using this
  unfold errAt at *
  have H : k < 1 ∨ 1 ≤ k ∧ r < 2 ∨ 1 ≤ k ∧ 2 ≤ r ∧ 16 - r < k := by
    simp only [LegalP] at h; omega
  clear h
  rcases H with h | ⟨h1, h2⟩ | ⟨h1, h2, h3⟩
  · go_enter Tryd.func36, Tryd.ntmps36
    go_wp2
    go_ret
    exact ⟨rfl, rfl⟩
  · go_enter Tryd.func36, Tryd.ntmps36
    go_wp2
    go_ret
    exact ⟨rfl, rfl⟩
  · go_enter Tryd.func36, Tryd.ntmps36
    go_wp2
    go_ret
    exact ⟨rfl, rfl⟩
/-- how many data shards a group has at most -/
def groupN (k r : Nat) : Nat := (k + (r - 1) - 1) / (r - 1)
theorem groupN_a : ∀ k < 15, ∀ r < 17, 1 ≤ k → 2 ≤ r → 1 ≤ groupN k r ∧ k ≤ groupN k r * (r - 1) := by decide +kernel
theorem groupN_b : ∀ k < 15, ∀ r < 17, 1 ≤ k → 2 ≤ r → (groupN k r - 1) * (r - 1) < k ∧ groupN k r ≤ 16 := by decide +kernel
theorem groupN_least {k r : Nat} (h1 : 1 ≤ k) (h2 : 2 ≤ r) (h3 : k + r ≤ 16) : 1 ≤ groupN k r ∧ k ≤ groupN k r * (r - 1) ∧ (groupN k r - 1) * (r - 1) < k ∧ groupN k r ≤ 16 :=
  let a := groupN_a k (by omega) r (by omega) h1 h2; let b := groupN_b k (by omega) r (by omega) h1 h2; ⟨a.1, a.2, b.1, b.2⟩
theorem bgroup_ok (k r : Nat) (w : World) (h1 : 1 ≤ k) (h2 : 2 ≤ r) (h3 : k + r ≤ 16) :
    Calls Tryd.prog 20 #[.int .i64 k, .int .i64 r] w fun e w' => e = .returned (.tuple #[.int .i64 (groupN k r), .nilIface]) ∧ w = w' := by
  obtain ⟨m, rfl⟩ : ∃ m, r = m + 1 := ⟨r - 1, by omega⟩
  have hm : 1 ≤ m := by omega
  have E2 : Hid (((k : Int) + m - 1) / m = (groupN k (m + 1) : Nat)) := by
    have : (k : Int) + m - 1 = ((k + m - 1 : Nat) : Int) := by omega
    show _ = _
    rw [this, groupN]
    simp
  go_enter Tryd.func20, Tryd.ntmps20
  go_wp2_with (go_at_call 36; refine (bcheck_ok _ _ _ h1 h2 h3).mono ?_; rintro e w' ⟨rfl, rfl⟩)
  rw [E2.out]
  go_ret2
  exact ⟨rfl, rfl⟩
theorem bgroup_bad (k r : Int) (w : World) (s : Addr) (hs : w.cell? ⟨0, 0, none⟩ = some (errAt s)) (hk0 : -9223372036854775808 ≤ k) (hk1 : k ≤ 9223372036854775807) (hr0 : -9223372036854775808 ≤ r) (hr1 : r ≤ 9223372036854775807) (h : ¬ LegalP k r) :
    Calls Tryd.prog 20 #[.int .i64 k, .int .i64 r] w fun e w' => e = .returned (.tuple #[.int .i64 0, errAt s]) ∧ w = w' := by
  have HS : Hid _ := hs
  have H : Hid _ := h
  clear h hs
  unfold errAt
  go_enter Tryd.func20, Tryd.ntmps20
  go_wp2_with fail
  refine (bcheck_bad k r w s HS.out hk0 hk1 hr0 hr1 H.out).mono ?_
  unfold errAt
  rintro e w' ⟨rfl, rfl⟩
  go_wp2_with fail
  go_ret2
  exact ⟨rfl, rfl⟩
end Go.Proofs.YtkoakingmnjdoabDoor
