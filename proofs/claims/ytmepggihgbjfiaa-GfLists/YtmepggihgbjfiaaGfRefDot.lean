/- What the document's own Dot of package gf's chapter returns, of all lists: the sum of products; nothing is written. -/
import Derived.Test.YtmepggihgbjfiaaGfRefW
namespace Go.Proofs.Ytmepggihgbjfiaa
open Go.RowKit Gf
set_option linter.unusedVariables false
set_option maxHeartbeats 400000 in
theorem rdot_some (ba oa ca bb ob cb : Nat) (xs ys : List F) (w : World) (hm : xs.length ≤ maxLen) (hn : ys.length ≤ maxLen)
    (hx : ∀ j, j < xs.length → w.cell? ⟨ba, oa + j, none⟩ = some (.int .u8 ((at8 xs j).toNat : Int)))
    (hy : ∀ j, j < ys.length → w.cell? ⟨bb, ob + j, none⟩ = some (.int .u8 ((at8 ys j).toNat : Int))) :
    Calls Try.prog 26 #[.slice (some ⟨ba, oa, none⟩) xs.length ca, .slice (some ⟨bb, ob, none⟩) ys.length cb] w fun e w' => e = .returned (.int .u8 (dot xs ys).toNat) ∧ ∃ n, w' = w.drewN n := by
  unfold maxLen at hm hn
  have HD : Hid _ := dot_take_min xs ys (min xs.length ys.length) (Nat.le_refl _)
  go_enter Try.func26, Try.ntmps26
  go_wp2
  go_loopw [5, 6] (fun p i w' => ∃ k n : Nat, k ≤ xs.length ∧ k ≤ ys.length ∧ i = .int .i64 k ∧ p = .int .u8 (dot (xs.take k) (ys.take k)).toNat ∧ w' = w.drewN n) (fun _ i _ => xs.length - (intOf i).toNat)
  case atStart => exact ⟨0, 0, by omega, by omega, rfl, by simp [dot], rfl⟩
  case round =>
    obtain ⟨k, n, hk1, hk2, rfl, rfl, hwr⟩ := hrel
    have HW : Hid _ := hwr
    clear hwr
    by_cases hlt : k < xs.length
    · by_cases hlt2 : k < ys.length
      · have hxk : wr.cell? ⟨ba, oa + k, none⟩ = some (.int .u8 ((at8 xs k).toNat : Int)) := by rw [HW.out]; exact hx k hlt
        have hyk : wr.cell? ⟨bb, ob + k, none⟩ = some (.int .u8 ((at8 ys k).toNat : Int)) := by rw [HW.out]; exact hy k hlt2
        have HS : Hid _ := dot_step hlt hlt2
        clear hx hy
        go_wp2
        go_quiet ((go_at_call 18; exact Calls.quiet_of_eq (rmul_F _ _ _)))
        go_wp2
        first | exact ⟨⟨k + 1, _, by omega, by omega, by go_num, by rw [HS.out], by rw [HW.out, World.drewN_drewN]⟩, by simp [intOf]; omega⟩ | (go_roundw; case rel => exact ⟨k + 1, _, by omega, by omega, by go_num, by rw [HS.out], by rw [HW.out, World.drewN_drewN]⟩; case measure => simp [intOf]; omega)
      · have hk : k = min xs.length ys.length := by omega
        have HK : Hid _ := hk
        clear hk hx hy
        go_wp2
        go_ret
        exact ⟨by rw [HK.out, HD.out]; rfl, n, HW.out⟩
    · have hk : k = min xs.length ys.length := by omega
      have HK : Hid _ := hk
      clear hk hx hy
      go_wp2
      go_ret
      exact ⟨by rw [HK.out, HD.out]; rfl, n, HW.out⟩
set_option maxHeartbeats 400000 in
theorem rdot_none (a b : Option Addr) (la ca lb cb : Nat) (w : World) (h : la = 0 ∨ lb = 0) (ha : la ≤ maxLen) (hb : lb ≤ maxLen) :
    Calls Try.prog 26 #[.slice a la ca, .slice b lb cb] w fun e w' => e = .returned (.int .u8 0) ∧ w' = w := by
  unfold maxLen at ha hb
  by_cases h0 : la = 0
  · subst h0
    go_enter Try.func26, Try.ntmps26
    go_wp2
    refine wp_loop_rounds 1 ?_
    rw [rounds_succ]
    go_wp2
    go_ret
    exact ⟨rfl, rfl⟩
  · have h1 : 0 < la := by omega
    have h2 : lb = 0 := by omega
    clear h h0
    subst h2
    go_enter Try.func26, Try.ntmps26
    go_wp2
    refine wp_loop_rounds 1 ?_
    rw [rounds_succ]
    go_wp2
    go_ret
    exact ⟨rfl, rfl⟩
theorem rdot_B (a b : Option Addr) (la ca lb cb : Nat) (xs ys : List F) (v : F) (W : World) (hv : dot xs ys = v) (ha : la = xs.length) (hb : lb = ys.length) (hm : la ≤ 140737488355328) (hn : lb ≤ 140737488355328)
    (hx : Row8 W a xs) (hy : Row8 W b ys) :
    Calls Try.prog 26 #[.slice a la ca, .slice b lb cb] W fun e w' => e = .returned (.int .u8 v.toNat) ∧ Below W.heap.size W w' := by
  subst hv
  have hm' : la ≤ maxLen := by simp only [maxLen]; omega
  have hn' : lb ≤ maxLen := by simp only [maxLen]; omega
  rcases hx with rfl | ⟨ba, oa, rfl, hx⟩
  · exact (rdot_none a b la ca lb cb W (.inl ha) hm' hn').mono fun e w' ⟨h1, h2⟩ => ⟨h1, by rw [h2]; exact Below.refl _ _⟩
  · rcases hy with rfl | ⟨bb, ob, rfl, hy⟩
    · exact (rdot_none _ b la ca lb cb W (.inr hb) hm' hn').mono fun e w' ⟨h1, h2⟩ => ⟨by rw [dot_nil]; exact h1, by rw [h2]; exact Below.refl _ _⟩
    · subst ha hb
      exact (rdot_some ba oa ca bb ob cb xs ys W hm' hn' hx hy).mono fun e w' ⟨h1, n, h2⟩ => ⟨h1, by rw [h2]; exact below_drewN (Below.refl _ _) n⟩
end Go.Proofs.Ytmepggihgbjfiaa
