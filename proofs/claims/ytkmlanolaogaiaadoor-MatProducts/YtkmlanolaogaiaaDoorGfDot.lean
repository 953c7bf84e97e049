/- What Dot of package gf returns, of all lists: the sum of products; nothing is written. -/
import Derived.Test.YtkmlanolaogaiaaDoorGfW2
import Derived.Deep.QuietTactic
import Derived.BigQuiet
namespace Go.Proofs.YtkmlanolaogaiaaDoor
open Go.RowKit Gf
set_option maxRecDepth 20000

theorem Calls.quiet_of_eq {P : Program} {f : FuncId} {args : Array Value} {w : World} {n : Nat} {v : Value}
    (h : Calls P f args (w.drewN n) fun e w' => e = .returned v ∧ w.drewN n = w') : Calls P f args (w.drewN n) fun e w'' => e = .returned v ∧ ∃ m, w'' = w.drewN m :=
  h.mono fun _ _ ⟨he, hm⟩ => ⟨he, n, hm.symm⟩
/-- the element at a place, 0 behind the end -/
def at8 (xs : List F) (k : Nat) : F := xs.getD k 0
/-- a list of bytes in memory -/
def Row8 (w : World) (a : Option Addr) (xs : List F) : Prop :=
  xs = [] ∨ ∃ b off, a = some ⟨b, off, none⟩ ∧ ∀ j, j < xs.length → w.cell? ⟨b, off + j, none⟩ = some (.int .u8 ((at8 xs j).toNat : Int))
def dot : List F → List F → F
  | x :: xs, y :: ys => ga (gm x y) (dot xs ys)
  | _, _ => 0
theorem at8_cons_succ (x : F) (xs : List F) (k : Nat) : at8 (x :: xs) (k + 1) = at8 xs k := rfl
theorem at8_cons_zero (x : F) (xs : List F) : at8 (x :: xs) 0 = x := rfl
theorem dot_take_succ : ∀ (xs ys : List F) (k : Nat), k < xs.length → k < ys.length → dot (xs.take (k + 1)) (ys.take (k + 1)) = ga (dot (xs.take k) (ys.take k)) (gm (at8 xs k) (at8 ys k))
  | [], _, _, h, _ => absurd h (Nat.not_lt_zero _)
  | _ :: _, [], _, _, h => absurd h (Nat.not_lt_zero _)
  | x :: xs, y :: ys, 0, _, _ => by simp [dot, at8]
  | x :: xs, y :: ys, k + 1, h1, h2 => by
    have := dot_take_succ xs ys k (by simpa using h1) (by simpa using h2)
    simp only [List.take_succ_cons, dot, at8_cons_succ]
    rw [this, F.add_assoc]
theorem dot_take_min : ∀ (xs ys : List F) (n : Nat), min xs.length ys.length ≤ n → dot (xs.take n) (ys.take n) = dot xs ys
  | [], _, n, _ => by cases n <;> simp [dot]
  | _ :: _, [], n, _ => by cases n <;> simp [dot]
  | x :: xs, y :: ys, n, h => by
    cases n with
    | zero => simp at h
    | succ n =>
      have := dot_take_min xs ys n (by simp at h; omega)
      simp [List.take_succ_cons, dot, this]
theorem dot_step {xs ys : List F} {k : Nat} (h1 : k < xs.length) (h2 : k < ys.length) :
    bits .xor .u8 ((dot (xs.take k) (ys.take k)).toNat : Int) ((gm (at8 xs k) (at8 ys k)).toNat : Int) = ((dot (xs.take (k + 1)) (ys.take (k + 1))).toNat : Int) := by
  rw [xor_val, dot_take_succ _ _ _ h1 h2]
set_option maxHeartbeats 400000 in
theorem dot_some (ba oa ca bb ob cb : Nat) (xs ys : List F) (w : World) (hm : xs.length ≤ maxLen)
    (hx : ∀ j, j < xs.length → w.cell? ⟨ba, oa + j, none⟩ = some (.int .u8 ((at8 xs j).toNat : Int)))
    (hy : ∀ j, j < ys.length → w.cell? ⟨bb, ob + j, none⟩ = some (.int .u8 ((at8 ys j).toNat : Int))) :
    Calls Tryd.prog 45 #[.slice (some ⟨ba, oa, none⟩) xs.length ca, .slice (some ⟨bb, ob, none⟩) ys.length cb] w fun e w' => e = .returned (.int .u8 (dot xs ys).toNat) ∧ ∃ n, w' = w.drewN n := by
  unfold maxLen at hm
  have HD : Hid _ := dot_take_min xs ys (min xs.length ys.length) (Nat.le_refl _)
  rcases Nat.lt_or_ge ys.length xs.length with h | h
  all_goals
    go_enter Tryd.func45, Tryd.ntmps45
    go_wp2
    go_loopw [5, 12] (fun p i w' => ∃ k n : Nat, k ≤ xs.length ∧ k ≤ ys.length ∧ i = .int .i64 k ∧ p = .int .u8 (dot (xs.take k) (ys.take k)).toNat ∧ w' = w.drewN n) (fun _ i _ => xs.length - (intOf i).toNat)
    case atStart => exact ⟨0, 0, by omega, by omega, rfl, by simp [dot], rfl⟩
    case round =>
      obtain ⟨k, n, hk1, hk2, rfl, rfl, hwr⟩ := hrel
      have HW : Hid _ := hwr
      clear hwr
      by_cases hlt : k < xs.length ∧ k < ys.length
      · obtain ⟨h1, h2⟩ := hlt
        have hxk : wr.cell? ⟨ba, oa + k, none⟩ = some (.int .u8 ((at8 xs k).toNat : Int)) := by rw [HW.out]; exact hx k h1
        have hyk : wr.cell? ⟨bb, ob + k, none⟩ = some (.int .u8 ((at8 ys k).toNat : Int)) := by rw [HW.out]; exact hy k h2
        have HS : Hid _ := dot_step h1 h2
        clear hx hy
        go_wp2
        go_quiet ((go_at_call 55; exact Calls.quiet_of_eq (mul_F _ _ _)))
        go_wp2
        go_roundw
        case rel => exact ⟨k + 1, _, by omega, by omega, by go_num, by rw [HS.out], by rw [HW.out, World.drewN_drewN]⟩
        case measure => simp [intOf]; omega
      · have hk : k = min xs.length ys.length := by omega
        have HK : Hid _ := hk
        clear hk hx hy
        go_wp2
        go_ret
        exact ⟨by rw [HK.out, HD.out]; rfl, n, HW.out⟩

set_option maxHeartbeats 400000 in
theorem dot_none (a b : Option Addr) (la ca lb cb : Nat) (w : World) (h : la = 0 ∨ lb = 0) (ha : la ≤ maxLen) (hb : lb ≤ maxLen) :
    Calls Tryd.prog 45 #[.slice a la ca, .slice b lb cb] w fun e w' => e = .returned (.int .u8 0) ∧ w' = w := by
  unfold maxLen at ha hb
  rcases h with h | h
  · have hlt : ¬ lb < la := by omega
    subst h
    go_enter Tryd.func45, Tryd.ntmps45
    go_wp2
    refine wp_loop_rounds 1 ?_
    rw [rounds_succ]
    go_wp2
    go_ret
    exact ⟨rfl, rfl⟩
  · by_cases hlt : la = 0
    · subst h hlt
      go_enter Tryd.func45, Tryd.ntmps45
      go_wp2
      refine wp_loop_rounds 1 ?_
      rw [rounds_succ]
      go_wp2
      go_ret
      exact ⟨rfl, rfl⟩
    · have hl : lb < la := by omega
      clear hlt
      subst h
      go_enter Tryd.func45, Tryd.ntmps45
      go_wp2
      refine wp_loop_rounds 1 ?_
      rw [rounds_succ]
      go_wp2
      go_ret
      exact ⟨rfl, rfl⟩
theorem dot_nil (xs : List F) : dot xs [] = 0 := by cases xs <;> rfl
theorem dot_any (a b : Option Addr) (la ca lb cb : Nat) (xs ys : List F) (w : World) (ha : la = xs.length) (hb : lb = ys.length) (hm : la ≤ maxLen) (hn : lb ≤ maxLen)
    (hx : Row8 w a xs) (hy : Row8 w b ys) :
    Calls Tryd.prog 45 #[.slice a la ca, .slice b lb cb] w fun e w' => e = .returned (.int .u8 (dot xs ys).toNat) ∧ ∃ n, w' = w.drewN n := by
  rcases hx with rfl | ⟨ba, oa, rfl, hx⟩
  · exact (dot_none a b la ca lb cb w (.inl ha) hm hn).mono fun e w' ⟨h1, h2⟩ => ⟨h1, 0, h2⟩
  · rcases hy with rfl | ⟨bb, ob, rfl, hy⟩
    · exact (dot_none _ b la ca lb cb w (.inr hb) hm hn).mono fun e w' ⟨h1, h2⟩ => ⟨by rw [dot_nil]; exact h1, 0, h2⟩
    · subst ha hb
      exact dot_some ba oa ca bb ob cb xs ys w hm hx hy
end Go.Proofs.YtkmlanolaogaiaaDoor
