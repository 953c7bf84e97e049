/- What Dot of package gf returns, of all lists: the sum of products; nothing is written. -/
import Derived.Test.YtkoakingmnjdoaaGreatDoorGfW2
import Derived.Deep.QuietTactic
import Derived.BigQuiet
namespace Go.Proofs.YtkoakingmnjdoaaGreatDoor
open Go.RowKit Gf
set_option maxRecDepth 20000

theorem Calls.quiet_of_eq {P : Program} {f : FuncId} {args : Array Value} {w : World} {n : Nat} {v : Value}
    (h : Calls P f args (w.drewN n) fun e w' => e = .returned v ∧ w.drewN n = w') : Calls P f args (w.drewN n) fun e w'' => e = .returned v ∧ ∃ m, w'' = w.drewN m :=
  h.mono fun _ _ ⟨he, hm⟩ => ⟨he, n, hm.symm⟩
/-- the element at a place, 0 behind the end -/
def at8 (xs : List F) (k : Nat) : F := xs.getD k 0
/-- a list of bytes in memory -/
def Row8 (w : World) (a : Option Addr) (xs : List F) : Prop :=
  xs = [] ∨ ∃ b off, a = some ⟨b, off, none⟩ ∧ ∀ j, j < xs.length → w.cell? ⟨b, off + j, none⟩ = some (.int .u8 ((at8 xs j).toNat : Int))
def dot : List F → List F → F
  | x :: xs, y :: ys => ga (gm x y) (dot xs ys)
  | _, _ => 0
theorem at8_cons_succ (x : F) (xs : List F) (k : Nat) : at8 (x :: xs) (k + 1) = at8 xs k := rfl
theorem at8_cons_zero (x : F) (xs : List F) : at8 (x :: xs) 0 = x := rfl
theorem dot_take_succ : ∀ (xs ys : List F) (k : Nat), k < xs.length → k < ys.length → dot (xs.take (k + 1)) (ys.take (k + 1)) = ga (dot (xs.take k) (ys.take k)) (gm (at8 xs k) (at8 ys k))
  | [], _, _, h, _ => absurd h (Nat.not_lt_zero _)
  | _ :: _, [], _, _, h => absurd h (Nat.not_lt_zero _)
  | x :: xs, y :: ys, 0, _, _ => by simp [dot, at8]
  | x :: xs, y :: ys, k + 1, h1, h2 => by
    have := dot_take_succ xs ys k (by simpa using h1) (by simpa using h2)
    simp only [List.take_succ_cons, dot, at8_cons_succ]
    rw [this, F.add_assoc]
theorem dot_take_min : ∀ (xs ys : List F) (n : Nat), min xs.length ys.length ≤ n → dot (xs.take n) (ys.take n) = dot xs ys
  | [], _, n, _ => by cases n <;> simp [dot]
  | _ :: _, [], n, _ => by cases n <;> simp [dot]
  | x :: xs, y :: ys, n, h => by
    cases n with
    | zero => simp at h
    | succ n =>
      have := dot_take_min xs ys n (by simp at h; omega)
      simp [List.take_succ_cons, dot, this]
theorem dot_step {xs ys : List F} {k : Nat} (h1 : k < xs.length) (h2 : k < ys.length) :
    bits .xor .u8 ((dot (xs.take k) (ys.take k)).toNat : Int) ((gm (at8 xs k) (at8 ys k)).toNat : Int) = ((dot (xs.take (k + 1)) (ys.take (k + 1))).toNat : Int) := by
  rw [xor_val, dot_take_succ _ _ _ h1 h2]
theorem dot_nil (xs : List F) : dot xs [] = 0 := by cases xs <;> rfl
end Go.Proofs.YtkoakingmnjdoaaGreatDoor
