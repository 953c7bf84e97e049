/- The walks of the statements GfLaws, GfLogs and GfPowers: each returns true of all elements and numbers. -/
import Derived.Test.YtmepggihgbjfiaaGfAlive
import Derived.WalkSmall
namespace Go.Proofs.Ytmepggihgbjfiaa
open Go.RowKit Gf
theorem eqv_yes {x y : F} (h : x = y) : ((x.toNat : Int) == (y.toNat : Int)) = true := by simp [h]
theorem eqv_no {x y : F} (h : x ≠ y) : ((x.toNat : Int) == (y.toNat : Int)) = false := by
  have : x.toNat ≠ y.toNat := fun e => h (F.ext' e)
  simp; omega
theorem ne0 {x : F} (h : x ≠ 0) : ((x.toNat : Int) == 0) = false := eqv_no h
theorem is0 {x : F} (h : x = 0) : ((x.toNat : Int) == 0) = true := eqv_yes h
theorem log_no {x : F} (h : x = 0) (w : World) : Calls Try.prog 14 #[.int .u8 x.toNat] w fun e w' => e = .returned (.tuple #[.int .i64 0, .bool false]) ∧ w = w' := by
  have := log_F x w
  rw [show logF x = 0 from if_pos h, show decide (x ≠ 0) = false from by simp [h]] at this
  exact this
theorem log_yes {x : F} (h : x ≠ 0) (w : World) : Calls Try.prog 14 #[.int .u8 x.toNat] w fun e w' => e = .returned (.tuple #[.int .i64 ((logT x.toNat : Nat) : Int), .bool true]) ∧ w = w' := by
  have := log_F x w
  rw [show logF x = ((logT x.toNat : Nat) : Int) from if_neg h, decide_eq_true h] at this
  exact this
theorem inv_no {x : F} (h : x = 0) (w : World) : Calls Try.prog 10 #[.int .u8 x.toNat] w fun e w' => e = .returned (.tuple #[.int .u8 0, .bool false]) ∧ w = w' := by
  have := inv_F x w
  rw [if_pos h, show decide (x ≠ 0) = false from by simp [h]] at this
  exact this
theorem inv_yes {x : F} (h : x ≠ 0) (w : World) : Calls Try.prog 10 #[.int .u8 x.toNat] w fun e w' => e = .returned (.tuple #[.int .u8 (inv x).toNat, .bool true]) ∧ w = w' := by
  have := inv_F x w
  rw [if_neg h, decide_eq_true h] at this
  exact this
theorem div_no {x y : F} (h : y = 0) (w : World) : Calls Try.prog 12 #[.int .u8 x.toNat, .int .u8 y.toNat] w fun e w' => e = .returned (.tuple #[.int .u8 0, .bool false]) ∧ w = w' := by
  have := div_F x y w
  rw [if_pos h, show decide (y ≠ 0) = false from by simp [h]] at this
  exact this
theorem div_yes {x y : F} (h : y ≠ 0) (w : World) : Calls Try.prog 12 #[.int .u8 x.toNat, .int .u8 y.toNat] w fun e w' => e = .returned (.tuple #[.int .u8 (gm x (inv y)).toNat, .bool true]) ∧ w = w' := by
  have := div_F x y w
  rw [if_neg h, decide_eq_true h] at this
  exact this
theorem log_sum {x y : F} (hx : x ≠ 0) (hy : y ≠ 0) : (((logT (gm x y).toNat : Nat) : Int) == (((logT x.toNat : Nat) : Int) + ((logT y.toNat : Nat) : Int)) % 255) = true := by
  rw [F.log_mul hx hy]; simp
theorem log_eq {x y : F} (hx : x ≠ 0) (hy : y ≠ 0) : ((((logT x.toNat : Nat) : Int) == ((logT y.toNat : Nat) : Int)) == ((x.toNat : Int) == (y.toNat : Int))) = true := by
  by_cases h : x = y
  · simp [h]
  · rw [eqv_no h]
    have : logT x.toNat ≠ logT y.toNat := fun e => h (F.log_inj hx hy e)
    simp; omega
theorem bne0 {x : F} (h : x ≠ 0) : ((x.toNat : Int) != 0) = true := by rw [bne, ne0 h]; rfl
theorem bis0 {x : F} (h : x = 0) : ((x.toNat : Int) != 0) = false := by rw [bne, is0 h]; rfl
set_option maxHeartbeats 1000000 in
theorem logs_walk_00 (x y : F) (w : World) (hx : x = 0) (hy : y = 0) :
    Calls Try.prog 8 #[.int .u8 x.toNat, .int .u8 y.toNat] w fun e w' => e = .returned (.bool true) ∧ Below w.heap.size w w' := by
  have HX : Hid _ := hx
  have HY : Hid _ := hy
  have HZ : Hid (gm x y = 0) := by rw [hx, F.zero_mul]; rfl
  have t1 := bis0 hx
  have t2 := bis0 hy
  clear hx hy
  go_enter Try.func8, Try.ntmps8
  go_wp2_with fail
  refine Calls.mono (alive_ok _) ?_
  rintro e w1 ⟨rfl, hb⟩
  go_wp2_with fail
  refine Calls.mono (log_no HX.out _) ?_
  rintro e w' ⟨rfl, rfl⟩
  go_wp2_with fail
  refine Calls.mono (log_no HY.out _) ?_
  rintro e w' ⟨rfl, rfl⟩
  go_wp2_with fail
  refine Calls.mono (mul_F _ _ _) ?_
  rintro e w' ⟨rfl, rfl⟩
  go_wp2_with fail
  refine Calls.mono (log_no HZ.out _) ?_
  rintro e w' ⟨rfl, rfl⟩
  go_wp2_with fail
  go_ret
  exact ⟨rfl, hb⟩
set_option maxHeartbeats 1000000 in
theorem logs_walk_01 (x y : F) (w : World) (hx : x = 0) (hy : y ≠ 0) :
    Calls Try.prog 8 #[.int .u8 x.toNat, .int .u8 y.toNat] w fun e w' => e = .returned (.bool true) ∧ Below w.heap.size w w' := by
  have HX : Hid _ := hx
  have HY : Hid _ := hy
  have HZ : Hid (gm x y = 0) := by rw [hx, F.zero_mul]; rfl
  have t1 := bis0 hx
  have t2 := bne0 hy
  clear hx hy
  go_enter Try.func8, Try.ntmps8
  go_wp2_with fail
  refine Calls.mono (alive_ok _) ?_
  rintro e w1 ⟨rfl, hb⟩
  go_wp2_with fail
  refine Calls.mono (log_no HX.out _) ?_
  rintro e w' ⟨rfl, rfl⟩
  go_wp2_with fail
  refine Calls.mono (log_yes HY.out _) ?_
  rintro e w' ⟨rfl, rfl⟩
  go_wp2_with fail
  refine Calls.mono (mul_F _ _ _) ?_
  rintro e w' ⟨rfl, rfl⟩
  go_wp2_with fail
  refine Calls.mono (log_no HZ.out _) ?_
  rintro e w' ⟨rfl, rfl⟩
  go_wp2_with fail
  go_ret
  exact ⟨rfl, hb⟩
set_option maxHeartbeats 1000000 in
theorem logs_walk_10 (x y : F) (w : World) (hx : x ≠ 0) (hy : y = 0) :
    Calls Try.prog 8 #[.int .u8 x.toNat, .int .u8 y.toNat] w fun e w' => e = .returned (.bool true) ∧ Below w.heap.size w w' := by
  have HX : Hid _ := hx
  have HY : Hid _ := hy
  have HZ : Hid (gm x y = 0) := by rw [hy, F.mul_zero]; rfl
  have t1 := bne0 hx
  have t2 := bis0 hy
  clear hx hy
  go_enter Try.func8, Try.ntmps8
  go_wp2_with fail
  refine Calls.mono (alive_ok _) ?_
  rintro e w1 ⟨rfl, hb⟩
  go_wp2_with fail
  refine Calls.mono (log_yes HX.out _) ?_
  rintro e w' ⟨rfl, rfl⟩
  go_wp2_with fail
  refine Calls.mono (log_no HY.out _) ?_
  rintro e w' ⟨rfl, rfl⟩
  go_wp2_with fail
  refine Calls.mono (mul_F _ _ _) ?_
  rintro e w' ⟨rfl, rfl⟩
  go_wp2_with fail
  refine Calls.mono (log_no HZ.out _) ?_
  rintro e w' ⟨rfl, rfl⟩
  go_wp2_with fail
  go_ret
  exact ⟨rfl, hb⟩
set_option maxHeartbeats 1000000 in
theorem logs_walk_11 (x y : F) (w : World) (hx : x ≠ 0) (hy : y ≠ 0) :
    Calls Try.prog 8 #[.int .u8 x.toNat, .int .u8 y.toNat] w fun e w' => e = .returned (.bool true) ∧ Below w.heap.size w w' := by
  have HX : Hid _ := hx
  have HY : Hid _ := hy
  have HZ : Hid (gm x y ≠ 0) := by exact F.mul_ne_zero hx hy
  have t1 := bne0 hx
  have t2 := bne0 hy
  have s1 := log_sum hx hy
  have s2 := log_eq hx hy
  have l1 : ((logT x.toNat : Nat) : Int) < 255 := by have := F.log_lt hx; omega
  have l2 : ((logT y.toNat : Nat) : Int) < 255 := by have := F.log_lt hy; omega
  clear hx hy
  go_enter Try.func8, Try.ntmps8
  go_wp2_with fail
  refine Calls.mono (alive_ok _) ?_
  rintro e w1 ⟨rfl, hb⟩
  go_wp2_with fail
  refine Calls.mono (log_yes HX.out _) ?_
  rintro e w' ⟨rfl, rfl⟩
  go_wp2_with fail
  refine Calls.mono (log_yes HY.out _) ?_
  rintro e w' ⟨rfl, rfl⟩
  go_wp2_with fail
  refine Calls.mono (mul_F _ _ _) ?_
  rintro e w' ⟨rfl, rfl⟩
  go_wp2_with fail
  refine Calls.mono (log_yes HZ.out _) ?_
  rintro e w' ⟨rfl, rfl⟩
  go_wp2_with fail
  go_ret
  exact ⟨rfl, hb⟩
theorem logs_walk (x y : F) (w : World) :
    Calls Try.prog 8 #[.int .u8 x.toNat, .int .u8 y.toNat] w fun e w' => e = .returned (.bool true) ∧ Below w.heap.size w w' := by
  by_cases hx : x = 0 <;> by_cases hy : y = 0
  · exact logs_walk_00 x y w hx hy
  · exact logs_walk_01 x y w hx hy
  · exact logs_walk_10 x y w hx hy
  · exact logs_walk_11 x y w hx hy
end Go.Proofs.Ytmepggihgbjfiaa
