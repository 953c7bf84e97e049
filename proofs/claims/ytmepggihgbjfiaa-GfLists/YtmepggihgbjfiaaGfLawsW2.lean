/- The walks of the statements GfLaws and GfPowers: each returns true of all elements and numbers. -/
import Derived.Test.YtmepggihgbjfiaaGfLawsW
namespace Go.Proofs.Ytmepggihgbjfiaa
open Go.RowKit Gf
theorem add_0 (x : F) (w : World) : Calls Try.prog 16 #[.int .u8 x.toNat, .int .u8 0] w fun e w' => e = .returned (.int .u8 x.toNat) ∧ w = w' := by
  have := add_F x 0 w
  rw [F.add_zero, show (((0 : F).toNat : Nat) : Int) = 0 from rfl] at this
  exact this
theorem mul_1 (x : F) (w : World) : Calls Try.prog 17 #[.int .u8 x.toNat, .int .u8 1] w fun e w' => e = .returned (.int .u8 x.toNat) ∧ w = w' := by
  have := mul_F x 1 w
  rw [F.mul_one, show (((1 : F).toNat : Nat) : Int) = 1 from rfl] at this
  exact this
theorem mul_0 (x : F) (w : World) : Calls Try.prog 17 #[.int .u8 x.toNat, .int .u8 0] w fun e w' => e = .returned (.int .u8 0) ∧ w = w' := by
  have := mul_F x 0 w
  rw [F.mul_zero, show (((0 : F).toNat : Nat) : Int) = 0 from rfl] at this
  exact this
theorem add_x {x y z : F} (h : ga x y = z) (w : World) : Calls Try.prog 16 #[.int .u8 x.toNat, .int .u8 y.toNat] w fun e w' => e = .returned (.int .u8 z.toNat) ∧ w = w' := h ▸ add_F x y w
theorem mul_x {x y z : F} (h : gm x y = z) (w : World) : Calls Try.prog 17 #[.int .u8 x.toNat, .int .u8 y.toNat] w fun e w' => e = .returned (.int .u8 z.toNat) ∧ w = w' := h ▸ mul_F x y w
theorem add_s (x : F) (w : World) : Calls Try.prog 16 #[.int .u8 x.toNat, .int .u8 x.toNat] w fun e w' => e = .returned (.int .u8 0) ∧ w = w' := by
  have := add_F x x w
  rw [F.add_self, show (((0 : F).toNat : Nat) : Int) = 0 from rfl] at this
  exact this
theorem mul_i {x : F} (h : x ≠ 0) (w : World) : Calls Try.prog 17 #[.int .u8 x.toNat, .int .u8 (inv x).toNat] w fun e w' => e = .returned (.int .u8 1) ∧ w = w' := by
  have := mul_F x (inv x) w
  rw [F.mul_inv h, show (((1 : F).toNat : Nat) : Int) = 1 from rfl] at this
  exact this
theorem div_b {x y : F} (h : y ≠ 0) (w : World) : Calls Try.prog 12 #[.int .u8 (gm x y).toNat, .int .u8 y.toNat] w fun e w' => e = .returned (.tuple #[.int .u8 x.toNat, .bool true]) ∧ w = w' := by
  have := div_yes (x := gm x y) h w
  rw [F.mul_assoc, F.mul_inv h, F.mul_one] at this
  exact this
set_option maxHeartbeats 2000000 in
theorem laws_walk_00 (x y z : F) (w : World) (hx : x = 0) (hy : y = 0) :
    Calls Try.prog 5 #[.int .u8 x.toNat, .int .u8 y.toNat, .int .u8 z.toNat] w fun e w' => e = .returned (.bool true) ∧ Below w.heap.size w w' := by
  have HX : Hid _ := hx
  have HY : Hid _ := hy
  have t1 := bis0 hx
  have t3 := is0 hx
  have t2 := bis0 hy
  have t4 := is0 hy
  clear hx hy
  go_enter Try.func5, Try.ntmps5
  go_wp2_with fail
  refine Calls.mono (alive_ok _) ?_
  rintro e w1 ⟨rfl, hb⟩
  go_wp2_with fail
  refine Calls.mono (add_F x y _) ?_
  rintro e w' ⟨rfl, rfl⟩
  go_wp2_with fail
  refine Calls.mono (add_x (F.add_comm y x) _) ?_
  rintro e w' ⟨rfl, rfl⟩
  go_wp2_with fail
  refine Calls.mono (mul_F x y _) ?_
  rintro e w' ⟨rfl, rfl⟩
  go_wp2_with fail
  refine Calls.mono (mul_x (F.mul_comm y x) _) ?_
  rintro e w' ⟨rfl, rfl⟩
  go_wp2_with fail
  refine Calls.mono (add_s x _) ?_
  rintro e w' ⟨rfl, rfl⟩
  go_wp2_with fail
  refine Calls.mono (add_0 x _) ?_
  rintro e w' ⟨rfl, rfl⟩
  go_wp2_with fail
  refine Calls.mono (mul_1 x _) ?_
  rintro e w' ⟨rfl, rfl⟩
  go_wp2_with fail
  refine Calls.mono (mul_0 x _) ?_
  rintro e w' ⟨rfl, rfl⟩
  go_wp2_with fail
  refine Calls.mono (add_F x y _) ?_
  rintro e w' ⟨rfl, rfl⟩
  go_wp2_with fail
  refine Calls.mono (add_F (ga x y) z _) ?_
  rintro e w' ⟨rfl, rfl⟩
  go_wp2_with fail
  refine Calls.mono (add_F y z _) ?_
  rintro e w' ⟨rfl, rfl⟩
  go_wp2_with fail
  refine Calls.mono (add_x (F.add_assoc x y z).symm _) ?_
  rintro e w' ⟨rfl, rfl⟩
  go_wp2_with fail
  refine Calls.mono (mul_F x y _) ?_
  rintro e w' ⟨rfl, rfl⟩
  go_wp2_with fail
  refine Calls.mono (mul_F (gm x y) z _) ?_
  rintro e w' ⟨rfl, rfl⟩
  go_wp2_with fail
  refine Calls.mono (mul_F y z _) ?_
  rintro e w' ⟨rfl, rfl⟩
  go_wp2_with fail
  refine Calls.mono (mul_x (F.mul_assoc x y z).symm _) ?_
  rintro e w' ⟨rfl, rfl⟩
  go_wp2_with fail
  refine Calls.mono (add_F y z _) ?_
  rintro e w' ⟨rfl, rfl⟩
  go_wp2_with fail
  refine Calls.mono (mul_F x (ga y z) _) ?_
  rintro e w' ⟨rfl, rfl⟩
  go_wp2_with fail
  refine Calls.mono (mul_F x y _) ?_
  rintro e w' ⟨rfl, rfl⟩
  go_wp2_with fail
  refine Calls.mono (mul_F x z _) ?_
  rintro e w' ⟨rfl, rfl⟩
  go_wp2_with fail
  refine Calls.mono (add_x (F.mul_add x y z).symm _) ?_
  rintro e w' ⟨rfl, rfl⟩
  go_wp2_with fail
  refine Calls.mono (inv_no HX.out _) ?_
  rintro e w' ⟨rfl, rfl⟩
  go_wp2_with fail
  refine Calls.mono (mul_F x y _) ?_
  rintro e w' ⟨rfl, rfl⟩
  go_wp2_with fail
  refine Calls.mono (div_no HY.out _) ?_
  rintro e w' ⟨rfl, rfl⟩
  go_wp2_with fail
  go_ret
  exact ⟨rfl, hb⟩
set_option maxHeartbeats 2000000 in
theorem laws_walk_01 (x y z : F) (w : World) (hx : x = 0) (hy : y ≠ 0) :
    Calls Try.prog 5 #[.int .u8 x.toNat, .int .u8 y.toNat, .int .u8 z.toNat] w fun e w' => e = .returned (.bool true) ∧ Below w.heap.size w w' := by
  have HX : Hid _ := hx
  have HY : Hid _ := hy
  have t1 := bis0 hx
  have t3 := is0 hx
  have t2 := bne0 hy
  have t4 := ne0 hy
  clear hx hy
  go_enter Try.func5, Try.ntmps5
  go_wp2_with fail
  refine Calls.mono (alive_ok _) ?_
  rintro e w1 ⟨rfl, hb⟩
  go_wp2_with fail
  refine Calls.mono (add_F x y _) ?_
  rintro e w' ⟨rfl, rfl⟩
  go_wp2_with fail
  refine Calls.mono (add_x (F.add_comm y x) _) ?_
  rintro e w' ⟨rfl, rfl⟩
  go_wp2_with fail
  refine Calls.mono (mul_F x y _) ?_
  rintro e w' ⟨rfl, rfl⟩
  go_wp2_with fail
  refine Calls.mono (mul_x (F.mul_comm y x) _) ?_
  rintro e w' ⟨rfl, rfl⟩
  go_wp2_with fail
  refine Calls.mono (add_s x _) ?_
  rintro e w' ⟨rfl, rfl⟩
  go_wp2_with fail
  refine Calls.mono (add_0 x _) ?_
  rintro e w' ⟨rfl, rfl⟩
  go_wp2_with fail
  refine Calls.mono (mul_1 x _) ?_
  rintro e w' ⟨rfl, rfl⟩
  go_wp2_with fail
  refine Calls.mono (mul_0 x _) ?_
  rintro e w' ⟨rfl, rfl⟩
  go_wp2_with fail
  refine Calls.mono (add_F x y _) ?_
  rintro e w' ⟨rfl, rfl⟩
  go_wp2_with fail
  refine Calls.mono (add_F (ga x y) z _) ?_
  rintro e w' ⟨rfl, rfl⟩
  go_wp2_with fail
  refine Calls.mono (add_F y z _) ?_
  rintro e w' ⟨rfl, rfl⟩
  go_wp2_with fail
  refine Calls.mono (add_x (F.add_assoc x y z).symm _) ?_
  rintro e w' ⟨rfl, rfl⟩
  go_wp2_with fail
  refine Calls.mono (mul_F x y _) ?_
  rintro e w' ⟨rfl, rfl⟩
  go_wp2_with fail
  refine Calls.mono (mul_F (gm x y) z _) ?_
  rintro e w' ⟨rfl, rfl⟩
  go_wp2_with fail
  refine Calls.mono (mul_F y z _) ?_
  rintro e w' ⟨rfl, rfl⟩
  go_wp2_with fail
  refine Calls.mono (mul_x (F.mul_assoc x y z).symm _) ?_
  rintro e w' ⟨rfl, rfl⟩
  go_wp2_with fail
  refine Calls.mono (add_F y z _) ?_
  rintro e w' ⟨rfl, rfl⟩
  go_wp2_with fail
  refine Calls.mono (mul_F x (ga y z) _) ?_
  rintro e w' ⟨rfl, rfl⟩
  go_wp2_with fail
  refine Calls.mono (mul_F x y _) ?_
  rintro e w' ⟨rfl, rfl⟩
  go_wp2_with fail
  refine Calls.mono (mul_F x z _) ?_
  rintro e w' ⟨rfl, rfl⟩
  go_wp2_with fail
  refine Calls.mono (add_x (F.mul_add x y z).symm _) ?_
  rintro e w' ⟨rfl, rfl⟩
  go_wp2_with fail
  refine Calls.mono (inv_no HX.out _) ?_
  rintro e w' ⟨rfl, rfl⟩
  go_wp2_with fail
  refine Calls.mono (mul_F x y _) ?_
  rintro e w' ⟨rfl, rfl⟩
  go_wp2_with fail
  refine Calls.mono (div_b HY.out _) ?_
  rintro e w' ⟨rfl, rfl⟩
  go_wp2_with fail
  go_ret
  exact ⟨rfl, hb⟩
set_option maxHeartbeats 2000000 in
theorem laws_walk_10 (x y z : F) (w : World) (hx : x ≠ 0) (hy : y = 0) :
    Calls Try.prog 5 #[.int .u8 x.toNat, .int .u8 y.toNat, .int .u8 z.toNat] w fun e w' => e = .returned (.bool true) ∧ Below w.heap.size w w' := by
  have HX : Hid _ := hx
  have HY : Hid _ := hy
  have t1 := bne0 hx
  have t3 := ne0 hx
  have t2 := bis0 hy
  have t4 := is0 hy
  clear hx hy
  go_enter Try.func5, Try.ntmps5
  go_wp2_with fail
  refine Calls.mono (alive_ok _) ?_
  rintro e w1 ⟨rfl, hb⟩
  go_wp2_with fail
  refine Calls.mono (add_F x y _) ?_
  rintro e w' ⟨rfl, rfl⟩
  go_wp2_with fail
  refine Calls.mono (add_x (F.add_comm y x) _) ?_
  rintro e w' ⟨rfl, rfl⟩
  go_wp2_with fail
  refine Calls.mono (mul_F x y _) ?_
  rintro e w' ⟨rfl, rfl⟩
  go_wp2_with fail
  refine Calls.mono (mul_x (F.mul_comm y x) _) ?_
  rintro e w' ⟨rfl, rfl⟩
  go_wp2_with fail
  refine Calls.mono (add_s x _) ?_
  rintro e w' ⟨rfl, rfl⟩
  go_wp2_with fail
  refine Calls.mono (add_0 x _) ?_
  rintro e w' ⟨rfl, rfl⟩
  go_wp2_with fail
  refine Calls.mono (mul_1 x _) ?_
  rintro e w' ⟨rfl, rfl⟩
  go_wp2_with fail
  refine Calls.mono (mul_0 x _) ?_
  rintro e w' ⟨rfl, rfl⟩
  go_wp2_with fail
  refine Calls.mono (add_F x y _) ?_
  rintro e w' ⟨rfl, rfl⟩
  go_wp2_with fail
  refine Calls.mono (add_F (ga x y) z _) ?_
  rintro e w' ⟨rfl, rfl⟩
  go_wp2_with fail
  refine Calls.mono (add_F y z _) ?_
  rintro e w' ⟨rfl, rfl⟩
  go_wp2_with fail
  refine Calls.mono (add_x (F.add_assoc x y z).symm _) ?_
  rintro e w' ⟨rfl, rfl⟩
  go_wp2_with fail
  refine Calls.mono (mul_F x y _) ?_
  rintro e w' ⟨rfl, rfl⟩
  go_wp2_with fail
  refine Calls.mono (mul_F (gm x y) z _) ?_
  rintro e w' ⟨rfl, rfl⟩
  go_wp2_with fail
  refine Calls.mono (mul_F y z _) ?_
  rintro e w' ⟨rfl, rfl⟩
  go_wp2_with fail
  refine Calls.mono (mul_x (F.mul_assoc x y z).symm _) ?_
  rintro e w' ⟨rfl, rfl⟩
  go_wp2_with fail
  refine Calls.mono (add_F y z _) ?_
  rintro e w' ⟨rfl, rfl⟩
  go_wp2_with fail
  refine Calls.mono (mul_F x (ga y z) _) ?_
  rintro e w' ⟨rfl, rfl⟩
  go_wp2_with fail
  refine Calls.mono (mul_F x y _) ?_
  rintro e w' ⟨rfl, rfl⟩
  go_wp2_with fail
  refine Calls.mono (mul_F x z _) ?_
  rintro e w' ⟨rfl, rfl⟩
  go_wp2_with fail
  refine Calls.mono (add_x (F.mul_add x y z).symm _) ?_
  rintro e w' ⟨rfl, rfl⟩
  go_wp2_with fail
  refine Calls.mono (inv_yes HX.out _) ?_
  rintro e w' ⟨rfl, rfl⟩
  go_wp2_with fail
  refine Calls.mono (mul_F x y _) ?_
  rintro e w' ⟨rfl, rfl⟩
  go_wp2_with fail
  refine Calls.mono (div_no HY.out _) ?_
  rintro e w' ⟨rfl, rfl⟩
  go_wp2_with fail
  refine Calls.mono (mul_i HX.out _) ?_
  rintro e w' ⟨rfl, rfl⟩
  go_wp2_with fail
  go_ret
  exact ⟨rfl, hb⟩
set_option maxHeartbeats 2000000 in
theorem laws_walk_11 (x y z : F) (w : World) (hx : x ≠ 0) (hy : y ≠ 0) :
    Calls Try.prog 5 #[.int .u8 x.toNat, .int .u8 y.toNat, .int .u8 z.toNat] w fun e w' => e = .returned (.bool true) ∧ Below w.heap.size w w' := by
  have HX : Hid _ := hx
  have HY : Hid _ := hy
  have t1 := bne0 hx
  have t3 := ne0 hx
  have t2 := bne0 hy
  have t4 := ne0 hy
  clear hx hy
  go_enter Try.func5, Try.ntmps5
  go_wp2_with fail
  refine Calls.mono (alive_ok _) ?_
  rintro e w1 ⟨rfl, hb⟩
  go_wp2_with fail
  refine Calls.mono (add_F x y _) ?_
  rintro e w' ⟨rfl, rfl⟩
  go_wp2_with fail
  refine Calls.mono (add_x (F.add_comm y x) _) ?_
  rintro e w' ⟨rfl, rfl⟩
  go_wp2_with fail
  refine Calls.mono (mul_F x y _) ?_
  rintro e w' ⟨rfl, rfl⟩
  go_wp2_with fail
  refine Calls.mono (mul_x (F.mul_comm y x) _) ?_
  rintro e w' ⟨rfl, rfl⟩
  go_wp2_with fail
  refine Calls.mono (add_s x _) ?_
  rintro e w' ⟨rfl, rfl⟩
  go_wp2_with fail
  refine Calls.mono (add_0 x _) ?_
  rintro e w' ⟨rfl, rfl⟩
  go_wp2_with fail
  refine Calls.mono (mul_1 x _) ?_
  rintro e w' ⟨rfl, rfl⟩
  go_wp2_with fail
  refine Calls.mono (mul_0 x _) ?_
  rintro e w' ⟨rfl, rfl⟩
  go_wp2_with fail
  refine Calls.mono (add_F x y _) ?_
  rintro e w' ⟨rfl, rfl⟩
  go_wp2_with fail
  refine Calls.mono (add_F (ga x y) z _) ?_
  rintro e w' ⟨rfl, rfl⟩
  go_wp2_with fail
  refine Calls.mono (add_F y z _) ?_
  rintro e w' ⟨rfl, rfl⟩
  go_wp2_with fail
  refine Calls.mono (add_x (F.add_assoc x y z).symm _) ?_
  rintro e w' ⟨rfl, rfl⟩
  go_wp2_with fail
  refine Calls.mono (mul_F x y _) ?_
  rintro e w' ⟨rfl, rfl⟩
  go_wp2_with fail
  refine Calls.mono (mul_F (gm x y) z _) ?_
  rintro e w' ⟨rfl, rfl⟩
  go_wp2_with fail
  refine Calls.mono (mul_F y z _) ?_
  rintro e w' ⟨rfl, rfl⟩
  go_wp2_with fail
  refine Calls.mono (mul_x (F.mul_assoc x y z).symm _) ?_
  rintro e w' ⟨rfl, rfl⟩
  go_wp2_with fail
  refine Calls.mono (add_F y z _) ?_
  rintro e w' ⟨rfl, rfl⟩
  go_wp2_with fail
  refine Calls.mono (mul_F x (ga y z) _) ?_
  rintro e w' ⟨rfl, rfl⟩
  go_wp2_with fail
  refine Calls.mono (mul_F x y _) ?_
  rintro e w' ⟨rfl, rfl⟩
  go_wp2_with fail
  refine Calls.mono (mul_F x z _) ?_
  rintro e w' ⟨rfl, rfl⟩
  go_wp2_with fail
  refine Calls.mono (add_x (F.mul_add x y z).symm _) ?_
  rintro e w' ⟨rfl, rfl⟩
  go_wp2_with fail
  refine Calls.mono (inv_yes HX.out _) ?_
  rintro e w' ⟨rfl, rfl⟩
  go_wp2_with fail
  refine Calls.mono (mul_F x y _) ?_
  rintro e w' ⟨rfl, rfl⟩
  go_wp2_with fail
  refine Calls.mono (div_b HY.out _) ?_
  rintro e w' ⟨rfl, rfl⟩
  go_wp2_with fail
  refine Calls.mono (mul_i HX.out _) ?_
  rintro e w' ⟨rfl, rfl⟩
  go_wp2_with fail
  go_ret
  exact ⟨rfl, hb⟩
theorem laws_walk (x y z : F) (w : World) :
    Calls Try.prog 5 #[.int .u8 x.toNat, .int .u8 y.toNat, .int .u8 z.toNat] w fun e w' => e = .returned (.bool true) ∧ Below w.heap.size w w' := by
  by_cases hx : x = 0 <;> by_cases hy : y = 0
  · exact laws_walk_00 x y z w hx hy
  · exact laws_walk_01 x y z w hx hy
  · exact laws_walk_10 x y z w hx hy
  · exact laws_walk_11 x y z w hx hy
end Go.Proofs.Ytmepggihgbjfiaa
