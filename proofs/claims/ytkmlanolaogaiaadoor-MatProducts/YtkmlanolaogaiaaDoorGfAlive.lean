/- The chapter's worked answers of package gf hold: the function 'alive' of the statements returns true, and writes nothing that was there. -/
import Derived.Test.YtkmlanolaogaiaaDoorGfDot
namespace Go.Proofs.YtkmlanolaogaiaaDoor
open Go.RowKit Gf
set_option maxRecDepth 20000
theorem inv2 (w : World) : Calls Tryd.prog 64 #[.int .u8 2] w fun e w' => e = .returned (.tuple #[.int .u8 142, .bool true]) ∧ w = w' := by
  have h := inv_F 2 w
  rw [if_neg (by decide +kernel), show decide ((2 : F) ≠ 0) = true from by decide +kernel] at h
  have e : ((inv 2).toNat : Int) = 142 := by decide +kernel
  rw [e] at h
  exact h
theorem mul2 (w : World) : Calls Tryd.prog 55 #[.int .u8 2, .int .u8 128] w fun e w' => e = .returned (.int .u8 29) ∧ w = w' := by
  have h := mul_any 2 128 w (by decide) (by decide) (by decide) (by decide)
  rw [show mulI 2 128 = 29 from by decide +kernel] at h
  exact h
theorem mul3 (w : World) : Calls Tryd.prog 55 #[.int .u8 3, .int .u8 7] w fun e w' => e = .returned (.int .u8 9) ∧ w = w' := by
  have h := mul_any 3 7 w (by decide) (by decide) (by decide) (by decide)
  rw [show mulI 3 7 = 9 from by decide +kernel] at h
  exact h
theorem alive_dot (w : World) : Calls Tryd.prog 45 #[.slice (some ⟨w.heap.size, 0, none⟩) 2 2, .slice (some ⟨w.heap.size + 1, 0, none⟩) 3 3]
    ((w.alloc (.cells #[.int .u8 1, .int .u8 2] 5)).alloc (.cells #[.int .u8 3, .int .u8 4, .int .u8 5] 5)) fun e w' => e = .returned (.int .u8 11) ∧
      Below (w.heap.size + 2) ((w.alloc (.cells #[.int .u8 1, .int .u8 2] 5)).alloc (.cells #[.int .u8 3, .int .u8 4, .int .u8 5] 5)) w' := by
  refine (dot_any _ _ 2 2 3 3 [1, 2] [3, 4, 5] _ rfl rfl (by decide) (by decide) (.inr ⟨_, _, rfl, fun j hj => ?_⟩) (.inr ⟨_, _, rfl, fun j hj => ?_⟩)).mono ?_
  · rw [World.cell?_alloc_past _ _ _ (by simp), World.cell?_alloc_at _ _ _ _ rfl]
    match j, hj with
    | 0, _ => rfl
    | 1, _ => rfl
  · rw [World.cell?_alloc_at _ _ _ _ (by simp)]
    match j, hj with
    | 0, _ => rfl
    | 1, _ => rfl
    | 2, _ => rfl
  · rintro e w' ⟨rfl, n, rfl⟩
    refine ⟨?_, below_drewN (Below.refl _ _) n⟩
    have e : ((dot [1, 2] [3, 4, 5] : F).toNat : Int) = 11 := by decide +kernel
    rw [e]
end Go.Proofs.YtkmlanolaogaiaaDoor
