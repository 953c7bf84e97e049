/- Plain algebra of stage 7: what a half is, byte by byte, of the data halves; no program is spoken of. -/
import Derived.Test.YtmlpijlcpeoeaaaDoorHalfL
namespace Go.Proofs.YtmlpijlcpeoeaaaDoor
open Go.RowKit Gf
set_option linter.unusedVariables false
set_option maxRecDepth 20000
/-- byte b of half h, of the data halves' bytes D -/
def imgF (k : Nat) (car : Nat → Nat) (D : Nat → Nat → F) (h b : Nat) : F := sumF (fun v => gm (halfF k car h v) (D v b)) (2 * k)
/-- half h -/
def imgL (k : Nat) (car : Nat → Nat) (H : Nat) (D : Nat → Nat → F) (h : Nat) : List F := rowF H (imgF k car D h)
theorem imgL_len (k : Nat) (car : Nat → Nat) (H : Nat) (D : Nat → Nat → F) (h : Nat) : (imgL k car H D h).length = H := rowF_len _ _
theorem img_congr {k H h : Nat} {car : Nat → Nat} {D E : Nat → Nat → F} (hD : ∀ v b, v < 2 * k → b < H → D v b = E v b) : imgL k car H D h = imgL k car H E h :=
  rowF_congr fun b hb => sumF_congr fun v hv => by rw [hD v b hv hb]
/-- a data half is itself -/
theorem img_data {k h : Nat} {car : Nat → Nat} {D : Nat → Nat → F} (hh : h < 2 * k) (b : Nat) : imgF k car D h b = D h b := by
  unfold imgF
  rw [sumF_pick _ h _ hh]
  · have : halfF k car h h = 1 := by
      simp only [halfF, if_true]
      rw [genF, if_pos (by omega), if_pos rfl]
    rw [this, F.one_mul]
  · intro v hv hne
    have : halfF k car h v = 0 := by
      simp only [halfF]
      by_cases hm : v % 2 = h % 2
      · rw [if_pos hm, genF, if_pos (by omega), if_neg (by omega)]
      · rw [if_neg hm, if_neg (by omega)]
    rw [this, F.zero_mul]
/-- what Image adds up for a parity's half: data shard j's part -/
def parS (k i p : Nat) (car : Nat → Nat) (D : Nat → Nat → F) (b j : Nat) : F := ga (gm (cyN (k + i) j) (D (2 * j + p) b)) (if p = 1 ∧ car j = i then D (2 * j) b else 0)
theorem img_par {k i p b : Nat} {car : Nat → Nat} {D : Nat → Nat → F} (hp : p < 2) : imgF k car D (2 * (k + i) + p) b = sumF (parS k i p car D b) k := by
  unfold imgF
  rw [sumF_two]
  refine sumF_congr fun j hj => ?_
  have hd : (2 * (k + i) + p) / 2 = k + i := by omega
  have hm : (2 * (k + i) + p) % 2 = p := by omega
  unfold parS
  rcases (show p = 0 ∨ p = 1 by omega) with rfl | rfl
  · have e1 : halfF k car (2 * (k + i) + 0) (2 * j) = cyN (k + i) j := by
      simp only [halfF]
      rw [if_pos (by omega), hd, show 2 * j / 2 = j by omega, genF, if_neg (by omega)]
    have e2 : halfF k car (2 * (k + i) + 0) (2 * j + 1) = 0 := by
      simp only [halfF]
      rw [if_neg (by omega), if_neg (by omega)]
    rw [e1, e2, F.zero_mul, if_neg (by omega)]
    rfl
  · have e1 : halfF k car (2 * (k + i) + 1) (2 * j + 1) = cyN (k + i) j := by
      simp only [halfF]
      rw [if_pos (by omega), hd, show (2 * j + 1) / 2 = j by omega, genF, if_neg (by omega)]
    have e2 : halfF k car (2 * (k + i) + 1) (2 * j) = if car j = i then 1 else 0 := by
      simp only [halfF]
      rw [if_neg (by omega), hd, show 2 * j / 2 = j by omega]
      by_cases e : car j = i
      · rw [if_pos e, if_pos ⟨by omega, by omega, by omega⟩]
      · rw [if_neg e, if_neg (fun h => e (by omega))]
    rw [e1, e2, F.add_comm]
    congr 1
    by_cases e : car j = i
    · rw [if_pos e, if_pos ⟨rfl, e⟩, F.one_mul]
    · rw [if_neg e, if_neg (fun h => e h.2), F.zero_mul]
theorem parS_step {k i p b j : Nat} {car : Nat → Nat} {D : Nat → Nat → F} {s : F} : ga (ga s (gm (cyN (k + i) j) (D (2 * j + p) b))) (if p = 1 ∧ car j = i then D (2 * j) b else 0) = ga s (parS k i p car D b j) := F.add_assoc _ _ _
end Go.Proofs.YtmlpijlcpeoeaaaDoor
