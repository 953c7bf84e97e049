/- The rows of halves: each half as a combination of the data halves; the rows of any k shards have full rank; no program is spoken of. -/
import Derived.Test.YtkoakingmnjdoaaGreatDoorBaseL
namespace Go.Proofs.YtkoakingmnjdoaaGreatDoor
open Go.RowKit Gf
set_option linter.unusedVariables false
set_option maxRecDepth 20000
/-- the row of half h, where data shard j is carried by parity car j -/
def halfF (k : Nat) (car : Nat → Nat) : Mt := fun h j =>
  if j % 2 = h % 2 then genF k (h / 2) (j / 2) else if h % 2 = 1 ∧ k ≤ h / 2 ∧ car (j / 2) = h / 2 - k then 1 else 0
theorem sumF_two (f : Nat → F) : ∀ k, sumF f (2 * k) = sumF (fun j => ga (f (2 * j)) (f (2 * j + 1))) k
  | 0 => rfl
  | k + 1 => by
    rw [show 2 * (k + 1) = 2 * k + 1 + 1 by omega]
    simp only [sumF]
    rw [sumF_two f k, F.add_assoc]
theorem gen_any {S : List Nat} {k n : Nat} (hS : S.Nodup) (hl : S.length = k) (hn : ∀ x ∈ S, x < n) (hb : n ≤ 256) (v : Nat → F) (hv : ∀ s ∈ S, sumF (fun j => gm (genF k s j) (v j)) k = 0) : ∀ j, j < k → v j = 0 := by
  have hp : ((List.range n).filter (fun x => decide (x ∈ S))).Perm S := by
    refine (List.perm_ext_iff_of_nodup (List.nodup_range.filter _) hS).2 fun x => ?_
    simp only [List.mem_filter, List.mem_range, decide_eq_true_eq]
    exact ⟨fun h => h.2, fun h => ⟨hn x h, h⟩⟩
  have hlen := hp.length_eq
  have hk : k ≤ n := by
    have := List.length_filter_le (fun x => decide (x ∈ S)) (List.range n)
    rw [List.length_range] at this
    omega
  refine rows_null (List.pairwise_lt_range.filter _) (hlen.trans hl) (fun x hx => hn x (hp.mem_iff.1 hx)) hb hk v fun i hi => ?_
  exact hv _ (hp.mem_iff.1 (getD_mem (by omega)))
theorem even_row {k s : Nat} {car : Nat → Nat} (v : Nat → F) : sumF (fun j => gm (halfF k car (2 * s) j) (v j)) (2 * k) = sumF (fun j => gm (genF k s j) (v (2 * j))) k := by
  rw [sumF_two]
  refine sumF_congr fun j hj => ?_
  have h1 : halfF k car (2 * s) (2 * j) = genF k s j := by
    simp only [halfF]
    rw [if_pos (by omega), show 2 * s / 2 = s by omega, show 2 * j / 2 = j by omega]
  have h2 : halfF k car (2 * s) (2 * j + 1) = 0 := by
    simp only [halfF]
    rw [if_neg (by omega), if_neg (by omega)]
  rw [h1, h2, F.zero_mul, F.add_zero]
theorem odd_row {k s : Nat} {car : Nat → Nat} (v : Nat → F) (hv : ∀ j, j < k → v (2 * j) = 0) : sumF (fun j => gm (halfF k car (2 * s + 1) j) (v j)) (2 * k) = sumF (fun j => gm (genF k s j) (v (2 * j + 1))) k := by
  rw [sumF_two]
  refine sumF_congr fun j hj => ?_
  have h1 : halfF k car (2 * s + 1) (2 * j + 1) = genF k s j := by
    simp only [halfF]
    rw [if_pos (by omega), show (2 * s + 1) / 2 = s by omega, show (2 * j + 1) / 2 = j by omega]
  rw [h1, hv j hj, F.mul_zero, F.zero_add]
/-- both halves of each of these shards -/
def bothH (S : List Nat) : List Nat := S.flatMap fun s => [2 * s, 2 * s + 1]
theorem bothH_len : ∀ S : List Nat, (bothH S).length = 2 * S.length
  | [] => rfl
  | s :: S => by
    have := bothH_len S
    simp only [bothH, List.flatMap_cons, List.length_append, List.length_cons, List.length_nil] at this ⊢
    omega
theorem bothH_mem {S : List Nat} {s : Nat} (h : s ∈ S) : 2 * s ∈ bothH S ∧ 2 * s + 1 ∈ bothH S := by
  simp only [bothH, List.mem_flatMap, List.mem_cons, List.not_mem_nil, or_false]
  exact ⟨⟨s, h, .inl rfl⟩, ⟨s, h, .inr rfl⟩⟩
/-- the rows of any k shards, whatever their order, have full rank -/
theorem half_rank {S : List Nat} {k n : Nat} {car : Nat → Nat} (hS : S.Nodup) (hl : S.length = k) (hn : ∀ x ∈ S, x < n) (hb : n ≤ 256) :
    (pivL (fun i j => halfF k car ((bothH S).getD i 0) j) (2 * k) (2 * k)).length = 2 * k := by
  refine full_rank fun v hv => ?_
  have hrow : ∀ h ∈ bothH S, sumF (fun j => gm (halfF k car h j) (v j)) (2 * k) = 0 := fun h hh => by
    obtain ⟨i, hi, e⟩ := mem_getD hh
    have := hv i (by rw [bothH_len, hl] at hi; exact hi)
    rwa [e] at this
  have ha := gen_any hS hl hn hb (fun j => v (2 * j)) fun s hs => by rw [← even_row (car := car)]; exact hrow _ (bothH_mem hs).1
  have hbb := gen_any hS hl hn hb (fun j => v (2 * j + 1)) fun s hs => by rw [← odd_row (car := car) v ha]; exact hrow _ (bothH_mem hs).2
  intro j hj
  rcases Nat.mod_two_eq_zero_or_one j with e | e
  · have := ha (j / 2) (by omega)
    rwa [show 2 * (j / 2) = j by omega] at this
  · have := hbb (j / 2) (by omega)
    rwa [show 2 * (j / 2) + 1 = j by omega] at this
end Go.Proofs.YtkoakingmnjdoaaGreatDoor
