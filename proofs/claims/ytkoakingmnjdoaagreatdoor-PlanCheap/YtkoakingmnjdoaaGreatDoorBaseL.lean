/- Matrices of the inverses of sums: what is cut from them square has full rank, and so has any choice of rows below an identity; no program is spoken of. -/
import Derived.Test.YtkoakingmnjdoaaGreatDoorSolveL
namespace Go.Proofs.YtkoakingmnjdoaaGreatDoor
open Go.RowKit Gf
set_option linter.unusedVariables false
set_option maxRecDepth 20000
/-- the inverse of a sum -/
def cy (x y : F) : F := inv (ga x y)
theorem ga_ne {a b : F} (h : a ≠ b) : ga a b ≠ 0 := fun e => h (F.eq_of_add_eq_zero e)
theorem cy_two {a b : F} (ha : a ≠ 0) (hb : b ≠ 0) (c : F) : gm (ga a b) (gm (inv a) (gm (inv b) c)) = ga (gm (inv b) c) (gm (inv a) c) := by
  rw [F.add_mul, ← F.mul_assoc a, F.mul_inv ha, F.one_mul]
  congr 1
  rw [F.mul_left_comm (inv a) (inv b), ← F.mul_assoc b, F.mul_inv hb, F.one_mul]
theorem ga_mid (a b c : F) : ga (ga a b) (ga c b) = ga a c := by
  rw [F.add_comm c b, F.add_assoc, F.add_left_cancel]
theorem cauchy : ∀ (n : Nat) (x y c : Nat → F), (∀ i j, i < n → j < n → x i ≠ y j) → (∀ i j, i < n → j < n → i ≠ j → x i ≠ x j) → (∀ i j, i < n → j < n → i ≠ j → y i ≠ y j) →
    (∀ i, i < n → sumF (fun j => gm (cy (x i) (y j)) (c j)) n = 0) → ∀ j, j < n → c j = 0
  | 0, _, _, _, _, _, _, _ => fun j hj => absurd hj (Nat.not_lt_zero j)
  | n + 1, x, y, c, hxy, hx, hy, h => by
    have hd : sumF (fun j => gm (cy (x n) (y j)) (c j)) (n + 1) = 0 := h n (by omega)
    have h1 : ∀ i, i < n → sumF (fun j => gm (cy (x i) (y j)) (gm (cy (x n) (y j)) (c j))) (n + 1) = 0 := fun i hi => by
      have e : gm (ga (x i) (x n)) (sumF (fun j => gm (cy (x i) (y j)) (gm (cy (x n) (y j)) (c j))) (n + 1)) = 0 := by
        rw [sumF_mul_left, sumF_congr (g := fun j => ga (gm (cy (x n) (y j)) (c j)) (gm (cy (x i) (y j)) (c j))) (fun j hj => by
          have := cy_two (ga_ne (hxy i j (by omega) hj)) (ga_ne (hxy n j (by omega) hj)) (c j)
          rw [ga_mid] at this
          exact this), sumF_add, hd, h i (by omega)]
        exact F.add_self 0
      exact (F.mul_eq_zero.1 e).resolve_left (ga_ne (hx i n (by omega) (by omega) (by omega)))
    have h2 : ∀ i, i < n → sumF (fun j => gm (cy (x i) (y j)) (gm (ga (y j) (y n)) (gm (cy (x n) (y j)) (c j)))) n = 0 := fun i hi => by
      have e : ga (sumF (fun j => gm (cy (x n) (y j)) (c j)) (n + 1)) (sumF (fun j => gm (cy (x i) (y j)) (gm (ga (y j) (y n)) (gm (cy (x n) (y j)) (c j)))) (n + 1)) = gm (ga (x i) (y n)) (sumF (fun j => gm (cy (x i) (y j)) (gm (cy (x n) (y j)) (c j))) (n + 1)) := by
        rw [← sumF_add, sumF_mul_left]
        refine sumF_congr fun j hj => ?_
        generalize gm (cy (x n) (y j)) (c j) = d
        have ha := ga_ne (hxy i j (by omega) hj)
        have e2 : ga (x i) (y n) = ga (ga (x i) (y j)) (ga (y j) (y n)) := by rw [F.add_assoc, F.add_left_cancel]
        show ga d (gm (inv (ga (x i) (y j))) (gm (ga (y j) (y n)) d)) = gm (ga (x i) (y n)) (gm (inv (ga (x i) (y j))) d)
        rw [e2]
        generalize ga (y j) (y n) = b
        generalize ga (x i) (y j) = a at ha
        rw [F.add_mul, ← F.mul_assoc a, F.mul_inv ha, F.one_mul]
        congr 1
        rw [F.mul_left_comm]
      rw [hd, h1 i hi, F.mul_zero, F.zero_add] at e
      have e3 : sumF (fun j => gm (cy (x i) (y j)) (gm (ga (y j) (y n)) (gm (cy (x n) (y j)) (c j)))) (n + 1) = sumF (fun j => gm (cy (x i) (y j)) (gm (ga (y j) (y n)) (gm (cy (x n) (y j)) (c j)))) n := by
        simp only [sumF]
        rw [F.add_self, F.zero_mul, F.mul_zero, F.add_zero]
      rw [← e3]; exact e
    have ih := cauchy n x y _ (fun i j hi hj => hxy i j (by omega) (by omega)) (fun i j hi hj => hx i j (by omega) (by omega)) (fun i j hi hj => hy i j (by omega) (by omega)) h2
    have h3 : ∀ j, j < n → gm (cy (x n) (y j)) (c j) = 0 := fun j hj =>
      (F.mul_eq_zero.1 (ih j hj)).resolve_left (ga_ne (hy j n (by omega) (by omega) (by omega)))
    have h4 : ∀ j, j < n + 1 → gm (cy (x n) (y j)) (c j) = 0 := fun j hj => by
      by_cases e : j < n
      · exact h3 j e
      · have : j = n := by omega
        subst this
        have hd' : ga (sumF (fun j' => gm (cy (x j) (y j')) (c j')) j) (gm (cy (x j) (y j)) (c j)) = 0 := hd
        rw [sumF_none h3, F.zero_add] at hd'
        exact hd'
    exact fun j hj => (F.mul_eq_zero.1 (h4 j hj)).resolve_left (F.inv_ne_zero (ga_ne (hxy n j (by omega) hj)))
/-- a square matrix without null vectors has full rank -/
theorem full_rank {A : Mt} {n : Nat} (h : ∀ v : Nat → F, (∀ i, i < n → sumF (fun j => gm (A i j) (v j)) n = 0) → ∀ j, j < n → v j = 0) : (pivL A n n).length = n := by
  have e : pivL A n n = List.range n := by
    refine sorted_eq (pivL_up _ _ _) List.pairwise_lt_range fun i => ?_
    rw [mem_pivL, List.mem_range]
    refine ⟨fun h => h.1, fun hi => ⟨hi, fun ⟨x, hx⟩ => ?_⟩⟩
    have := h _ ((dep_iff hi x).1 hx) i hi
    simp only [ext1, Nat.lt_irrefl, if_false, if_true] at this
    exact F.one_ne_zero this
  rw [e, List.length_range]
/-- a number as an element -/
def elN (i : Nat) : F := UInt8.ofNat i
theorem elN_inj {i j : Nat} (hi : i < 256) (hj : j < 256) (h : elN i = elN j) : i = j := by
  have := congrArg UInt8.toNat h
  rwa [elN, elN, toNat_of hi, toNat_of hj] at this
/-- the inverse of the sum of two numbers of shards -/
def cyN (i j : Nat) : F := cy (elN i) (elN j)
/-- the generator: the identity over the inverses -/
def genF (k : Nat) : Mt := fun i j => if i < k then (if i = j then 1 else 0) else cyN i j
theorem filter_len (p : Nat → Bool) : ∀ L : List Nat, (L.filter p).length + (L.filter (fun x => !p x)).length = L.length
  | [] => rfl
  | a :: L => by
    have := filter_len p L
    cases h : p a <;> simp [List.filter, h] <;> omega
theorem getD_mem {L : List Nat} {i : Nat} (h : i < L.length) : L.getD i 0 ∈ L := by
  have := getD_some h
  exact List.mem_of_getElem? this
theorem getD_ne {L : List Nat} (hL : L.Pairwise (· < ·)) {i j : Nat} (hi : i < L.length) (hj : j < L.length) (h : i ≠ j) : L.getD i 0 ≠ L.getD j 0 := by
  have e : ∀ k, k < L.length → ∀ (hk : k < L.length), L.getD k 0 = L[k] := fun k _ hk => by simp [List.getD, hk]
  rw [e i hi hi, e j hj hj]
  rcases Nat.lt_or_gt_of_ne h with h' | h'
  · exact Nat.ne_of_lt (List.pairwise_iff_getElem.1 hL i j hi hj h')
  · exact Nat.ne_of_gt (List.pairwise_iff_getElem.1 hL j i hj hi h')
theorem mem_getD {L : List Nat} {x : Nat} (h : x ∈ L) : ∃ i, i < L.length ∧ L.getD i 0 = x := by
  obtain ⟨i, hi, e⟩ := List.getElem_of_mem h
  exact ⟨i, hi, by simp [List.getD, hi, e]⟩
/-- square pieces -/
theorem square_rank {R C : List Nat} {n : Nat} (hR : R.Pairwise (· < ·)) (hC : C.Pairwise (· < ·)) (hr : R.length = n) (hc : n ≤ C.length) (hd : ∀ x ∈ R, ∀ y ∈ C, x ≠ y) (hx : ∀ x ∈ R, x < 256) (hy : ∀ y ∈ C, y < 256) :
    (pivL (fun i j => cyN (R.getD i 0) (C.getD j 0)) n n).length = n := by
  refine full_rank fun v hv => ?_
  refine cauchy n (fun i => elN (R.getD i 0)) (fun j => elN (C.getD j 0)) v (fun i j hi hj e => ?_) (fun i j hi hj hne e => ?_) (fun i j hi hj hne e => ?_) hv
  · exact hd _ (getD_mem (by omega)) _ (getD_mem (by omega)) (elN_inj (hx _ (getD_mem (by omega))) (hy _ (getD_mem (by omega))) e)
  · exact getD_ne hR (by omega) (by omega) hne (elN_inj (hx _ (getD_mem (by omega))) (hx _ (getD_mem (by omega))) e)
  · exact getD_ne hC (by omega) (by omega) hne (elN_inj (hy _ (getD_mem (by omega))) (hy _ (getD_mem (by omega))) e)
/-- any k rows of the generator -/
theorem rows_null {L : List Nat} {k n : Nat} (hL : L.Pairwise (· < ·)) (hl : L.length = k) (hn : ∀ x ∈ L, x < n) (hb : n ≤ 256) (hkn : k ≤ n) (v : Nat → F)
    (hv : ∀ i, i < k → sumF (fun j => gm (genF k (L.getD i 0) j) (v j)) k = 0) : ∀ j, j < k → v j = 0 := by
  have hA : ∀ a, a ∈ L → a < k → v a = 0 := fun a ha hak => by
    obtain ⟨i, hi, e⟩ := mem_getD ha
    have := hv i (by omega)
    rw [sumF_pick _ a k hak (fun l hl hne => by simp only [genF, e]; rw [if_pos hak, if_neg (fun h => hne h.symm), F.zero_mul])] at this
    simp only [genF, e, if_pos hak, if_true, F.one_mul] at this
    exact this
  -- the columns that no chosen row makes
  have hJ := filter_len (fun x => L.contains x) (List.range k)
  have hB := filter_len (fun x => decide (x < k)) L
  have eA : (List.range k).filter (fun x => L.contains x) = L.filter (fun x => decide (x < k)) := by
    refine sorted_eq (List.pairwise_lt_range.filter _) (hL.filter _) fun x => ?_
    simp [and_comm]
  generalize hJJ : (List.range k).filter (fun x => !L.contains x) = J at hJ
  generalize hBB : L.filter (fun x => !decide (x < k)) = B at hB
  have hJm : ∀ x, x ∈ J ↔ x < k ∧ x ∉ L := fun x => by subst hJJ; simp
  have hBm : ∀ x, x ∈ B ↔ x ∈ L ∧ k ≤ x := fun x => by subst hBB; simp
  have hJp : J.Pairwise (· < ·) := by subst hJJ; exact List.pairwise_lt_range.filter _
  have hBp : B.Pairwise (· < ·) := by subst hBB; exact hL.filter _
  have hlen : J.length = B.length := by rw [eA, List.length_range] at hJ; omega
  have hz := cauchy J.length (fun i => elN (B.getD i 0)) (fun j => elN (J.getD j 0)) (fun j => v (J.getD j 0)) (fun i j hi hj e => ?_) (fun i j hi hj hne e => ?_) (fun i j hi hj hne e => ?_) (fun i hi => ?_)
  · intro j hj
    by_cases hm : j ∈ L
    · exact hA j hm hj
    · obtain ⟨i, hi, e⟩ := mem_getD ((hJm j).2 ⟨hj, hm⟩)
      rw [← e]; exact hz i hi
  · have h1 := (hBm _).1 (getD_mem (by omega : i < B.length))
    have h2 := (hJm _).1 (getD_mem hj)
    have := elN_inj (Nat.lt_of_lt_of_le (hn _ h1.1) hb) (by omega) e
    omega
  · have h1 := (hBm _).1 (getD_mem (by omega : i < B.length))
    have h2 := (hBm _).1 (getD_mem (by omega : j < B.length))
    exact getD_ne hBp (by omega) (by omega) hne (elN_inj (Nat.lt_of_lt_of_le (hn _ h1.1) hb) (Nat.lt_of_lt_of_le (hn _ h2.1) hb) e)
  · have h1 := (hJm _).1 (getD_mem hi)
    have h2 := (hJm _).1 (getD_mem hj)
    exact getD_ne hJp hi hj hne (elN_inj (by omega) (by omega) e)
  · obtain ⟨hbl, hbk⟩ := (hBm _).1 (getD_mem (by omega : i < B.length))
    obtain ⟨a, ha, e⟩ := mem_getD hbl
    have h := hv a (by omega)
    rw [sumF_congr (g := fun l => gm (cyN (B.getD i 0) l) (onF (J.getD · 0) (fun m => v (J.getD m 0)) J.length l)) (fun l hl => by
      congr 1
      · simp only [genF, e]; rw [if_neg (by omega)]
      · by_cases hm : l ∈ L
        · rw [hA l hm hl, onF_off (Nat.le_refl _) (fun hj => ((hJm l).1 hj).2 hm)]
        · obtain ⟨m, hm1, hm2⟩ := mem_getD ((hJm l).2 ⟨hl, hm⟩)
          simp only [onF]
          rw [sumF_pick _ m _ hm1 (fun m' hm' hne => if_neg (fun h => getD_ne hJp hm' hm1 hne (h.trans hm2.symm))), if_pos hm2, hm2])] at h
    rw [sum_onF (fun l => cyN (B.getD i 0) l) _ (J.getD · 0) (fun m hm => ((hJm _).1 (getD_mem hm)).1)] at h
    exact h
theorem rows_rank {L : List Nat} {k n : Nat} (hL : L.Pairwise (· < ·)) (hl : L.length = k) (hn : ∀ x ∈ L, x < n) (hb : n ≤ 256) (hkn : k ≤ n) :
    (pivL (fun i j => genF k (L.getD i 0) j) k k).length = k := full_rank fun v hv => rows_null hL hl hn hb hkn v hv
end Go.Proofs.YtkoakingmnjdoaaGreatDoor
