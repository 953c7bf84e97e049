/- Lost halves as plain lists: what is left, what is whole, what is gone; no program is spoken of. -/
import Derived.Test.YtkoakingmnjdoaaGreatDoorHalfL
namespace Go.Proofs.YtkoakingmnjdoaaGreatDoor
open Go.RowKit Gf
set_option linter.unusedVariables false
set_option maxRecDepth 20000
/-- a list of lost halves, of n halves -/
def GoodH (n : Nat) (xs : List Int) : Prop := xs.Pairwise (· < ·) ∧ ∀ x ∈ xs, 0 ≤ x ∧ x < n
def natJ8 (ns : List Nat) : List Int := ns.map fun (x : Nat) => (x : Int)
theorem goodH_nil (n : Nat) : GoodH n [] := ⟨List.Pairwise.nil, fun x h => by cases h⟩
theorem goodH_snoc {n : Nat} {xs : List Int} {x : Int} : GoodH n (xs ++ [x]) ↔ GoodH n xs ∧ (0 ≤ x ∧ x < n) ∧ ∀ y ∈ xs, y < x := by
  constructor
  · rintro ⟨h1, h2⟩
    have := List.pairwise_append.1 h1
    exact ⟨⟨this.1, fun y hy => h2 y (List.mem_append_left _ hy)⟩, h2 x (by simp), fun y hy => this.2.2 y hy x (by simp)⟩
  · rintro ⟨⟨h1, h2⟩, h3, h4⟩
    refine ⟨List.pairwise_append.2 ⟨h1, by simp, fun y hy z hz => ?_⟩, fun y hy => ?_⟩
    · rw [List.mem_singleton.1 hz]; exact h4 y hy
    · rcases List.mem_append.1 hy with h | h
      · exact h2 y h
      · rw [List.mem_singleton.1 h]; exact h3
/-- behind the last of a rising list -/
theorem last_below {xs : List Int} (h : xs.Pairwise (· < ·)) {x : Int} : (∀ y ∈ xs, y < x) ↔ xs = [] ∨ xs.getD (xs.length - 1) 0 < x := by
  constructor
  · intro hx
    by_cases e : xs = []
    · exact .inl e
    · right
      have hl : xs.length - 1 < xs.length := by have := List.length_pos_iff.2 e; omega
      rw [List.getD, List.getElem?_eq_getElem hl]
      exact hx _ (List.getElem_mem hl)
  · rintro (rfl | hx) y hy
    · cases hy
    · obtain ⟨i, hi, e⟩ := List.getElem_of_mem hy
      have hl : xs.length - 1 < xs.length := by omega
      rw [List.getD, List.getElem?_eq_getElem hl] at hx
      by_cases e2 : i = xs.length - 1
      · subst e2; rw [← e]; exact hx
      · have := List.pairwise_iff_getElem.1 h i (xs.length - 1) hi hl (by omega)
        rw [← e]
        simp at hx
        omega
theorem goodH_take {n : Nat} {xs : List Int} (h : GoodH n xs) (i : Nat) : GoodH n (xs.take i) := ⟨h.1.sublist (List.take_sublist _ _), fun x hx => h.2 x (List.mem_of_mem_take hx)⟩
theorem take_snoc {xs : List Int} {i : Nat} (h : i < xs.length) : xs.take (i + 1) = xs.take i ++ [xs[i]] := by rw [List.take_succ_eq_append_getElem h]
/-- one more number -/
theorem goodH_step {n i : Nat} {xs : List Int} (h : i < xs.length) (hg : GoodH n (xs.take i)) : GoodH n (xs.take (i + 1)) ↔ (0 ≤ xs[i] ∧ xs[i] < n) ∧ (xs.take i = [] ∨ (xs.take i).getD ((xs.take i).length - 1) 0 < xs[i]) := by
  rw [take_snoc h, goodH_snoc, last_below hg.1]
  exact ⟨fun h => h.2, fun h => ⟨hg, h⟩⟩
theorem goodH_nats {n : Nat} {xs : List Int} (h : GoodH n xs) : ∃ ns : List Nat, xs = natJ8 ns ∧ ns.Pairwise (· < ·) ∧ ∀ x ∈ ns, x < n := by
  refine ⟨xs.map Int.toNat, ?_, ?_, ?_⟩
  · rw [natJ8, List.map_map]
    conv => lhs; rw [← List.map_id xs]
    apply List.map_congr_left
    intro x hx
    have := h.2 x hx
    show x = ((x.toNat : Nat) : Int)
    omega
  · rw [List.pairwise_map]
    refine h.1.imp_of_mem fun {a b} ha hb hab => ?_
    have := h.2 a ha; have := h.2 b hb
    omega
  · intro x hx
    obtain ⟨y, hy, rfl⟩ := List.mem_map.1 hx
    have := h.2 y hy
    omega
theorem goodH_of {n : Nat} {ns : List Nat} (h1 : ns.Pairwise (· < ·)) (h2 : ∀ x ∈ ns, x < n) : GoodH n (natJ8 ns) := by
  refine ⟨?_, fun x hx => ?_⟩
  · rw [natJ8, List.pairwise_map]
    exact h1.imp fun h => by omega
  · obtain ⟨y, hy, rfl⟩ := List.mem_map.1 hx
    have := h2 y hy
    omega
theorem natJ8_mem {ns : List Nat} {x : Nat} : (x : Int) ∈ natJ8 ns ↔ x ∈ ns := by
  constructor
  · intro h
    obtain ⟨y, hy, e⟩ := List.mem_map.1 h
    have : y = x := by omega
    exact this ▸ hy
  · exact fun h => List.mem_map.2 ⟨x, h, rfl⟩
theorem natJ8_len (ns : List Nat) : (natJ8 ns).length = ns.length := by simp [natJ8]
theorem natJ8_inj {a b : List Nat} (h : natJ8 a = natJ8 b) : a = b := by
  have := congrArg (List.map Int.toNat) h
  simp only [natJ8, List.map_map] at this
  have e : Int.toNat ∘ (fun x : Nat => (x : Int)) = id := by funext x; simp
  rwa [e, List.map_id, List.map_id] at this
theorem rising_low {p : List Nat} (hu : p.Pairwise (· < ·)) : ∀ k, (h : k < p.length) → k ≤ p[k] := by
  intro k
  induction k with
  | zero => intro _; exact Nat.zero_le _
  | succ k ih => intro h; have h1 := ih (by omega); have := List.pairwise_iff_getElem.1 hu k (k + 1) (by omega) h (by omega); omega
theorem pair_len {n : Nat} {ns : List Nat} (h1 : ns.Pairwise (· < ·)) (h2 : ∀ x ∈ ns, x < n) : ns.length ≤ n := by
  by_cases h0 : ns.length = 0
  · omega
  · have hl : ns.length - 1 < ns.length := by omega
    have a := rising_low h1 _ hl
    have b := h2 _ (List.getElem_mem hl)
    omega
theorem filter_add (p : Nat → Bool) : ∀ l : List Nat, (l.filter p).length + (l.filter fun x => !p x).length = l.length
  | [] => rfl
  | x :: l => by
    have := filter_add p l
    cases h : p x <;> simp [h] <;> omega

/-! what is left, what is whole -/
def leftL (n : Nat) (ns : List Nat) : List Nat := (List.range n).filter fun h => !decide (h ∈ ns)
theorem mem_leftL {n h : Nat} {ns : List Nat} : h ∈ leftL n ns ↔ h < n ∧ h ∉ ns := by simp [leftL]
theorem leftL_up (n : Nat) (ns : List Nat) : (leftL n ns).Pairwise (· < ·) := List.Pairwise.filter _ List.pairwise_lt_range
theorem leftL_len {n : Nat} {ns : List Nat} (h1 : ns.Pairwise (· < ·)) (h2 : ∀ x ∈ ns, x < n) : (leftL n ns).length + ns.length = n := by
  have e : (List.range n).filter (fun h => decide (h ∈ ns)) = ns := by
    refine sorted_eq (List.Pairwise.filter _ List.pairwise_lt_range) h1 fun x => ?_
    simp only [List.mem_filter, List.mem_range, decide_eq_true_eq]
    exact ⟨fun h => h.2, fun h => ⟨h2 x h, h⟩⟩
  have := filter_add (fun h => decide (h ∈ ns)) (List.range n)
  rw [e, List.length_range] at this
  rw [leftL]; omega
theorem leftL_le (n : Nat) (ns : List Nat) : (leftL n ns).length ≤ n := by
  have := List.length_filter_le (fun h => !decide (h ∈ ns)) (List.range n)
  rwa [List.length_range] at this
theorem leftL_back {n : Nat} {ns : List Nat} (h1 : ns.Pairwise (· < ·)) (h2 : ∀ x ∈ ns, x < n) : leftL n (leftL n ns) = ns := by
  refine sorted_eq (leftL_up _ _) h1 fun x => ?_
  rw [mem_leftL, mem_leftL]
  constructor
  · rintro ⟨h, hn⟩
    exact Classical.byContradiction fun hx => hn ⟨h, hx⟩
  · exact fun h => ⟨h2 x h, fun hh => hh.2 h⟩
def wholeL (m : Nat) (ns : List Nat) : List Nat := (List.range m).filter fun s => decide (2 * s ∈ ns) && decide (2 * s + 1 ∈ ns)
theorem mem_wholeL {m s : Nat} {ns : List Nat} : s ∈ wholeL m ns ↔ s < m ∧ 2 * s ∈ ns ∧ 2 * s + 1 ∈ ns := by simp [wholeL]
theorem wholeL_succ (m : Nat) (ns : List Nat) : wholeL (m + 1) ns = wholeL m ns ++ (if 2 * m ∈ ns ∧ 2 * m + 1 ∈ ns then [m] else []) := by
  rw [wholeL, List.range_succ, List.filter_append, ← wholeL]
  congr 1
  by_cases h : 2 * m ∈ ns <;> by_cases h2 : 2 * m + 1 ∈ ns <;> simp [h, h2]
theorem wholeL_le (m : Nat) (ns : List Nat) : (wholeL m ns).length ≤ m := by
  have := List.length_filter_le (fun s => decide (2 * s ∈ ns) && decide (2 * s + 1 ∈ ns)) (List.range m)
  rwa [List.length_range] at this
/-- the kind of damage -/
def kindN (k : Nat) (ns : List Nat) : Nat := if ns = [] then 0 else if ∃ j, j < k ∧ ns = [2 * j, 2 * j + 1] then 1 else 2
/-- the program's way to the kind -/
theorem kind_way {k m : Nat} {ns : List Nat} (hk : k ≤ m) (h1 : ns.Pairwise (· < ·)) :
    kindN k ns = if ns.length = 0 then 0 else if ns.length = 2 ∧ (wholeL m ns).length = 1 ∧ (wholeL m ns).getD 0 0 < k then 1 else 2 := by
  unfold kindN
  by_cases h0 : ns = []
  · simp [h0]
  rw [if_neg h0, if_neg (fun h => h0 (List.length_eq_zero_iff.1 h))]
  have key : (∃ j, j < k ∧ ns = [2 * j, 2 * j + 1]) ↔ (ns.length = 2 ∧ (wholeL m ns).length = 1 ∧ (wholeL m ns).getD 0 0 < k) := by
    constructor
    · rintro ⟨j, hj, rfl⟩
      have e : wholeL m [2 * j, 2 * j + 1] = [j] := by
        refine sorted_eq (p := wholeL m [2 * j, 2 * j + 1]) (List.Pairwise.filter _ List.pairwise_lt_range) (by simp) fun x => ?_
        rw [mem_wholeL]
        simp
        omega
      rw [e]
      exact ⟨rfl, rfl, hj⟩
    · rintro ⟨h2, h3, h4⟩
      obtain ⟨s, hs⟩ := List.length_eq_one_iff.1 h3
      have hm : s ∈ wholeL m ns := by rw [hs]; simp
      obtain ⟨_, ha, hb⟩ := mem_wholeL.1 hm
      rw [hs] at h4
      refine ⟨s, h4, ?_⟩
      match ns, h2 with
      | [x, y], _ =>
        have hxy : x < y := by simpa using h1
        simp at ha hb
        simp
        omega
  by_cases hh : ∃ j, j < k ∧ ns = [2 * j, 2 * j + 1]
  · rw [if_pos hh, if_pos (key.1 hh)]
  · rw [if_neg hh, if_neg (fun h => hh (key.2 h))]

/-! what is gone -/
/-- the rank of the rows of some halves -/
noncomputable def rankL (k : Nat) (car : Nat → Nat) (L : List Nat) : Nat := (pivL (fun i => halfF k car (L.getD i 0)) L.length (2 * k)).length
theorem rankL_le (k : Nat) (car : Nat → Nat) (L : List Nat) : rankL k car L ≤ L.length := rk_rows _ _ _
theorem rankL_cols (k : Nat) (car : Nat → Nat) (L : List Nat) : rankL k car L ≤ 2 * k := pivL_le _ _ _
theorem rank_mono {A B : Mt} {n m c : Nat} (h : RowsIn B m A n c) : (pivL B m c).length ≤ (pivL A n c).length := by
  obtain ⟨C, D, hf⟩ := factor_ex A n c
  have hk : ∀ x : Nat, ∃ e : Nat → F, x < m → ∀ j, j < c → B x j = sumF (fun k => gm (e k) (A k j)) n := fun x => by
    by_cases hx : x < m
    · obtain ⟨e, he⟩ := h x hx; exact ⟨e, fun _ => he⟩
    · exact ⟨fun _ => 0, fun h => absurd h hx⟩
  obtain ⟨e, he⟩ := Classical.axiomOfChoice hk
  refine rk_le (C := fun i l => sumF (fun a => gm (e i a) (C a l)) n) (B := D) fun i hi j hj => ?_
  rw [he i hi j hj, sumF_congr (fun a ha => by rw [hf a ha j hj, sumF_mul_left]), sumF_swap (fun a l => gm (e i a) (gm (C a l) (D l j))) (pivL A n c).length n]
  refine sumF_congr fun l _ => ?_
  rw [sumF_mul_right]
  exact sumF_congr fun a _ => (F.mul_assoc _ _ _).symm
theorem rankL_mono {k : Nat} {car : Nat → Nat} {L M : List Nat} (h : ∀ x ∈ L, x ∈ M) : rankL k car L ≤ rankL k car M := by
  refine rank_mono fun i hi => ?_
  obtain ⟨a, ha, e⟩ := mem_getD (h (L.getD i 0) (by simp [List.getD, hi]))
  refine ⟨fun l => if l = a then 1 else 0, fun j _ => ?_⟩
  show halfF k car (L.getD i 0) j = _
  rw [sumF_pick _ a _ ha (fun l _ hne => by simp [hne])]
  rw [e]; simp
/-- do the others not determine the stripe? -/
noncomputable def goneB (k n : Nat) (car : Nat → Nat) (ns : List Nat) : Bool := decide (rankL k car (leftL n ns) < 2 * k)
theorem gone_mono {k n : Nat} {car : Nat → Nat} {ns ms : List Nat} (h : ∀ x ∈ ns, x ∈ ms) (hg : goneB k n car ns = true) : goneB k n car ms = true := by
  simp only [goneB, decide_eq_true_eq] at *
  refine Nat.lt_of_le_of_lt (rankL_mono fun x hx => ?_) hg
  rw [mem_leftL] at *
  exact ⟨hx.1, fun hh => hx.2 (h x hh)⟩
theorem gone_many {k r : Nat} {car : Nat → Nat} {ns : List Nat} (h1 : ns.Pairwise (· < ·)) (h2 : ∀ x ∈ ns, x < 2 * (k + r)) (h : 2 * r < ns.length) : goneB k (2 * (k + r)) car ns = true := by
  have := leftL_len h1 h2
  have := rankL_le k car (leftL (2 * (k + r)) ns)
  simp only [goneB, decide_eq_true_eq]
  omega
/-- the shards of which something is lost -/
def touchedL (m : Nat) (ns : List Nat) : List Nat := (List.range m).filter fun s => decide (2 * s ∈ ns) || decide (2 * s + 1 ∈ ns)
theorem touchedL_succ (m : Nat) (ns : List Nat) : (touchedL (m + 1) ns).length = (touchedL m ns).length + (if 2 * m ∈ ns ∨ 2 * m + 1 ∈ ns then 1 else 0) := by
  rw [touchedL, List.range_succ, List.filter_append, ← touchedL, List.length_append]
  congr 1
  by_cases h : 2 * m ∈ ns <;> by_cases h2 : 2 * m + 1 ∈ ns <;> simp [h, h2]
theorem gone_few {k r : Nat} {car : Nat → Nat} {ns : List Nat} (hb : k + r ≤ 256) (h : (touchedL (k + r) ns).length ≤ r) : goneB k (2 * (k + r)) car ns = false := by
  have hl := filter_add (fun s => decide (2 * s ∈ ns) || decide (2 * s + 1 ∈ ns)) (List.range (k + r))
  rw [List.length_range] at hl
  have hfr : k ≤ ((List.range (k + r)).filter fun s => !(decide (2 * s ∈ ns) || decide (2 * s + 1 ∈ ns))).length := by
    rw [touchedL] at h; omega
  have hup : ((List.range (k + r)).filter fun s => !(decide (2 * s ∈ ns) || decide (2 * s + 1 ∈ ns))).Pairwise (· < ·) := List.Pairwise.filter _ List.pairwise_lt_range
  have hmem : ∀ s ∈ (List.range (k + r)).filter (fun s => !(decide (2 * s ∈ ns) || decide (2 * s + 1 ∈ ns))), s < k + r ∧ 2 * s ∉ ns ∧ 2 * s + 1 ∉ ns := fun s hs => by simpa using hs
  generalize (List.range (k + r)).filter (fun s => !(decide (2 * s ∈ ns) || decide (2 * s + 1 ∈ ns))) = Fr at *
  have hS : (Fr.take k).Nodup := (hup.sublist (List.take_sublist _ _)).imp Nat.ne_of_lt
  have hSl : (Fr.take k).length = k := by rw [List.length_take]; omega
  have hr := half_rank (car := car) hS hSl (fun x hx => (hmem x (List.mem_of_mem_take hx)).1) hb
  have hm := rankL_mono (k := k) (car := car) (L := bothH (Fr.take k)) (M := leftL (2 * (k + r)) ns) fun x hx => by
    simp only [bothH, List.mem_flatMap, List.mem_cons, List.not_mem_nil, or_false] at hx
    obtain ⟨s, hs, e⟩ := hx
    obtain ⟨h1, h2, h3⟩ := hmem s (List.mem_of_mem_take hs)
    rw [mem_leftL]
    rcases e with rfl | rfl
    · exact ⟨by omega, h2⟩
    · exact ⟨by omega, h3⟩
  unfold rankL at hm
  rw [bothH_len, hSl, hr] at hm
  simp only [goneB, rankL]
  exact decide_eq_false (by omega)
theorem gone_none {k r : Nat} {car : Nat → Nat} {s : Nat} (h1 : 1 ≤ r) (hb : k + r ≤ 256) : goneB k (2 * (k + r)) car [2 * s, 2 * s + 1] = false := by
  refine gone_few hb (Nat.le_trans ?_ h1)
  have hs : ∀ x ∈ touchedL (k + r) [2 * s, 2 * s + 1], x = s := fun x hx => by
    simp [touchedL] at hx
    omega
  have hn : (touchedL (k + r) [2 * s, 2 * s + 1]).Pairwise (· < ·) := List.Pairwise.filter _ List.pairwise_lt_range
  match e : touchedL (k + r) [2 * s, 2 * s + 1] with
  | [] => exact Nat.zero_le _
  | [x] => exact Nat.le_refl _
  | x :: y :: l =>
    rw [e] at hs hn
    have h1 := hs x (by simp)
    have h2 := hs y (by simp)
    simp at hn
    omega
end Go.Proofs.YtkoakingmnjdoaaGreatDoor
