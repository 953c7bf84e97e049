/- What the document's own Image answers, of all legal numbers, halves and lists of halves in form; nothing that was there turns. -/
import Derived.Test.YtmlpijlcpeoeaaaDoorBaseW
import Derived.Test.YtmlpijlcpeoeaaaDoorHolds
import Derived.Test.YtmlpijlcpeoeaaaDoorBaseL
import Derived.Test.YtmlpijlcpeoeaaaDoorMatV
import Derived.BigRegion
import Derived.Deep.DeepCutAuto
import Derived.Deep.RegionHeld3
import Derived.Test.YtmlpijlcpeoeaaaDoorShardsA
import Derived.Test.YtmlpijlcpeoeaaaDoorNumBytes
import Derived.Test.YtmlpijlcpeoeaaaDoorBaseR
import Derived.Test.YtmlpijlcpeoeaaaDoorRegHeld
/- What the small functions of package half answer: there, placeOf, number, find, carrier, carrying, Of, Split, Carrier; and the document's own Carrier; nothing that was there turns. -/
namespace Go.Proofs.YtmlpijlcpeoeaaaDoor
open Go.RowKit Gf
set_option linter.unusedVariables false
set_option maxRecDepth 20000
theorem hthere_any (x n : Int) (w : World) : Calls Tryd.prog 47 #[.int .i64 x, .int .i64 n] w fun e w' => e = .returned (.bool (thB x n)) ∧ w = w' := by
  by_cases h0 : 0 ≤ x
  · by_cases h1 : x < n
    · go_enter Tryd.func47, Tryd.ntmps47
      go_wp2
      go_ret
      exact ⟨by rw [thB_true h0 h1]; rfl, rfl⟩
    · go_enter Tryd.func47, Tryd.ntmps47
      go_wp2
      go_ret
      exact ⟨by rw [thB_false (by omega)]; rfl, rfl⟩
  · go_enter Tryd.func47, Tryd.ntmps47
    go_wp2
    go_ret
    exact ⟨by rw [thB_false (by omega)]; rfl, rfl⟩
theorem hthere_yes (x n : Int) (w : World) (h0 : 0 ≤ x) (h1 : x < n) : Calls Tryd.prog 47 #[.int .i64 x, .int .i64 n] w fun e w' => e = .returned (.bool true) ∧ w = w' :=
  (hthere_any x n w).mono fun e w' ⟨a, b⟩ => ⟨by rw [a, thB_true h0 h1], b⟩
theorem hthere_no (x n : Int) (w : World) (h : ¬ (0 ≤ x ∧ x < n)) : Calls Tryd.prog 47 #[.int .i64 x, .int .i64 n] w fun e w' => e = .returned (.bool false) ∧ w = w' :=
  (hthere_any x n w).mono fun e w' ⟨a, b⟩ => ⟨by rw [a, thB_false h], b⟩
theorem placeOf_F (h s p : Nat) (w : World) (hh : h = 2 * s + p) (hp : p < 2) (hs : s ≤ 1000) : Calls Tryd.prog 50 #[.int .i64 h] w fun e w' => e = .returned (.agg #[.int .i64 s, .int .i64 p]) ∧ Below w.heap.size w w' := by
  have e1 : Hid ((h : Int) / 2 = s) := by show _ = _; omega
  have e2 : Hid ((h : Int) % 2 = p) := by show _ = _; omega
  have e3 : h ≤ 4000 := by omega
  clear hh hp hs
  go_enter Tryd.func50, Tryd.ntmps50
  go_wp2
  rw [e1.out, e2.out]
  refine bodyPost_ret (v := .agg #[.int .i64 s, .int .i64 p]) (by simp [results, Tryd.results50, go_sem]) rfl ⟨rfl, ?_⟩
  exact (Below.refl w.heap.size w).alloc (Nat.le_refl _) _
theorem number_F (s p : Nat) (w : World) (hs : s ≤ 1000) (hp : p ≤ 1000) : Calls Tryd.prog 81 #[.agg #[.int .i64 s, .int .i64 p]] w fun e w' => e = .returned (.int .i64 (2 * s + p : Nat)) ∧ Below w.heap.size w w' := by
  go_enter Tryd.func81, Tryd.ntmps81
  go_wp2
  go_ret
  exact ⟨by go_num, (Below.refl w.heap.size w).alloc (Nat.le_refl _) _⟩
/-- the parity that carries a data shard -/
def carN (g j : Nat) : Nat := j / g + 1
theorem carN_le {g j : Nat} : carN g j ≤ j + 1 := by
  have := Nat.div_le_self j g
  simp only [carN]; omega
theorem carrier_F (g j : Nat) (w : World) (hg : 1 ≤ g) (hg2 : g ≤ 1000) (hj : j ≤ 1000) : Calls Tryd.prog 48 #[.int .i64 g, .int .i64 j] w fun e w' => e = .returned (.int .i64 (carN g j)) ∧ w = w' := by
  have e1 : (j : Int) / g = (j / g : Nat) := by simp
  have e2 : j / g ≤ 1000 := Nat.le_trans (Nat.div_le_self _ _) hj
  generalize hq : j / g = q at e1 e2
  have E : Hid _ := e1
  have b0 : 0 ≤ (j : Int) / g := by omega
  have b1 : (j : Int) / g ≤ 1000 := by omega
  have hc : carN g j = q + 1 := by rw [carN, hq]
  rw [hc]
  clear hc e1 hq
  go_enter Tryd.func48, Tryd.ntmps48
  go_wp2
  rw [E.out]
  go_ret
  exact ⟨by go_num, rfl⟩
theorem rcarrier_F (k r j : Nat) (w : World) (h1 : 1 ≤ k) (h2 : 2 ≤ r) (h3 : k + r ≤ 16) (hj : j ≤ 1000) :
    Calls Tryd.prog 45 #[.int .i64 k, .int .i64 r, .int .i64 j] w fun e w' => e = .returned (.int .i64 (carN (groupN k r) j)) ∧ w = w' := by
  obtain ⟨g1, _, _, g2⟩ := groupN_least h1 h2 h3
  have HF : Hid _ := fun w => rgroup_F k r w h1 h2 h3
  generalize groupN k r = g at *
  have e1 : (j : Int) / g = (j / g : Nat) := by simp
  have e2 : j / g ≤ 1000 := Nat.le_trans (Nat.div_le_self _ _) hj
  generalize hq : j / g = q at e1 e2
  have E : Hid _ := e1
  have b0 : 0 ≤ (j : Int) / g := by omega
  have b1 : (j : Int) / g ≤ 1000 := by omega
  have hc : carN g j = q + 1 := by rw [carN, hq]
  rw [hc]
  clear hc e1 hq
  go_enter Tryd.func45, Tryd.ntmps45
  go_wp2_with fail
  refine Calls.mono (HF.out _) ?_
  rintro e w' ⟨rfl, rfl⟩
  go_wp2
  rw [E.out]
  go_ret
  exact ⟨by go_num, rfl⟩
theorem carrying_F (k g j : Nat) (w : World) (hk : k ≤ 1000) (hg : 1 ≤ g) (hg2 : g ≤ 1000) (hj : j ≤ 1000) : Calls Tryd.prog 78 #[.int .i64 k, .int .i64 g, .int .i64 j] w fun e w' => e = .returned (.agg #[.int .i64 (k + carN g j : Nat), .int .i64 1]) ∧ Below w.heap.size w w' := by
  have hc : carN g j ≤ 2000 := Nat.le_trans carN_le (by omega)
  have HF : Hid _ := fun w => carrier_F g j w hg hg2 hj
  generalize carN g j = c at *
  go_enter Tryd.func78, Tryd.ntmps78
  go_wp2_with fail
  refine Calls.mono (HF.out _) ?_
  rintro e w' ⟨rfl, rfl⟩
  go_wp2
  refine bodyPost_ret (v := .agg #[.int .i64 (k + c : Nat), .int .i64 1]) (by simp [results, Tryd.results78, go_sem]) rfl ⟨rfl, ?_⟩
  exact (Below.refl w.heap.size w).alloc (Nat.le_refl _) _
end Go.Proofs.YtmlpijlcpeoeaaaDoor

/- What find, Of, Split and Carrier of package half answer, at all numbers; nothing that was there turns. -/
namespace Go.Proofs.YtmlpijlcpeoeaaaDoor
open Go.RowKit Gf
set_option linter.unusedVariables false
set_option maxRecDepth 20000
theorem hof_ok (k r s p : Nat) (w : World) (h1 : 1 ≤ k) (h2 : 2 ≤ r) (h3 : k + r ≤ 16) (hs : s < k + r) (hp : p < 2) :
    Calls Tryd.prog 57 #[.int .i64 k, .int .i64 r, .int .i64 s, .int .i64 p] w fun e w' => e = .returned (.tuple #[.int .i64 (2 * s + p : Nat), .nilIface]) ∧ Below w.heap.size w w' := by
  have HS : Hid ((s : Int) < (k : Int) + r) := by show _ < _; omega
  have HP : Hid ((p : Int) < 2) := by show _ < _; omega
  have s1 : s ≤ 16 := by omega
  have p1 : p ≤ 1 := by omega
  clear hs hp
  go_enter Tryd.func57, Tryd.ntmps57
  go_wp2_with fail
  refine (bcheck_ok _ _ _ h1 h2 h3).mono ?_
  rintro e w' ⟨rfl, rfl⟩
  go_wp2_with fail
  refine (hthere_yes _ _ _ (by omega) HS.out).mono ?_
  rintro e w' ⟨rfl, rfl⟩
  go_wp2_with fail
  refine (hthere_yes _ _ _ (by omega) HP.out).mono ?_
  rintro e w' ⟨rfl, rfl⟩
  go_wp2_with fail
  refine (number_F s p _ (by omega) (by omega)).mono ?_
  rintro e w2 ⟨rfl, hb⟩
  have HB : Hid _ := hb
  clear hb
  go_wp2
  go_ret2
  exact ⟨rfl, HB.out⟩
theorem hof_bad (k r x y : Int) (w : World) (s : Addr) (hs : w.cell? ⟨0, 0, none⟩ = some (errAt s)) (hk0 : -9223372036854775808 ≤ k) (hk1 : k ≤ 9223372036854775807) (hr0 : -9223372036854775808 ≤ r) (hr1 : r ≤ 9223372036854775807) (hL : ¬ LegalP k r) :
    Calls Tryd.prog 57 #[.int .i64 k, .int .i64 r, .int .i64 x, .int .i64 y] w fun e w' => e = .returned (.tuple #[.int .i64 0, errAt s]) ∧ w = w' := by
  have HS : Hid _ := hs
  have H : Hid _ := hL
  clear hs hL
  go_enter Tryd.func57, Tryd.ntmps57
  go_wp2_with fail
  refine (bcheck_bad k r _ s HS.out hk0 hk1 hr0 hr1 H.out).mono ?_
  unfold errAt
  rintro e w' ⟨rfl, rfl⟩
  go_wp2
  go_ret2
  exact ⟨rfl, rfl⟩
theorem hof_no (k r : Nat) (x y : Int) (w : World) (s : Addr) (hs : w.cell? ⟨4, 0, none⟩ = some (errAt s)) (h1 : 1 ≤ k) (h2 : 2 ≤ r) (h3 : k + r ≤ 16) (hx : ¬ ((0 ≤ x ∧ x < k + r) ∧ 0 ≤ y ∧ y < 2)) :
    Calls Tryd.prog 57 #[.int .i64 k, .int .i64 r, .int .i64 x, .int .i64 y] w fun e w' => e = .returned (.tuple #[.int .i64 0, errAt s]) ∧ Below w.heap.size w w' := by
  have hlt := World.block_lt_of_cell? w _ hs
  simp at hlt
  have HX : Hid _ := hx
  unfold errAt at *
  clear hx
  by_cases hx : 0 ≤ x ∧ x < k + r
  · have hy : ¬ (0 ≤ y ∧ y < 2) := fun h => HX.out ⟨hx, h⟩
    obtain ⟨x0, x1⟩ := hx
    have HS : Hid _ := x1
    have HY : Hid _ := hy
    clear HX hy x1
    go_enter Tryd.func57, Tryd.ntmps57
    go_wp2_with fail
    refine (bcheck_ok _ _ _ h1 h2 h3).mono ?_
    rintro e w' ⟨rfl, rfl⟩
    go_wp2_with fail
    refine (hthere_yes _ _ _ x0 HS.out).mono ?_
    rintro e w' ⟨rfl, rfl⟩
    go_wp2_with fail
    refine (hthere_no _ _ _ HY.out).mono ?_
    rintro e w' ⟨rfl, rfl⟩
    go_wp2
    go_region
    go_wp2
    go_ret2
    exact ⟨rfl, (Below.refl _ _).drew⟩
  · have HY : Hid _ := hx
    clear HX hx
    go_enter Tryd.func57, Tryd.ntmps57
    go_wp2_with fail
    refine (bcheck_ok _ _ _ h1 h2 h3).mono ?_
    rintro e w' ⟨rfl, rfl⟩
    go_wp2_with fail
    refine (hthere_no _ _ _ HY.out).mono ?_
    rintro e w' ⟨rfl, rfl⟩
    go_wp2
    go_region
    go_wp2
    go_ret2
    exact ⟨rfl, (Below.refl _ _).drew⟩
end Go.Proofs.YtmlpijlcpeoeaaaDoor

/- The rows of halves: each half as a combination of the data halves; the rows of any k shards have full rank; no program is spoken of. -/
namespace Go.Proofs.YtmlpijlcpeoeaaaDoor
open Go.RowKit Gf
set_option linter.unusedVariables false
set_option maxRecDepth 20000
/-- the row of half h, where data shard j is carried by parity car j -/
def halfF (k : Nat) (car : Nat → Nat) : Mt := fun h j =>
  if j % 2 = h % 2 then genF k (h / 2) (j / 2) else if h % 2 = 1 ∧ k ≤ h / 2 ∧ car (j / 2) = h / 2 - k then 1 else 0
theorem sumF_two (f : Nat → F) : ∀ k, sumF f (2 * k) = sumF (fun j => ga (f (2 * j)) (f (2 * j + 1))) k
  | 0 => rfl
  | k + 1 => by
    rw [show 2 * (k + 1) = 2 * k + 1 + 1 by omega]
    simp only [sumF]
    rw [sumF_two f k, F.add_assoc]
theorem gen_any {S : List Nat} {k n : Nat} (hS : S.Nodup) (hl : S.length = k) (hn : ∀ x ∈ S, x < n) (hb : n ≤ 256) (v : Nat → F) (hv : ∀ s ∈ S, sumF (fun j => gm (genF k s j) (v j)) k = 0) : ∀ j, j < k → v j = 0 := by
  have hp : ((List.range n).filter (fun x => decide (x ∈ S))).Perm S := by
    refine (List.perm_ext_iff_of_nodup (List.nodup_range.filter _) hS).2 fun x => ?_
    simp only [List.mem_filter, List.mem_range, decide_eq_true_eq]
    exact ⟨fun h => h.2, fun h => ⟨hn x h, h⟩⟩
  have hlen := hp.length_eq
  have hk : k ≤ n := by
    have := List.length_filter_le (fun x => decide (x ∈ S)) (List.range n)
    rw [List.length_range] at this
    omega
  refine rows_null (List.pairwise_lt_range.filter _) (hlen.trans hl) (fun x hx => hn x (hp.mem_iff.1 hx)) hb hk v fun i hi => ?_
  exact hv _ (hp.mem_iff.1 (getD_mem (by omega)))
theorem even_row {k s : Nat} {car : Nat → Nat} (v : Nat → F) : sumF (fun j => gm (halfF k car (2 * s) j) (v j)) (2 * k) = sumF (fun j => gm (genF k s j) (v (2 * j))) k := by
  rw [sumF_two]
  refine sumF_congr fun j hj => ?_
  have h1 : halfF k car (2 * s) (2 * j) = genF k s j := by
    simp only [halfF]
    rw [if_pos (by omega), show 2 * s / 2 = s by omega, show 2 * j / 2 = j by omega]
  have h2 : halfF k car (2 * s) (2 * j + 1) = 0 := by
    simp only [halfF]
    rw [if_neg (by omega), if_neg (by omega)]
  rw [h1, h2, F.zero_mul, F.add_zero]
theorem odd_row {k s : Nat} {car : Nat → Nat} (v : Nat → F) (hv : ∀ j, j < k → v (2 * j) = 0) : sumF (fun j => gm (halfF k car (2 * s + 1) j) (v j)) (2 * k) = sumF (fun j => gm (genF k s j) (v (2 * j + 1))) k := by
  rw [sumF_two]
  refine sumF_congr fun j hj => ?_
  have h1 : halfF k car (2 * s + 1) (2 * j + 1) = genF k s j := by
    simp only [halfF]
    rw [if_pos (by omega), show (2 * s + 1) / 2 = s by omega, show (2 * j + 1) / 2 = j by omega]
  rw [h1, hv j hj, F.mul_zero, F.zero_add]
/-- both halves of each of these shards -/
def bothH (S : List Nat) : List Nat := S.flatMap fun s => [2 * s, 2 * s + 1]
theorem bothH_len : ∀ S : List Nat, (bothH S).length = 2 * S.length
  | [] => rfl
  | s :: S => by
    have := bothH_len S
    simp only [bothH, List.flatMap_cons, List.length_append, List.length_cons, List.length_nil] at this ⊢
    omega
theorem bothH_mem {S : List Nat} {s : Nat} (h : s ∈ S) : 2 * s ∈ bothH S ∧ 2 * s + 1 ∈ bothH S := by
  simp only [bothH, List.mem_flatMap, List.mem_cons, List.not_mem_nil, or_false]
  exact ⟨⟨s, h, .inl rfl⟩, ⟨s, h, .inr rfl⟩⟩
/-- the rows of any k shards, whatever their order, have full rank -/
theorem half_rank {S : List Nat} {k n : Nat} {car : Nat → Nat} (hS : S.Nodup) (hl : S.length = k) (hn : ∀ x ∈ S, x < n) (hb : n ≤ 256) :
    (pivL (fun i j => halfF k car ((bothH S).getD i 0) j) (2 * k) (2 * k)).length = 2 * k := by
  refine full_rank fun v hv => ?_
  have hrow : ∀ h ∈ bothH S, sumF (fun j => gm (halfF k car h j) (v j)) (2 * k) = 0 := fun h hh => by
    obtain ⟨i, hi, e⟩ := mem_getD hh
    have := hv i (by rw [bothH_len, hl] at hi; exact hi)
    rwa [e] at this
  have ha := gen_any hS hl hn hb (fun j => v (2 * j)) fun s hs => by rw [← even_row (car := car)]; exact hrow _ (bothH_mem hs).1
  have hbb := gen_any hS hl hn hb (fun j => v (2 * j + 1)) fun s hs => by rw [← odd_row (car := car) v ha]; exact hrow _ (bothH_mem hs).2
  intro j hj
  rcases Nat.mod_two_eq_zero_or_one j with e | e
  · have := ha (j / 2) (by omega)
    rwa [show 2 * (j / 2) = j by omega] at this
  · have := hbb (j / 2) (by omega)
    rwa [show 2 * (j / 2) + 1 = j by omega] at this
end Go.Proofs.YtmlpijlcpeoeaaaDoor

/- What rowAt of package half answers; nothing that was there turns. -/
namespace Go.Proofs.YtmlpijlcpeoeaaaDoor
open Go.RowKit Gf
set_option linter.unusedVariables false
set_option maxRecDepth 20000
/-- what stands at a variable of the half that stands at (s, p) -/
def placeF (k g s p : Nat) (xs : List F) : Nat → F := fun v => if v % 2 = p then at8 xs (v / 2) else if p = 1 ∧ s = k + carN g (v / 2) then 1 else 0
theorem placeF_same {k g s p q b : Nat} {xs : List F} (h : b = p) (hb : b < 2) : placeF k g s p xs (2 * q + b) = at8 xs q := by
  rw [placeF, if_pos (by omega), show (2 * q + b) / 2 = q by omega]
theorem placeF_yes {k g s q : Nat} {xs : List F} (h : s = k + carN g q) : placeF k g s 1 xs (2 * q) = 1 := by
  rw [placeF, if_neg (by omega), show 2 * q / 2 = q by omega, if_pos ⟨rfl, h⟩]
theorem placeF_no {k g s p q b : Nat} {xs : List F} (h : b ≠ p) (hb : b < 2) (h2 : p = 1 → s ≠ k + carN g q) : placeF k g s p xs (2 * q + b) = 0 := by
  rw [placeF, if_neg (by omega), show (2 * q + b) / 2 = q by omega, if_neg (fun h => h2 h.1 h.2)]
theorem colP_skip {r j : Nat} {f : Nat → F} (h : f j = 0) : colP r f j = colP r f (j + 1) := rowF_congr fun i hi => by
  by_cases e : i = j
  · subst e; rw [if_neg (by omega), if_pos (by omega), h]
  · by_cases e2 : i < j
    · rw [if_pos e2, if_pos (by omega)]
    · rw [if_neg e2, if_neg (by omega)]
set_option maxHeartbeats 4000000 in
theorem hrowAt_0 (k g s cap : Nat) (a : Option Addr) (xs : List F) (w : World) (h1 : 1 ≤ k) (h2 : k ≤ 16) (hg : 1 ≤ g) (hg2 : g ≤ 16) (hs : s ≤ 16) (hx : xs.length = k) (hX : Row8 w a xs) :
    Calls Tryd.prog 52 #[.agg #[.int .i64 s, .int .i64 0], .slice a k cap, .int .i64 g] w fun e w' => ∃ gb n, e = .returned (.slice (some ⟨gb, 0, none⟩) n n) ∧ n = 2 * k ∧ w.heap.size ≤ gb ∧
      w'.heap[gb]? = some (.cells (vfs (rowF (2 * k) (placeF k g s 0 xs))) 5 (0, 0)) ∧ Below w.heap.size w w' := by
  obtain ⟨m, hm⟩ : ∃ m, m = 2 * k := ⟨_, rfl⟩
  have em : (2 : Int) * k = m := by omega
  have hm32 : m ≤ 32 := by omega
  rw [← hm]
  have HM : Hid _ := hm
  clear hm
  have hmk := run_make8 m (by omega)
  rcases hX with e0 | ⟨b, off, rfl, hc⟩
  · rw [e0] at hx; simp at hx; omega
  have HX : Hid _ := hx
  have HC : Hid _ := hc
  clear hx hc
  obtain ⟨f, hf⟩ : ∃ f, f = placeF k g s 0 xs := ⟨_, rfl⟩
  rw [← hf]
  have HFE : Hid _ := hf
  clear hf
  go_enter Tryd.func52, Tryd.ntmps52
  go_wp2
  have B0 := heap_alloc2_old w (.cells #[.int .i64 s, .int .i64 0] 89) (.cells (vfs (zeros m)) 5)
  have B1 := heap_alloc2_new w (.cells #[.int .i64 s, .int .i64 0] 89) (.cells (vfs (zeros m)) 5)
  have B3 := ((Below.refl w.heap.size w).alloc (Nat.le_refl _) (.cells #[.int .i64 s, .int .i64 0] 89)).alloc (by simp) (.cells (vfs (zeros m)) 5)
  generalize hW : ((w.alloc (.cells #[.int .i64 s, .int .i64 0] 89)).alloc (.cells (vfs (zeros m)) 5)) = W3 at *
  have HS0 : Hid _ := B0
  have HS1 : Hid _ := B1
  have HS3 : Hid _ := B3
  clear hW hmk B0 B1 B3
  go_loopw [18] (fun i wr => ∃ j : Nat, j ≤ m ∧ i = .int .i64 j ∧ Below w.heap.size w wr ∧ wr.heap[w.heap.size]? = some (.cells #[.int .i64 s, .int .i64 0] 89 (0, 0)) ∧ wr.heap[w.heap.size + 1]? = some (.cells (vfs (colP m f j)) 5 (0, 0))) (fun i _ => m - (intOf i).toNat)
  case atStart => exact ⟨0, by omega, rfl, HS3.out, HS0.out, by rw [← colP_zero]; exact HS1.out⟩
  case round =>
    obtain ⟨j, hj, rfl, hb, hp0, hr0⟩ := hrel
    have HB : Hid _ := hb
    have HP : Hid _ := hp0
    have HR : Hid _ := hr0
    clear hb hp0 hr0
    by_cases hlt : j < m
    rotate_left
    · have e : j = m := by omega
      subst e
      have hr := HR.out
      rw [colP_done] at hr
      have HR' : Hid _ := hr
      clear hr
      go_wp2
      go_ret
      exact ⟨w.heap.size + 1, j, rfl, rfl, by omega, HR'.out, HB.out⟩
    obtain ⟨q, b, rfl, hb2⟩ : ∃ q b : Nat, j = 2 * q + b ∧ b < 2 := ⟨j / 2, j % 2, by omega, by omega⟩
    have hqk : q < k := by have := HM.out; omega
    rcases (show b = 0 ∨ b = 1 by omega) with rfl | rfl
    ·
      go_wp2_with fail
      refine (placeOf_F (2 * q) q 0 _ rfl (by decide) (by omega)).mono ?_
      rintro e w2 ⟨rfl, hb2⟩
      have zz := hb2.size
      have HP2 : Hid (w2.heap[w.heap.size]? = some (.cells #[.int .i64 s, .int .i64 0] 89 (0, 0))) := heap_later HP.out hb2
      have HR2 : Hid (w2.heap[w.heap.size + 1]? = some (.cells (vfs (colP m f (2 * q))) 5 (0, 0))) := heap_later HR.out hb2
      have HB2 : Hid (Below w.heap.size w w2) := HB.out.trans (hb2.mono HB.out.size)
      clear hb2
      have hA := holds_new (holds_cons (holds_cons (holds_nil w2) HP2.out) HR2.out) #[.int .i64 q, .int .i64 0] 89
      have HA : Hid _ := hA
      have HB3 : Hid _ := HB2.out.alloc HB2.out.size (.cells #[.int .i64 q, .int .i64 0] 89)
      clear hA
      have c1 := cellAt (holds_at HA.out 0 rfl) 0 _ rfl
      have c2 := cellAt (holds_at HA.out 0 rfl) 1 _ rfl
      have c3 := cellAt (holds_at HA.out 2 rfl) 0 _ rfl
      have c4 := cellAt (holds_at HA.out 2 rfl) 1 _ rfl
      have z4 := ltHeap (holds_at HA.out 2 rfl)
      have c5 := cell_later HB3.out (HC.out q (by rw [HX.out]; omega))
      have c6 := cellAt (holds_at HA.out 1 rfl) (2 * q) _ (vfs_get _ _ (by rw [colP_len]; omega))
      have c7 := frozen_of_row _ (w.heap.size + 1) (2 * q) _ _ (holds_at HA.out 1 rfl)
      have z5 : w.heap.size + 1 < w2.heap.size := ltHeap HR2.out
      go_upto_region 9 with fail
      have hfq : f (2 * q) = at8 xs q := by rw [HFE.out]; exact placeF_same (q := q) (b := 0) rfl (by decide)
      have hR5 : (w2.setCell ⟨w.heap.size + 1, (2 * q), none⟩ (.int .u8 ((at8 xs q).toNat : Int))).heap[w.heap.size + 1]? = some (.cells (vfs (colP m f ((2 * q) + 1))) 5 (0, 0)) := by
        rw [heap_setCell_same _ _ _ _ _ _ HR2.out, vfs_set, ← colP_step m f (2 * q), hfq]
      have hP5 : (w2.setCell ⟨w.heap.size + 1, (2 * q), none⟩ (.int .u8 ((at8 xs q).toNat : Int))).heap[w.heap.size]? = some (.cells #[.int .i64 s, .int .i64 0] 89 (0, 0)) := (heap_setCell_other _ _ _ _ (by show w.heap.size ≠ w.heap.size + 1; omega)).trans HP2.out
      have hB5 : Below w.heap.size w (w2.setCell ⟨w.heap.size + 1, (2 * q), none⟩ (.int .u8 ((at8 xs q).toNat : Int))) := HB2.out.setCell (by show w.heap.size ≤ w.heap.size + 1; omega) _
      have hZ5 : (w2.setCell ⟨w.heap.size + 1, (2 * q), none⟩ (.int .u8 ((at8 xs q).toNat : Int))).heap.size = w2.heap.size := by simp
      have k0 : Hid (((w2.setCell ⟨w.heap.size + 1, (2 * q), none⟩ (.int .u8 ((at8 xs q).toNat : Int))).alloc (.cells #[.int .i64 q, .int .i64 0] 89)).heap[w.heap.size]? = some (.cells #[.int .i64 s, .int .i64 0] 89 (0, 0))) := (Below.heap_alloc _ _ _ (ltHeap hP5)).trans hP5
      have k1 : Hid (((w2.setCell ⟨w.heap.size + 1, (2 * q), none⟩ (.int .u8 ((at8 xs q).toNat : Int))).alloc (.cells #[.int .i64 q, .int .i64 0] 89)).heap[w.heap.size + 1]? = some (.cells (vfs (colP m f ((2 * q) + 1))) 5 (0, 0))) := (Below.heap_alloc _ _ _ (ltHeap hR5)).trans hR5
      have k2 : Hid (((w2.setCell ⟨w.heap.size + 1, (2 * q), none⟩ (.int .u8 ((at8 xs q).toNat : Int))).alloc (.cells #[.int .i64 q, .int .i64 0] 89)).heap[w2.heap.size]? = some (.cells #[.int .i64 q, .int .i64 0] 89 (0, 0))) := by
        have := heap_alloc_last (w2.setCell ⟨w.heap.size + 1, (2 * q), none⟩ (.int .u8 ((at8 xs q).toNat : Int))) (.cells #[.int .i64 q, .int .i64 0] 89)
        rw [hZ5] at this
        exact this
      have kb : Hid (Below w.heap.size w ((w2.setCell ⟨w.heap.size + 1, (2 * q), none⟩ (.int .u8 ((at8 xs q).toNat : Int))).alloc (.cells #[.int .i64 q, .int .i64 0] 89))) := hB5.alloc hB5.size _
      clear hR5 hP5 hB5 hZ5
      generalize hWA : ((w2.setCell ⟨w.heap.size + 1, (2 * q), none⟩ (.int .u8 ((at8 xs q).toNat : Int))).alloc (.cells #[.int .i64 q, .int .i64 0] 89)) = wa at *
      clear hWA c1 c2 c3 c4 c5 c6 c7
      clear HA HB2 HB3 HP2 HR2
      have c1 := boxB (B := wa.heap.size) k0.out (ltHeap k0.out) 0 _ rfl
      have c2 := boxB (B := wa.heap.size) k0.out (ltHeap k0.out) 1 _ rfl
      have c3 := boxB (B := wa.heap.size) k2.out (ltHeap k2.out) 0 _ rfl
      have c4 := boxB (B := wa.heap.size) k2.out (ltHeap k2.out) 1 _ rfl
      obtain ⟨c, hcc⟩ : ∃ c, c = carN g q := ⟨_, rfl⟩
      have HCC : Hid _ := hcc
      have hcr := fun w => carrying_F k g q w (by omega) hg (by omega) (by omega)
      rw [← hcc] at hcr
      have HCR : Hid _ := hcr
      clear hcr hcc
      have hR2 : Below wa.heap.size wa wa.drew := (Below.refl _ _).drew
      go_region_held3 (fun w' => Below wa.heap.size wa w') (first | assumption | (refine Below.drew ?_; assumption)) (first | (go_at_call 78; refine Calls.mono (HCR.out _) ?_; rintro e wj ⟨rfl, hbj⟩; have hTa : Below wa.heap.size wa wj := Below.trans ‹Below wa.heap.size wa _› (Below.mono hbj (below_size ‹Below wa.heap.size wa _›)); clear hbj))
      have hB9 : Below w.heap.size w wj := kb.out.trans (hTa.mono kb.out.size)
      have hP9 := heap_later k0.out hTa
      have hR9 := heap_later k1.out hTa
      have hB : Hid _ := hB9
      have hP : Hid _ := hP9
      have hR : Hid _ := hR9
      clear hB9 hP9 hR9
      go_wp2
      exact ⟨⟨(2 * q) + 1, by omega, by go_num, hB.out, hP.out, hR.out⟩, by simp [intOf]; omega⟩
    ·
      go_wp2_with fail
      refine (placeOf_F (2 * q + 1) q 1 _ rfl (by decide) (by omega)).mono ?_
      rintro e w2 ⟨rfl, hb2⟩
      have zz := hb2.size
      have HP2 : Hid (w2.heap[w.heap.size]? = some (.cells #[.int .i64 s, .int .i64 0] 89 (0, 0))) := heap_later HP.out hb2
      have HR2 : Hid (w2.heap[w.heap.size + 1]? = some (.cells (vfs (colP m f (2 * q + 1))) 5 (0, 0))) := heap_later HR.out hb2
      have HB2 : Hid (Below w.heap.size w w2) := HB.out.trans (hb2.mono HB.out.size)
      clear hb2
      have hA := holds_new (holds_cons (holds_cons (holds_nil w2) HP2.out) HR2.out) #[.int .i64 q, .int .i64 1] 89
      have HA : Hid _ := hA
      have HB3 : Hid _ := HB2.out.alloc HB2.out.size (.cells #[.int .i64 q, .int .i64 1] 89)
      clear hA
      have c1 := cellAt (holds_at HA.out 0 rfl) 0 _ rfl
      have c2 := cellAt (holds_at HA.out 0 rfl) 1 _ rfl
      have c3 := cellAt (holds_at HA.out 2 rfl) 0 _ rfl
      have c4 := cellAt (holds_at HA.out 2 rfl) 1 _ rfl
      have z4 := ltHeap (holds_at HA.out 2 rfl)
      have z5 : w.heap.size + 1 < w2.heap.size := ltHeap HR2.out
      go_upto_region 9 with fail
      have k0 : Hid ((w2.alloc (.cells #[.int .i64 q, .int .i64 1] 89)).heap[w.heap.size]? = some (.cells #[.int .i64 s, .int .i64 0] 89 (0, 0))) := holds_at HA.out 2 rfl
      have k1 : Hid ((w2.alloc (.cells #[.int .i64 q, .int .i64 1] 89)).heap[w.heap.size + 1]? = some (.cells (vfs (colP m f (2 * q + 1))) 5 (0, 0))) := holds_at HA.out 1 rfl
      have k2 : Hid ((w2.alloc (.cells #[.int .i64 q, .int .i64 1] 89)).heap[w2.heap.size]? = some (.cells #[.int .i64 q, .int .i64 1] 89 (0, 0))) := holds_at HA.out 0 rfl
      have kb : Hid (Below w.heap.size w (w2.alloc (.cells #[.int .i64 q, .int .i64 1] 89))) := HB3.out
      generalize hWA : (w2.alloc (.cells #[.int .i64 q, .int .i64 1] 89)) = wa at *
      clear hWA c1 c2 c3 c4 
      clear HA HB2 HB3 HP2 HR2
      have c1 := cellAt k0.out 0 _ rfl
      have c2 := cellAt k0.out 1 _ rfl
      have c3 := cellAt k2.out 0 _ rfl
      have c4 := cellAt k2.out 1 _ rfl
      go_region
      have hB9 := kb.out.drew
      have hP9 := k0.out
      have hR9 := k1.out
      have hfq : f (2 * q + 1) = 0 := by rw [HFE.out]; exact placeF_no (q := q) (b := 1) (by decide) (by decide) (fun h => absurd h (by decide))
      rw [colP_skip hfq] at hR9
      have hB : Hid _ := hB9
      have hP : Hid _ := hP9
      have hR : Hid _ := hR9
      clear hB9 hP9 hR9 hfq
      go_wp2
      exact ⟨⟨(2 * q + 1) + 1, by omega, by go_num, hB.out, hP.out, hR.out⟩, by simp [intOf]; omega⟩
set_option maxHeartbeats 4000000 in
theorem hrowAt_1 (k g s cap : Nat) (a : Option Addr) (xs : List F) (w : World) (h1 : 1 ≤ k) (h2 : k ≤ 16) (hg : 1 ≤ g) (hg2 : g ≤ 16) (hs : s ≤ 16) (hx : xs.length = k) (hX : Row8 w a xs) :
    Calls Tryd.prog 52 #[.agg #[.int .i64 s, .int .i64 1], .slice a k cap, .int .i64 g] w fun e w' => ∃ gb n, e = .returned (.slice (some ⟨gb, 0, none⟩) n n) ∧ n = 2 * k ∧ w.heap.size ≤ gb ∧
      w'.heap[gb]? = some (.cells (vfs (rowF (2 * k) (placeF k g s 1 xs))) 5 (0, 0)) ∧ Below w.heap.size w w' := by
  obtain ⟨m, hm⟩ : ∃ m, m = 2 * k := ⟨_, rfl⟩
  have em : (2 : Int) * k = m := by omega
  have hm32 : m ≤ 32 := by omega
  rw [← hm]
  have HM : Hid _ := hm
  clear hm
  have hmk := run_make8 m (by omega)
  rcases hX with e0 | ⟨b, off, rfl, hc⟩
  · rw [e0] at hx; simp at hx; omega
  have HX : Hid _ := hx
  have HC : Hid _ := hc
  clear hx hc
  obtain ⟨f, hf⟩ : ∃ f, f = placeF k g s 1 xs := ⟨_, rfl⟩
  rw [← hf]
  have HFE : Hid _ := hf
  clear hf
  go_enter Tryd.func52, Tryd.ntmps52
  go_wp2
  have B0 := heap_alloc2_old w (.cells #[.int .i64 s, .int .i64 1] 89) (.cells (vfs (zeros m)) 5)
  have B1 := heap_alloc2_new w (.cells #[.int .i64 s, .int .i64 1] 89) (.cells (vfs (zeros m)) 5)
  have B3 := ((Below.refl w.heap.size w).alloc (Nat.le_refl _) (.cells #[.int .i64 s, .int .i64 1] 89)).alloc (by simp) (.cells (vfs (zeros m)) 5)
  generalize hW : ((w.alloc (.cells #[.int .i64 s, .int .i64 1] 89)).alloc (.cells (vfs (zeros m)) 5)) = W3 at *
  have HS0 : Hid _ := B0
  have HS1 : Hid _ := B1
  have HS3 : Hid _ := B3
  clear hW hmk B0 B1 B3
  go_loopw [18] (fun i wr => ∃ j : Nat, j ≤ m ∧ i = .int .i64 j ∧ Below w.heap.size w wr ∧ wr.heap[w.heap.size]? = some (.cells #[.int .i64 s, .int .i64 1] 89 (0, 0)) ∧ wr.heap[w.heap.size + 1]? = some (.cells (vfs (colP m f j)) 5 (0, 0))) (fun i _ => m - (intOf i).toNat)
  case atStart => exact ⟨0, by omega, rfl, HS3.out, HS0.out, by rw [← colP_zero]; exact HS1.out⟩
  case round =>
    obtain ⟨j, hj, rfl, hb, hp0, hr0⟩ := hrel
    have HB : Hid _ := hb
    have HP : Hid _ := hp0
    have HR : Hid _ := hr0
    clear hb hp0 hr0
    by_cases hlt : j < m
    rotate_left
    · have e : j = m := by omega
      subst e
      have hr := HR.out
      rw [colP_done] at hr
      have HR' : Hid _ := hr
      clear hr
      go_wp2
      go_ret
      exact ⟨w.heap.size + 1, j, rfl, rfl, by omega, HR'.out, HB.out⟩
    obtain ⟨q, b, rfl, hb2⟩ : ∃ q b : Nat, j = 2 * q + b ∧ b < 2 := ⟨j / 2, j % 2, by omega, by omega⟩
    have hqk : q < k := by have := HM.out; omega
    rcases (show b = 0 ∨ b = 1 by omega) with rfl | rfl
    ·
      go_wp2_with fail
      refine (placeOf_F (2 * q) q 0 _ rfl (by decide) (by omega)).mono ?_
      rintro e w2 ⟨rfl, hb2⟩
      have zz := hb2.size
      have HP2 : Hid (w2.heap[w.heap.size]? = some (.cells #[.int .i64 s, .int .i64 1] 89 (0, 0))) := heap_later HP.out hb2
      have HR2 : Hid (w2.heap[w.heap.size + 1]? = some (.cells (vfs (colP m f (2 * q))) 5 (0, 0))) := heap_later HR.out hb2
      have HB2 : Hid (Below w.heap.size w w2) := HB.out.trans (hb2.mono HB.out.size)
      clear hb2
      have hA := holds_new (holds_cons (holds_cons (holds_nil w2) HP2.out) HR2.out) #[.int .i64 q, .int .i64 0] 89
      have HA : Hid _ := hA
      have HB3 : Hid _ := HB2.out.alloc HB2.out.size (.cells #[.int .i64 q, .int .i64 0] 89)
      clear hA
      have c1 := cellAt (holds_at HA.out 0 rfl) 0 _ rfl
      have c2 := cellAt (holds_at HA.out 0 rfl) 1 _ rfl
      have c3 := cellAt (holds_at HA.out 2 rfl) 0 _ rfl
      have c4 := cellAt (holds_at HA.out 2 rfl) 1 _ rfl
      have z4 := ltHeap (holds_at HA.out 2 rfl)
      have z5 : w.heap.size + 1 < w2.heap.size := ltHeap HR2.out
      go_upto_region 9 with fail
      have k0 : Hid ((w2.alloc (.cells #[.int .i64 q, .int .i64 0] 89)).heap[w.heap.size]? = some (.cells #[.int .i64 s, .int .i64 1] 89 (0, 0))) := holds_at HA.out 2 rfl
      have k1 : Hid ((w2.alloc (.cells #[.int .i64 q, .int .i64 0] 89)).heap[w.heap.size + 1]? = some (.cells (vfs (colP m f (2 * q))) 5 (0, 0))) := holds_at HA.out 1 rfl
      have k2 : Hid ((w2.alloc (.cells #[.int .i64 q, .int .i64 0] 89)).heap[w2.heap.size]? = some (.cells #[.int .i64 q, .int .i64 0] 89 (0, 0))) := holds_at HA.out 0 rfl
      have kb : Hid (Below w.heap.size w (w2.alloc (.cells #[.int .i64 q, .int .i64 0] 89))) := HB3.out
      generalize hWA : (w2.alloc (.cells #[.int .i64 q, .int .i64 0] 89)) = wa at *
      clear hWA c1 c2 c3 c4 
      clear HA HB2 HB3 HP2 HR2
      have c1 := boxB (B := wa.heap.size) k0.out (ltHeap k0.out) 0 _ rfl
      have c2 := boxB (B := wa.heap.size) k0.out (ltHeap k0.out) 1 _ rfl
      have c3 := boxB (B := wa.heap.size) k2.out (ltHeap k2.out) 0 _ rfl
      have c4 := boxB (B := wa.heap.size) k2.out (ltHeap k2.out) 1 _ rfl
      obtain ⟨c, hcc⟩ : ∃ c, c = carN g q := ⟨_, rfl⟩
      have HCC : Hid _ := hcc
      have hcr := fun w => carrying_F k g q w (by omega) hg (by omega) (by omega)
      rw [← hcc] at hcr
      have HCR : Hid _ := hcr
      clear hcr hcc
      by_cases hsc : s = k + c
      · have hcr2 := HCR.out
        rw [← hsc] at hcr2
        have HCS : Hid _ := hsc
        clear HCR hsc
        have HCR : Hid _ := hcr2
        clear hcr2
        have hR2 : Below wa.heap.size wa wa.drew := (Below.refl _ _).drew
        go_region_held3 (fun w' => Below wa.heap.size wa w') (first | assumption | (refine Below.drew ?_; assumption)) (first | (go_at_call 78; refine Calls.mono (HCR.out _) ?_; rintro e wj ⟨rfl, hbj⟩; have hTa : Below wa.heap.size wa wj := Below.trans ‹Below wa.heap.size wa _› (Below.mono hbj (below_size ‹Below wa.heap.size wa _›)); clear hbj))
        have hB9 : Below w.heap.size w wj := kb.out.trans (hTa.mono kb.out.size)
        have hP9 := heap_later k0.out hTa
        have hR9 := heap_later k1.out hTa
        have c5 := cellAt hR9 (2 * q) _ (vfs_get _ _ (by rw [colP_len]; omega))
        have c6 := frozen_of_row _ (w.heap.size + 1) (2 * q) _ _ hR9
        have hfq : f (2 * q) = 1 := by rw [HFE.out]; exact placeF_yes (HCS.out.trans (by rw [HCC.out]))
        have hB : Hid _ := hB9
        have hP : Hid _ := hP9
        have hR : Hid _ := hR9
        have HQ : Hid _ := hfq
        clear hB9 hP9 hR9 hfq
        go_wp2
        refine ⟨⟨(2 * q) + 1, by omega, by go_num, hB.out.setCell (by show w.heap.size ≤ w.heap.size + 1; omega) _, (heap_setCell_other _ _ _ _ (by show w.heap.size ≠ w.heap.size + 1; omega)).trans hP.out, ?_⟩, by simp [intOf]; omega⟩
        rw [heap_setCell_same _ _ _ _ _ _ hR.out, ← colP_step m f (2 * q), HQ.out, ← vfs_set]
        rfl
      · have hs1 : ¬ (s : Int) = (k : Int) + c := by omega
        have hs2 : ((s : Int) == (k : Int) + c) = false := beq_eq_false_iff_ne.2 hs1
        have hR2 : Below wa.heap.size wa wa.drew := (Below.refl _ _).drew
        go_region_held3 (fun w' => Below wa.heap.size wa w') (first | assumption | (refine Below.drew ?_; assumption)) (first | (go_at_call 78; refine Calls.mono (HCR.out _) ?_; rintro e wj ⟨rfl, hbj⟩; have hTa : Below wa.heap.size wa wj := Below.trans ‹Below wa.heap.size wa _› (Below.mono hbj (below_size ‹Below wa.heap.size wa _›)); clear hbj))
        have hB9 : Below w.heap.size w wj := kb.out.trans (hTa.mono kb.out.size)
        have hP9 := heap_later k0.out hTa
        have hR9 := heap_later k1.out hTa
        have hfq : f (2 * q) = 0 := by rw [HFE.out]; exact placeF_no (q := q) (b := 0) (by decide) (by decide) (fun _ h => hsc (h.trans (by rw [HCC.out])))
        rw [colP_skip hfq] at hR9
        have hB : Hid _ := hB9
        have hP : Hid _ := hP9
        have hR : Hid _ := hR9
        clear hB9 hP9 hR9 hfq
        go_wp2
        exact ⟨⟨(2 * q) + 1, by omega, by go_num, hB.out, hP.out, hR.out⟩, by simp [intOf]; omega⟩
    ·
      go_wp2_with fail
      refine (placeOf_F (2 * q + 1) q 1 _ rfl (by decide) (by omega)).mono ?_
      rintro e w2 ⟨rfl, hb2⟩
      have zz := hb2.size
      have HP2 : Hid (w2.heap[w.heap.size]? = some (.cells #[.int .i64 s, .int .i64 1] 89 (0, 0))) := heap_later HP.out hb2
      have HR2 : Hid (w2.heap[w.heap.size + 1]? = some (.cells (vfs (colP m f (2 * q + 1))) 5 (0, 0))) := heap_later HR.out hb2
      have HB2 : Hid (Below w.heap.size w w2) := HB.out.trans (hb2.mono HB.out.size)
      clear hb2
      have hA := holds_new (holds_cons (holds_cons (holds_nil w2) HP2.out) HR2.out) #[.int .i64 q, .int .i64 1] 89
      have HA : Hid _ := hA
      have HB3 : Hid _ := HB2.out.alloc HB2.out.size (.cells #[.int .i64 q, .int .i64 1] 89)
      clear hA
      have c1 := cellAt (holds_at HA.out 0 rfl) 0 _ rfl
      have c2 := cellAt (holds_at HA.out 0 rfl) 1 _ rfl
      have c3 := cellAt (holds_at HA.out 2 rfl) 0 _ rfl
      have c4 := cellAt (holds_at HA.out 2 rfl) 1 _ rfl
      have z4 := ltHeap (holds_at HA.out 2 rfl)
      have c5 := cell_later HB3.out (HC.out q (by rw [HX.out]; omega))
      have c6 := cellAt (holds_at HA.out 1 rfl) (2 * q + 1) _ (vfs_get _ _ (by rw [colP_len]; omega))
      have c7 := frozen_of_row _ (w.heap.size + 1) (2 * q + 1) _ _ (holds_at HA.out 1 rfl)
      have z5 : w.heap.size + 1 < w2.heap.size := ltHeap HR2.out
      go_upto_region 9 with fail
      have hfq : f (2 * q + 1) = at8 xs q := by rw [HFE.out]; exact placeF_same (q := q) (b := 1) rfl (by decide)
      have hR5 : (w2.setCell ⟨w.heap.size + 1, (2 * q + 1), none⟩ (.int .u8 ((at8 xs q).toNat : Int))).heap[w.heap.size + 1]? = some (.cells (vfs (colP m f ((2 * q + 1) + 1))) 5 (0, 0)) := by
        rw [heap_setCell_same _ _ _ _ _ _ HR2.out, vfs_set, ← colP_step m f (2 * q + 1), hfq]
      have hP5 : (w2.setCell ⟨w.heap.size + 1, (2 * q + 1), none⟩ (.int .u8 ((at8 xs q).toNat : Int))).heap[w.heap.size]? = some (.cells #[.int .i64 s, .int .i64 1] 89 (0, 0)) := (heap_setCell_other _ _ _ _ (by show w.heap.size ≠ w.heap.size + 1; omega)).trans HP2.out
      have hB5 : Below w.heap.size w (w2.setCell ⟨w.heap.size + 1, (2 * q + 1), none⟩ (.int .u8 ((at8 xs q).toNat : Int))) := HB2.out.setCell (by show w.heap.size ≤ w.heap.size + 1; omega) _
      have hZ5 : (w2.setCell ⟨w.heap.size + 1, (2 * q + 1), none⟩ (.int .u8 ((at8 xs q).toNat : Int))).heap.size = w2.heap.size := by simp
      have k0 : Hid (((w2.setCell ⟨w.heap.size + 1, (2 * q + 1), none⟩ (.int .u8 ((at8 xs q).toNat : Int))).alloc (.cells #[.int .i64 q, .int .i64 1] 89)).heap[w.heap.size]? = some (.cells #[.int .i64 s, .int .i64 1] 89 (0, 0))) := (Below.heap_alloc _ _ _ (ltHeap hP5)).trans hP5
      have k1 : Hid (((w2.setCell ⟨w.heap.size + 1, (2 * q + 1), none⟩ (.int .u8 ((at8 xs q).toNat : Int))).alloc (.cells #[.int .i64 q, .int .i64 1] 89)).heap[w.heap.size + 1]? = some (.cells (vfs (colP m f ((2 * q + 1) + 1))) 5 (0, 0))) := (Below.heap_alloc _ _ _ (ltHeap hR5)).trans hR5
      have k2 : Hid (((w2.setCell ⟨w.heap.size + 1, (2 * q + 1), none⟩ (.int .u8 ((at8 xs q).toNat : Int))).alloc (.cells #[.int .i64 q, .int .i64 1] 89)).heap[w2.heap.size]? = some (.cells #[.int .i64 q, .int .i64 1] 89 (0, 0))) := by
        have := heap_alloc_last (w2.setCell ⟨w.heap.size + 1, (2 * q + 1), none⟩ (.int .u8 ((at8 xs q).toNat : Int))) (.cells #[.int .i64 q, .int .i64 1] 89)
        rw [hZ5] at this
        exact this
      have kb : Hid (Below w.heap.size w ((w2.setCell ⟨w.heap.size + 1, (2 * q + 1), none⟩ (.int .u8 ((at8 xs q).toNat : Int))).alloc (.cells #[.int .i64 q, .int .i64 1] 89))) := hB5.alloc hB5.size _
      clear hR5 hP5 hB5 hZ5
      generalize hWA : ((w2.setCell ⟨w.heap.size + 1, (2 * q + 1), none⟩ (.int .u8 ((at8 xs q).toNat : Int))).alloc (.cells #[.int .i64 q, .int .i64 1] 89)) = wa at *
      clear hWA c1 c2 c3 c4 c5 c6 c7
      clear HA HB2 HB3 HP2 HR2
      have c1 := cellAt k0.out 0 _ rfl
      have c2 := cellAt k0.out 1 _ rfl
      have c3 := cellAt k2.out 0 _ rfl
      have c4 := cellAt k2.out 1 _ rfl
      go_region
      have hB9 := kb.out.drew
      have hP9 := k0.out
      have hR9 := k1.out
      have hB : Hid _ := hB9
      have hP : Hid _ := hP9
      have hR : Hid _ := hR9
      clear hB9 hP9 hR9
      go_wp2
      exact ⟨⟨(2 * q + 1) + 1, by omega, by go_num, hB.out, hP.out, hR.out⟩, by simp [intOf]; omega⟩
theorem hrowAt_F (k g s p cap : Nat) (a : Option Addr) (xs : List F) (w : World) (h1 : 1 ≤ k) (h2 : k ≤ 16) (hg : 1 ≤ g) (hg2 : g ≤ 16) (hs : s ≤ 16) (hp : p < 2) (hx : xs.length = k) (hX : Row8 w a xs) :
    Calls Tryd.prog 52 #[.agg #[.int .i64 s, .int .i64 p], .slice a k cap, .int .i64 g] w fun e w' => ∃ gb n, e = .returned (.slice (some ⟨gb, 0, none⟩) n n) ∧ n = 2 * k ∧ w.heap.size ≤ gb ∧
      w'.heap[gb]? = some (.cells (vfs (rowF (2 * k) (placeF k g s p xs))) 5 (0, 0)) ∧ Below w.heap.size w w' := by
  rcases (show p = 0 ∨ p = 1 by omega) with rfl | rfl
  · exact hrowAt_0 k g s cap a xs w h1 h2 hg hg2 hs hx hX
  · exact hrowAt_1 k g s cap a xs w h1 h2 hg hg2 hs hx hX
end Go.Proofs.YtmlpijlcpeoeaaaDoor

/- Plain algebra of stage 7: what a half is, byte by byte, of the data halves; no program is spoken of. -/
namespace Go.Proofs.YtmlpijlcpeoeaaaDoor
open Go.RowKit Gf
set_option linter.unusedVariables false
set_option maxRecDepth 20000
/-- byte b of half h, of the data halves' bytes D -/
def imgF (k : Nat) (car : Nat → Nat) (D : Nat → Nat → F) (h b : Nat) : F := sumF (fun v => gm (halfF k car h v) (D v b)) (2 * k)
/-- half h -/
def imgL (k : Nat) (car : Nat → Nat) (H : Nat) (D : Nat → Nat → F) (h : Nat) : List F := rowF H (imgF k car D h)
theorem imgL_len (k : Nat) (car : Nat → Nat) (H : Nat) (D : Nat → Nat → F) (h : Nat) : (imgL k car H D h).length = H := rowF_len _ _
theorem img_congr {k H h : Nat} {car : Nat → Nat} {D E : Nat → Nat → F} (hD : ∀ v b, v < 2 * k → b < H → D v b = E v b) : imgL k car H D h = imgL k car H E h :=
  rowF_congr fun b hb => sumF_congr fun v hv => by rw [hD v b hv hb]
/-- a data half is itself -/
theorem img_data {k h : Nat} {car : Nat → Nat} {D : Nat → Nat → F} (hh : h < 2 * k) (b : Nat) : imgF k car D h b = D h b := by
  unfold imgF
  rw [sumF_pick _ h _ hh]
  · have : halfF k car h h = 1 := by
      simp only [halfF, if_true]
      rw [genF, if_pos (by omega), if_pos rfl]
    rw [this, F.one_mul]
  · intro v hv hne
    have : halfF k car h v = 0 := by
      simp only [halfF]
      by_cases hm : v % 2 = h % 2
      · rw [if_pos hm, genF, if_pos (by omega), if_neg (by omega)]
      · rw [if_neg hm, if_neg (by omega)]
    rw [this, F.zero_mul]
/-- what Image adds up for a parity's half: data shard j's part -/
def parS (k i p : Nat) (car : Nat → Nat) (D : Nat → Nat → F) (b j : Nat) : F := ga (gm (cyN (k + i) j) (D (2 * j + p) b)) (if p = 1 ∧ car j = i then D (2 * j) b else 0)
theorem img_par {k i p b : Nat} {car : Nat → Nat} {D : Nat → Nat → F} (hp : p < 2) : imgF k car D (2 * (k + i) + p) b = sumF (parS k i p car D b) k := by
  unfold imgF
  rw [sumF_two]
  refine sumF_congr fun j hj => ?_
  have hd : (2 * (k + i) + p) / 2 = k + i := by omega
  have hm : (2 * (k + i) + p) % 2 = p := by omega
  unfold parS
  rcases (show p = 0 ∨ p = 1 by omega) with rfl | rfl
  · have e1 : halfF k car (2 * (k + i) + 0) (2 * j) = cyN (k + i) j := by
      simp only [halfF]
      rw [if_pos (by omega), hd, show 2 * j / 2 = j by omega, genF, if_neg (by omega)]
    have e2 : halfF k car (2 * (k + i) + 0) (2 * j + 1) = 0 := by
      simp only [halfF]
      rw [if_neg (by omega), if_neg (by omega)]
    rw [e1, e2, F.zero_mul, if_neg (by omega)]
    rfl
  · have e1 : halfF k car (2 * (k + i) + 1) (2 * j + 1) = cyN (k + i) j := by
      simp only [halfF]
      rw [if_pos (by omega), hd, show (2 * j + 1) / 2 = j by omega, genF, if_neg (by omega)]
    have e2 : halfF k car (2 * (k + i) + 1) (2 * j) = if car j = i then 1 else 0 := by
      simp only [halfF]
      rw [if_neg (by omega), hd, show 2 * j / 2 = j by omega]
      by_cases e : car j = i
      · rw [if_pos e, if_pos ⟨by omega, by omega, by omega⟩]
      · rw [if_neg e, if_neg (fun h => e (by omega))]
    rw [e1, e2, F.add_comm]
    congr 1
    by_cases e : car j = i
    · rw [if_pos e, if_pos ⟨rfl, e⟩, F.one_mul]
    · rw [if_neg e, if_neg (fun h => e h.2), F.zero_mul]
theorem parS_step {k i p b j : Nat} {car : Nat → Nat} {D : Nat → Nat → F} {s : F} : ga (ga s (gm (cyN (k + i) j) (D (2 * j + p) b))) (if p = 1 ∧ car j = i then D (2 * j) b else 0) = ga s (parS k i p car D b j) := F.add_assoc _ _ _
end Go.Proofs.YtmlpijlcpeoeaaaDoor

/- What Join of package shards answers, of all lists of halves; nothing that was there turns. -/
namespace Go.Proofs.YtmlpijlcpeoeaaaDoor
open Go.RowKit Gf
set_option linter.unusedVariables false
set_option maxRecDepth 20000
/-- halves in form -/
def FitP (c h : Nat) (L : List (List F)) : Prop := L.length = c ∧ ∀ xs ∈ L, xs.length = h
theorem rows8_at {w : World} {a : Option Addr} {L : List (List F)} {j : Nat} (h : Rows8 w a L) (hj : j < L.length) : ∃ b off, a = some ⟨b, off, none⟩ ∧ b < w.heap.size ∧ ∀ j xs, L[j]? = some xs → ∃ a' cap', w.cell? ⟨b, off + j, none⟩ = some (.slice a' xs.length cap') ∧ Row8 w a' xs := by
  rcases h with rfl | ⟨b, off, rfl, h⟩
  · simp at hj
  · obtain ⟨a', cap', h1, _⟩ := h j _ (List.getElem?_eq_getElem hj)
    exact ⟨b, off, rfl, by simpa using World.block_lt_of_cell? w _ h1, h⟩
set_option maxHeartbeats 1000000 in
theorem fit_F (k h l cap : Nat) (a : Option Addr) (L : List (List F)) (w : World) (hk : k ≤ 14) (hl : l = L.length) (hl9 : l ≤ 140737488355328) (hL : Rows8 w a L) :
    Calls Tryd.prog 61 #[.int .i64 k, .int .i64 h, .slice a l cap] w fun e w' => ∃ b : Bool, e = .returned (.bool b) ∧ (b = true ∧ FitP (2 * k) h L ∨ b = false ∧ ¬ FitP (2 * k) h L) ∧ w = w' := by
  have HL : Hid _ := hl
  have HR : Hid _ := hL
  by_cases h2 : l = 2 * k
  · have h2' : 2 * (k : Int) = l := by omega
    have H2 : Hid _ := h2
    clear hl hL h2
    go_enter Tryd.func61, Tryd.ntmps61
    go_wp2
    go_loopw [16] (fun t wr => ∃ j : Nat, j ≤ l ∧ t = .int .i64 j ∧ wr = w ∧ Hid (∀ i xs, i < j → L[i]? = some xs → xs.length = h)) (fun t _ => l - (intOf t).toNat)
    case atStart => exact ⟨0, by omega, rfl, rfl, fun i xs h => absurd h (by omega)⟩
    case round =>
      obtain ⟨j, hj, rfl, rfl, HI⟩ := hrel
      by_cases hlt : j < l
      · obtain ⟨b, off, rfl, hb, hc⟩ := rows8_at HR.out (show j < L.length by rw [← HL.out]; exact hlt)
        obtain ⟨xs, hxs⟩ : ∃ xs, L[j]? = some xs := ⟨_, List.getElem?_eq_getElem (by rw [← HL.out]; exact hlt)⟩
        obtain ⟨a', cap', c1, _⟩ := hc j xs hxs
        have HX : Hid _ := hxs
        clear hc hxs
        by_cases he : xs.length = h
        · subst he
          clear h2'
          go_wp2
          refine ⟨⟨j + 1, by omega, by go_num, trivial, fun i ys hi hy => ?_⟩, by simp [intOf]; omega⟩
          by_cases e : i = j
          · subst e
            obtain rfl := Option.some.inj (HX.out.symm.trans hy)
            rfl
          · exact HI.out i ys (by omega) hy
        · have he' : ¬ (xs.length : Int) = h := by omega
          have HN : Hid _ := he
          clear h2' he
          go_wp2
          go_ret
          exact ⟨false, rfl, .inr ⟨rfl, fun hf => HN.out (hf.2 xs (List.mem_of_getElem? HX.out))⟩, rfl⟩
      · obtain rfl : j = l := by omega
        go_wp2
        go_ret
        refine ⟨true, rfl, .inl ⟨rfl, by rw [← HL.out, H2.out], fun xs hx => ?_⟩, rfl⟩
        obtain ⟨i, hi, e⟩ := List.getElem_of_mem hx
        exact HI.out i xs (by rw [HL.out]; exact hi) (by rw [List.getElem?_eq_getElem hi, e])
  · have h2' : ¬ (l : Int) = 2 * k := by omega
    have H2 : Hid _ := h2
    clear hl hL h2
    go_enter Tryd.func61, Tryd.ntmps61
    go_wp2
    go_ret
    exact ⟨false, rfl, .inr ⟨rfl, fun hf => H2.out (by rw [HL.out]; exact hf.1)⟩, rfl⟩
theorem run_make8_cap (n : Nat) (hn : n ≤ 140737488351232) (w : World) :
    (Instr.makeSlice 22 (.int .i64 0) (.int .i64 (n : Int))).run Tryd.prog w = .ok (.slice (some ⟨w.heap.size, 0, none⟩) 0 n) (w.alloc (.cells (vfs (zeros n)) 5)) := by
  obtain ⟨i, hi, h1, h2, h3⟩ := info8
  have := run_make (P := Tryd.prog) w 22 5 i _ Tryd.underlying22 hi h3 .i64 .i64 0 (n : Int) (by omega) (by omega) (by rw [h2]; omega) (by omega)
  rw [this, h1]
  simp only [Int.toNat_natCast, Nat.mul_one, made8, Int.toNat_zero]
/-- the first halves, one behind the other, and room -/
theorem joinP_step {c k : Nat} {L : List (List F)} {xs : List F} (h : ∀ xs ∈ L, xs.length = c) (hx : L[k]? = some xs) :
    (L.take k).flatten ++ xs ++ (zeros ((L.length - k) * c)).drop xs.length = ofP c L (k + 1) ∧ (L.take k).flatten.length = k * c := by
  have hk : k < L.length := (List.getElem?_eq_some_iff.1 hx).1
  have hl : (L.take k).flatten.length = k * c := by
    rw [flat_len (c := c) (fun x hx => h x (List.mem_of_mem_take hx)), List.length_take, Nat.min_eq_left (by omega)]
  have hxl : xs.length = c := h xs (List.mem_of_getElem? hx)
  have hd : L[k] = xs := (List.getElem?_eq_some_iff.1 hx).2
  refine ⟨?_, hl⟩
  rw [zeros_drop, ofP, List.take_succ_eq_append_getElem hk, List.flatten_append, hd, hxl]
  simp only [List.flatten_cons, List.flatten_nil, List.append_nil]
  congr 2
  rw [show L.length - k = (L.length - (k + 1)) + 1 from by omega, Nat.succ_mul]; omega
theorem join_bad (k size : Int) (l cap : Nat) (a : Option Addr) (w : World) (E : Nat → Addr) (hE : ErrsE w E) (hs0 : -9223372036854775808 ≤ size) (hs1 : size ≤ 9223372036854775807) (h : halfE k size ≠ 0) :
    Calls Tryd.prog 37 #[.int .i64 k, .int .i64 size, .slice a l cap] w fun e w' => e = .returned (.tuple #[.slice none 0 0, evV E (halfE k size)]) ∧ Below w.heap.size w w' := by
  have HF : Hid _ := half_F k size w E hE hs0 hs1
  rw [halfV_no h] at HF
  obtain ⟨s, hs⟩ : ∃ s, evV E (halfE k size) = errAt s := ⟨E (halfE k size - 1), by unfold evV; rw [if_neg h]⟩
  rw [hs] at HF ⊢
  clear hs h hE
  unfold errAt at *
  go_enter Tryd.func37, Tryd.ntmps37
  go_wp2_with fail
  refine Calls.mono HF.out ?_
  rintro e w1 ⟨rfl, hb⟩
  have HB : Hid _ := hb
  clear hb
  go_wp2_with fail
  go_ret2
  exact ⟨rfl, HB.out⟩
set_option maxHeartbeats 1000000 in
theorem join_no (k n l cap : Nat) (a : Option Addr) (L : List (List F)) (w : World) (E : Nat → Addr) (hE : ErrsE w E) (hD : w.cell? ⟨1, 0, none⟩ = some (errAt (E 4))) (h1 : 1 ≤ k) (h2 : k ≤ 14) (h3 : 1 ≤ n) (h4 : n ≤ 128 * k)
    (hl : l = L.length) (hl9 : l ≤ 140737488355328) (hL : Rows8 w a L) (hno : ¬ FitP (2 * k) (cntN (2 * k) n) L) :
    Calls Tryd.prog 37 #[.int .i64 k, .int .i64 n, .slice a l cap] w fun e w' => e = .returned (.tuple #[.slice none 0 0, errAt (E 4)]) ∧ Below w.heap.size w w' := by
  have HF : Hid _ := half_F k n w E hE (by omega) (by omega)
  rw [halfV_ok h1 h2 h3 h4, halfE_ok h1 h2 h3 h4, evV_zero] at HF
  have HD : Hid _ := hD
  have HFI : Hid _ := fun u (hb : Below w.heap.size w u) => fit_F k (cntN (2 * k) n) l cap a L u h2 hl hl9 (rows8_below hL hb)
  have HNO : Hid _ := hno
  generalize cntN (2 * k) n = H at *
  clear hE hD hl hL hno h3 h4
  unfold errAt at *
  go_enter Tryd.func37, Tryd.ntmps37
  go_wp2_with fail
  refine Calls.mono HF.out ?_
  rintro e w1 ⟨rfl, hb⟩
  have HB : Hid _ := hb
  clear hb
  go_wp2_with fail
  refine Calls.mono (HFI.out _ HB.out) ?_
  rintro e w2 ⟨b, rfl, hbb, rfl⟩
  have hbf : b = false := by
    rcases hbb with ⟨_, h⟩ | ⟨h, _⟩
    · exact absurd h HNO.out
    · exact h
  subst hbf
  have c0 := cell_later HB.out HD.out
  have hg := World.block_lt_of_cell? _ _ c0
  simp at hg
  clear hbb
  go_wp2
  go_region
  go_wp2
  go_ret2
  exact ⟨rfl, HB.out.drew⟩
set_option maxHeartbeats 2000000 in
theorem join_ok (k n l cap : Nat) (a : Option Addr) (L : List (List F)) (w : World) (E : Nat → Addr) (hE : ErrsE w E) (h1 : 1 ≤ k) (h2 : k ≤ 14) (h3 : 1 ≤ n) (h4 : n ≤ 128 * k)
    (hl : l = L.length) (hL : Rows8 w a L) (hok : FitP (2 * k) (cntN (2 * k) n) L) :
    Calls Tryd.prog 37 #[.int .i64 k, .int .i64 n, .slice a l cap] w fun e w' => ∃ g ys, e = .returned (.tuple #[.slice (some ⟨g, 0, none⟩) n n, .nilIface]) ∧ w.heap.size ≤ g ∧ Hid (L.flatten.take n ++ ys = L.flatten) ∧
      (L.flatten.take n).length = n ∧ w'.heap[g]? = some (.cells (vfs L.flatten) 5 (0, 0)) ∧ Below w.heap.size w w' := by
  have HF : Hid _ := half_F k n w E hE (by omega) (by omega)
  rw [halfV_ok h1 h2 h3 h4, halfE_ok h1 h2 h3 h4, evV_zero] at HF
  obtain ⟨k1, k2, k3, k4⟩ := cnt_half h1 h2 h3 h4
  have hl9 : l ≤ 28 := by rw [hl, hok.1]; omega
  have HFI : Hid _ := fun u (hb : Below w.heap.size w u) => fit_F k (cntN (2 * k) n) l cap a L u h2 hl (by omega) (rows8_below hL hb)
  obtain ⟨c, hc⟩ : ∃ c, c = 2 * k := ⟨_, rfl⟩
  rw [← hc] at HF HFI k1 k2 k3 k4 hok
  generalize cntN c n = H at *
  have hcH : c * H ≤ 1792 := Nat.le_trans (Nat.mul_le_mul (show c ≤ 28 by omega) k2) (by decide)
  obtain ⟨m, hm⟩ : ∃ m, m = c * H := ⟨_, rfl⟩
  have HKC : Hid ((2 : Int) * k = c) := by show _ = _; omega
  have HCM : Hid ((c : Int) * H = m) := by show _ = _; rw [hm]; simp
  have HMM : Hid _ := hm
  rw [← hm] at hcH k3
  have HC : Hid _ := hok.1
  have HA : Hid _ := hok.2
  have hlc : l = c := by rw [hl, hok.1]
  subst hlc
  have HOK : Hid _ := hok
  have HR : Hid _ := hL
  have H8 : Hid _ := fun w => run_make8_cap m (by omega) w
  have HK3 : Hid _ := k3
  have HK4 : Hid _ := k4
  clear hE h3 h4 hc hm hl hL hok k4
  go_enter Tryd.func37, Tryd.ntmps37
  go_wp2_with fail
  refine Calls.mono HF.out ?_
  rintro e w1 ⟨rfl, hb⟩
  have HB : Hid _ := hb
  clear hb
  go_wp2_with fail
  refine Calls.mono (HFI.out _ HB.out) ?_
  rintro e w2 ⟨b, rfl, hbb, rfl⟩
  have hbf : b = true := by
    rcases hbb with ⟨h, _⟩ | ⟨_, h⟩
    · exact h
    · exact absurd HOK.out h
  subst hbf
  have m1 := H8.out w1
  have hkc := HKC.out
  have hcm := HCM.out
  clear hbb
  go_wp2
  have B1 : Hid _ := heap_alloc_last w1 (.cells (vfs (zeros m)) 5)
  have B3 : Hid _ := HB.out.alloc HB.out.size (.cells (vfs (zeros m)) 5)
  have z1 : w.heap.size ≤ w1.heap.size := HB.out.size
  clear m1 hkc hcm
  generalize hN : w1.heap.size = N at *
  generalize (w1.alloc (.cells (vfs (zeros m)) 5)) = W3 at *
  clear hN
  go_loopw [10, 35] (fun s t wr => ∃ j q : Nat, j ≤ l ∧ t = .int .i64 j ∧ s = .slice (some ⟨N, 0, none⟩) q m ∧ Hid (q = j * H) ∧ W3.grownBy wr (some N) ∧ wr.heap[N]? = some (.cells (vfs (ofP H L j)) 5 (0, 0))) (fun _ t _ => l - (intOf t).toNat)
  case atStart => exact ⟨0, 0, by omega, rfl, rfl, by show _ = _; omega, World.grownBy.refl _ _, by rw [ofP_zero, HC.out, ← HMM.out]; exact B1.out⟩
  case round =>
    obtain ⟨j, q, hj, rfl, rfl, HQ, hgb, hs⟩ := hrel
    have HG : Hid _ := hgb
    have HS : Hid _ := hs
    have hW : Below w.heap.size w wr := below_grown B3.out hgb (by omega)
    by_cases hlt : j < l
    · obtain ⟨b, off, rfl, hb, hcl⟩ := rows8_at (rows8_below HR.out hW) (show j < L.length by rw [HC.out]; exact hlt)
      obtain ⟨xs, hxs⟩ : ∃ xs, L[j]? = some xs := ⟨_, List.getElem?_eq_getElem (by rw [HC.out]; exact hlt)⟩
      obtain ⟨a', cap', c1, c2⟩ := hcl j xs hxs
      have hxl : xs.length = H := HA.out xs (List.mem_of_getElem? hxs)
      obtain ⟨e1, e2⟩ := joinP_step HA.out hxs
      have hqm : q + H ≤ m := by
        rw [HQ.out, HMM.out]
        have := Nat.mul_le_mul_right H (show j + 1 ≤ l from hlt)
        rw [Nat.succ_mul] at this; omega
      have hrun := run_append8_room (w := wr) (g := N) (n := q) (cap := m) (xs := (L.take j).flatten) (old := zeros ((L.length - j) * H)) (ys := xs) (a := a') (m := H) (c := cap') 22 hs (by rw [e2]; exact HQ.out) hqm hxl.symm (by
        rw [zeros_len, hxl]
        exact Nat.le_mul_of_pos_left H (by rw [HC.out]; omega)) c2 (fun e => by
          rcases c2 with e' | ⟨_, _, e', _⟩
          · rw [e'] at hxl; simp at hxl; omega
          · rw [e] at e'; cases e')
      rw [e1] at hrun
      rw [hxl] at c1
      have HRun : Hid _ := hrun
      have HT : Hid _ := setRow_heap _ _ _ (vfs (ofP H L (j + 1))) _ _ hs
      have HQ2 : Hid (q + H = (j + 1) * H) := by show _ = _; rw [Nat.succ_mul, HQ.out]
      clear hrun hgb hs hW hcl hxs c2 hxl e1 e2
      go_wp2_with (at_builtin; refine wpList_append_run rfl _ _ 22 rfl _ _ _ _ rfl rfl HRun.out ?_)
      exact ⟨⟨j + 1, q + H, by omega, by go_num, rfl, HQ2.out, grownBy_setRow HG.out _, HT.out⟩, by simp [intOf]; omega⟩
    · obtain rfl : j = l := by omega
      have hq : q = m := by rw [HQ.out, HMM.out]
      subst hq
      have hfl : ofP H L j = L.flatten := by
        have := ofP_done H L
        rw [HC.out] at this
        exact this
      rw [hfl] at HS
      have hlen : L.flatten.length = q := by rw [flat_len HA.out, HC.out, ← HQ.out]
      have HLE : Hid (n ≤ L.flatten.length) := by show n ≤ _; rw [hlen]; exact k3
      clear hgb hs hlen hfl
      go_wp2
      go_ret2
      exact ⟨N, L.flatten.drop n, rfl, by omega, List.take_append_drop _ _, by rw [List.length_take]; exact Nat.min_eq_left HLE.out, HS.out, hW⟩
end Go.Proofs.YtmlpijlcpeoeaaaDoor

/- Plain algebra of stage 7: lists of bytes as functions; all halves of a stripe. -/
namespace Go.Proofs.YtmlpijlcpeoeaaaDoor
open Go.RowKit Gf
set_option linter.unusedVariables false
set_option maxRecDepth 20000
/-- the bytes of lists of bytes -/
def bytesD (L : List (List F)) : Nat → Nat → F := fun v b => at8 (L.getD v []) b
/-- a stripe's data halves' bytes -/
def strD (H : Nat) (xs : List F) : Nat → Nat → F := fun v b => at8 xs (v * H + b)
theorem img_stripe {k H h c : Nat} {car : Nat → Nat} {xs : List F} (hc : 2 * k ≤ c) : imgL k car H (bytesD ((List.range c).map (hf H xs))) h = imgL k car H (strD H xs) h :=
  img_congr fun v b hv hb => by
    simp only [bytesD, List.getD_eq_getElem?_getD, List.getElem?_map]
    rw [List.getElem?_range (by omega)]
    exact at8_rowF hb
/-- all halves of a stripe -/
def encL (k r H : Nat) (xs : List F) : List (List F) := (List.range (2 * (k + r))).map (imgL k (carN (groupN k r)) H (strD H xs))
theorem encL_len (k r H : Nat) (xs : List F) : (encL k r H xs).length = 2 * (k + r) := by simp [encL]
theorem encL_all {k r H : Nat} {xs ys : List F} (h : ys ∈ encL k r H xs) : ys.length = H := by
  obtain ⟨v, _, rfl⟩ := List.mem_map.1 h
  exact imgL_len _ _ _ _ _
theorem encL_at {k r H h : Nat} {xs : List F} (hh : h < 2 * (k + r)) : (encL k r H xs)[h]? = some (imgL k (carN (groupN k r)) H (strD H xs) h) := by simp [encL, hh]
end Go.Proofs.YtmlpijlcpeoeaaaDoor

/- What the document's own Image answers, of all legal numbers, halves and lists of halves in form; nothing that was there turns. -/
namespace Go.Proofs.YtmlpijlcpeoeaaaDoor
open Go.RowKit Gf
set_option linter.unusedVariables false
set_option maxRecDepth 20000
/-- a half made as far as byte b, whose sum stands at s -/
def imP (H : Nat) (f : Nat → F) (b : Nat) (s : F) : List F := rowF H (fun i => if i < b then f i else if i = b then s else 0)
theorem imP_len (H : Nat) (f : Nat → F) (b : Nat) (s : F) : (imP H f b s).length = H := rowF_len _ _
theorem imP_zero (H : Nat) (f : Nat → F) : zeros H = imP H f 0 0 := rowF_eq (zeros_len H) fun j hj => by rw [at8_zeros, if_neg (by omega)]; split <;> rfl
theorem imP_done (H : Nat) (f : Nat → F) (s : F) : imP H f H s = rowF H f := rowF_congr fun j hj => by rw [if_pos hj]
theorem imP_at {H b : Nat} {f : Nat → F} {s : F} (hb : b < H) : at8 (imP H f b s) b = s := by rw [imP, at8_rowF hb, if_neg (by omega), if_pos rfl]
theorem imP_set {H b : Nat} {f : Nat → F} {s t : F} (hb : b < H) : (imP H f b s).set b t = imP H f b t := by
  refine rowF_eq (by rw [List.length_set, imP_len]) fun j hj => ?_
  by_cases h : j = b
  · subst h
    rw [if_neg (by omega), if_pos rfl]
    simp [at8, imP_len, hj]
  · have e : at8 ((imP H f b s).set b t) j = at8 (imP H f b s) j := by simp [at8, Ne.symm h]
    rw [e, imP, at8_rowF hj, if_neg h, if_neg h]
theorem imP_next {H b : Nat} {f : Nat → F} : imP H f b (f b) = imP H f (b + 1) 0 := rowF_congr fun j hj => by
  by_cases h1 : j < b
  · rw [if_pos h1, if_pos (by omega)]
  · rw [if_neg h1]
    by_cases h2 : j = b
    · subst h2; rw [if_pos rfl, if_pos (by omega)]
    · rw [if_neg h2, if_neg (by omega)]; split <;> rfl
set_option maxHeartbeats 2000000 in
theorem rimage_data (k r h H l cap : Nat) (a : Option Addr) (L : List (List F)) (w : World) (hk : k ≤ 14) (hh : h < 2 * k) (hH : H ≤ 64) (hl : 2 * k ≤ L.length) (hll : l = L.length) (hL : ∀ xs ∈ L, xs.length = H) (hR : Rows8 w a L) :
    Calls Tryd.prog 23 #[.int .i64 k, .int .i64 r, .int .i64 h, .slice a l cap, .int .i64 H] w fun e w' => ∃ g, e = .returned (.slice (some ⟨g, 0, none⟩) H H) ∧ w.heap.size ≤ g ∧
      w'.heap[g]? = some (.cells (vfs (rowF H (bytesD L h))) 5 (0, 0)) ∧ Below w.heap.size w w' := by
  obtain ⟨b, off, rfl, hb, hcl⟩ := rows8_at hR (show h < L.length by omega)
  obtain ⟨xs, hxs⟩ : ∃ xs, L[h]? = some xs := ⟨_, List.getElem?_eq_getElem (by omega)⟩
  obtain ⟨a', cap', c1, c2⟩ := hcl h xs hxs
  have hxl : xs.length = H := hL xs (List.mem_of_getElem? hxs)
  have hlt : h < l := by omega
  have hmk := run_make8 H (by omega) w
  have hs : (h : Int) / 2 = ((h / 2 : Nat) : Int) := by omega
  have hs2 : ((h / 2 : Nat) : Int) < k := by omega
  have hcp := run_copy8 w.heap.size H H a' H cap' (zeros H) xs (w.alloc (.cells (vfs (zeros H)) 5)) 3 (zeros_len H).symm hxl.symm (by rw [zeros_len, hxl]; exact Nat.le_refl _) (heap_alloc_last w _) (row8_alloc c2 _)
  rw [World.setRow_alloc_new, zeros_drop, hxl, Nat.sub_self] at hcp
  have hfin : xs ++ zeros 0 = rowF H (bytesD L h) := by
    rw [show zeros 0 = [] from rfl, List.append_nil]
    refine rowF_eq hxl fun j hj => ?_
    simp [bytesD, List.getD_eq_getElem?_getD, hxs]
  rw [hfin] at hcp
  rw [hxl] at c1
  have c1' := cell?_alloc_old (.cells (vfs (zeros H)) 5) c1
  generalize h / 2 = s at hs hs2
  clear hl hll hL hR hcl hxs hxl hh c1 c2 hfin
  go_enter Tryd.func23, Tryd.ntmps23
  go_wp2
  go_ret
  exact ⟨w.heap.size, rfl, Nat.le_refl _, heap_alloc_last _ _, (Below.refl _ _).alloc (Nat.le_refl _) _⟩
set_option maxHeartbeats 8000000 in
theorem rimage_par (k r i p H l cap : Nat) (a : Option Addr) (L : List (List F)) (w : World) (h1 : 1 ≤ k) (h2 : 2 ≤ r) (h3 : k + r ≤ 16) (hi : i < r) (hp : p < 2) (hH : H ≤ 64) (hl : 2 * k ≤ L.length) (hll : l = L.length) (hl9 : l ≤ 140737488355328) (hL : ∀ xs ∈ L, xs.length = H) (hR : Rows8 w a L) :
    Calls Tryd.prog 23 #[.int .i64 k, .int .i64 r, .int .i64 (2 * (k + i) + p : Nat), .slice a l cap, .int .i64 H] w fun e w' => ∃ g, e = .returned (.slice (some ⟨g, 0, none⟩) H H) ∧ w.heap.size ≤ g ∧
      w'.heap[g]? = some (.cells (vfs (imgL k (carN (groupN k r)) H (bytesD L) (2 * (k + i) + p))) 5 (0, 0)) ∧ Below w.heap.size w w' := by
  obtain ⟨car, hcar⟩ : ∃ car, car = carN (groupN k r) := ⟨_, rfl⟩
  have HP7 : Hid _ := fun w => rparity_F k r w h1 h2 h3
  have HC7 : Hid _ := fun w j (hj : j ≤ 1000) => rcarrier_F k r j w h1 h2 h3 hj
  rw [← hcar] at HC7 ⊢
  have himg : imgL k car H (bytesD L) (2 * (k + i) + p) = rowF H (fun b => sumF (parS k i p car (bytesD L) b) k) := rowF_congr fun b _ => img_par hp
  rw [himg]
  obtain ⟨f, hf⟩ : ∃ f : Nat → F, f = fun b => sumF (parS k i p car (bytesD L) b) k := ⟨_, rfl⟩
  have HF : Hid _ := hf
  rw [← hf]
  clear hf
  obtain ⟨h, hh⟩ : ∃ h, h = 2 * (k + i) + p := ⟨_, rfl⟩
  rw [← hh]
  have hd : (h : Int) / 2 = ((k + i : Nat) : Int) := by omega
  have hm2 : (h : Int).tmod 2 = (p : Int) := by rw [show (2 : Int) = ((2 : Nat) : Int) from rfl, ← Int.ofNat_tmod]; omega
  have hme : (h : Int) % 2 = (p : Int) := by omega
  obtain ⟨s, hs⟩ : ∃ s, s = k + i := ⟨_, rfl⟩
  rw [← hs] at hd
  have hsk : ¬ (s : Int) < k := by omega
  have hs32 : s ≤ 32 := by omega
  have hp0 : (0 : Int) ≤ p := by omega
  have hmk := run_make8 H (by omega) w
  have HR : Hid _ := hR
  have HL : Hid _ := hL
  have HLL : Hid _ := hll
  have HSS : Hid _ := hs
  have hl32 : 2 * k ≤ l := by omega
  clear hcar himg hh hs hR hL hll hl
  go_enter Tryd.func23, Tryd.ntmps23
  go_wp2_with fail
  refine Calls.mono (HP7.out _) ?_
  rintro e w2 ⟨gP, m, rfl, hm, hg, hhm, hb2⟩
  have hA := holds_later (holds_new (holds_nil w) (vfs (zeros H)) 5) hb2
  have z0 := ltHeap (holds_at hA 0 rfl)
  have zg : gP < w2.heap.size := ltHeap hhm
  simp only [World.size_alloc] at hg
  have HM : Hid _ := hm
  have HB' : Hid (Below w.heap.size w w2) := ((Below.refl w.heap.size w).alloc (Nat.le_refl _) _).trans (hb2.mono (by simp))
  have hA := holds_new (holds_cons hA hhm) #[.int .i64 r, .int .i64 k, .slice (some ⟨gP, 0, none⟩) m m] 65
  have HA : Hid _ := hA
  have B4 : Hid (Below w.heap.size w (w2.alloc (.cells #[.int .i64 r, .int .i64 k, .slice (some ⟨gP, 0, none⟩) m m] 65))) := HB'.out.alloc (by omega) _
  have hgm : gP ≠ w.heap.size := by omega
  clear hm hhm hb2 hA HB' hmk
  go_wp2
  generalize hM : w2.heap.size = M at *
  generalize (w2.alloc (.cells #[.int .i64 r, .int .i64 k, .slice (some ⟨gP, 0, none⟩) m m] 65)) = W3 at *
  have hMw : M ≠ w.heap.size := by omega
  clear hM hd hm2 hme
  have B1 : Hid (W3.heap[w.heap.size]? = some (.cells (vfs (zeros H)) 5 (0, 0))) := holds_at HA.out 2 rfl
  have B2 : Hid (W3.heap[gP]? = some (.cells (vfs (parM k r)) 5 (0, 0))) := holds_at HA.out 1 rfl
  have B3 : Hid (W3.heap[M]? = some (.cells #[.int .i64 r, .int .i64 k, .slice (some ⟨gP, 0, none⟩) m m] 65 (0, 0))) := holds_at HA.out 0 rfl
  clear HA
  generalize hg0 : w.heap.size = g0 at *
  have HG0 : Hid _ := hg0
  clear hg0
  go_loopw [15] (fun t wr => ∃ b : Nat, b ≤ H ∧ t = .int .i64 b ∧ W3.grownBy wr (some g0) ∧ wr.heap[g0]? = some (.cells (vfs (imP H f b 0)) 5 (0, 0))) (fun t _ => H - (intOf t).toNat)
  case atStart => exact ⟨0, by omega, rfl, World.grownBy.refl _ _, by rw [← imP_zero]; exact B1.out⟩
  case round =>
    obtain ⟨b, hb, rfl, hgb, hs⟩ := hrel
    have HG : Hid _ := hgb
    have HS : Hid _ := hs
    clear hgb hs
    by_cases hltb : b < H
    · go_wp2
      generalize wr = wo at *
      go_loopw [16] (fun t wr => ∃ j : Nat, j ≤ k ∧ t = .int .i64 j ∧ W3.grownBy wr (some g0) ∧ wr.heap[g0]? = some (.cells (vfs (imP H f b (sumF (parS k i p car (bytesD L) b) j))) 5 (0, 0))) (fun t _ => k - (intOf t).toNat)
      case atStart => exact ⟨0, by omega, rfl, HG.out, HS.out⟩
      case round =>
        obtain ⟨j, hj, rfl, hgb, hs⟩ := hrel
        have HG2 : Hid _ := hgb
        have HS2 : Hid _ := hs
        by_cases hltj : j < k
        · have hBw : ∀ u, W3.grownBy u (some g0) → Below w.heap.size w u := fun u hu => below_grown (by rw [HG0.out]; exact B4.out) hu (by rw [HG0.out]; exact Nat.le_refl _)
          obtain ⟨v, hv⟩ : ∃ v, v = 2 * j + p := ⟨_, rfl⟩
          have hvl : v < L.length := by rw [← HLL.out]; omega
          obtain ⟨bL, off, rfl, hbL, hcl⟩ := rows8_at HR.out hvl
          obtain ⟨xs, hxs⟩ : ∃ xs, L[v]? = some xs := ⟨_, List.getElem?_eq_getElem hvl⟩
          obtain ⟨a', cap', e1, e2⟩ := hcl v xs hxs
          have hxl : xs.length = H := HL.out xs (List.mem_of_getElem? hxs)
          obtain ⟨b', off', rfl, hb', he2⟩ := row8_cell e2 (show b < xs.length by rw [hxl]; exact hltb)
          have hDv : bytesD L v b = at8 xs b := by simp [bytesD, List.getD_eq_getElem?_getD, hxs]
          obtain ⟨q, hq⟩ : ∃ q, q = i * k := ⟨_, rfl⟩
          obtain ⟨z, hz⟩ : ∃ z, z = q + j := ⟨_, rfl⟩
          have hzm : z < m := by rw [hz, hq, HM.out]; exact place_lt hi hltj
          have hm9 : m ≤ 1024 := by
            rw [HM.out]; exact Nat.le_trans (Nat.mul_le_mul (show r ≤ 16 by omega) (show k ≤ 16 by omega)) (by decide)
          have C1 : ∀ u, W3.grownBy u (some g0) → u.cell? ⟨M, 2, none⟩ = some (.slice (some ⟨gP, 0, none⟩) m m) := fun u hu => cellAt (grown_block hu B3.out (by omega)) 2 _ rfl
          have C2 : ∀ u, W3.grownBy u (some g0) → u.cell? ⟨gP, z, none⟩ = some (.int .u8 ((cyN (k + i) j).toNat : Int)) := fun u hu => by
            have := cellAt (grown_block hu B2.out (by omega)) z _ (vfs_get _ _ (by rw [parM_len, ← HM.out]; exact hzm))
            rw [this, hz, hq]
            congr 3
            exact congrArg UInt8.toNat (at8_grid (f := fun i j => cyN (k + i) j) hi hltj)
          have C3 : ∀ u, W3.grownBy u (some g0) → u.cell? ⟨bL, off + v, none⟩ = some (.slice (some ⟨b', off', none⟩) H cap') := fun u hu => by rw [← hxl]; exact cell_later (hBw u hu) e1
          have C4 : ∀ u, W3.grownBy u (some g0) → u.cell? ⟨b', off' + b, none⟩ = some (.int .u8 ((bytesD L v b).toNat : Int)) := fun u hu => by rw [hDv]; exact cell_later (hBw u hu) (he2 b (by rw [hxl]; exact hltb))
          have t1 : (s : Int) - (k : Int) = (i : Int) := by have := HSS.out; omega
          have t2 : (i : Int) * (k : Int) = (q : Int) := by rw [hq]; simp
          have t3 : (q : Int) + (j : Int) = (z : Int) := by omega
          have t4 : (2 : Int) * (j : Int) + (p : Int) = (v : Int) := by omega
          have w1 : IntKind.i64.wrap (i : Int) = (i : Int) := by rw [IntKind.wrap_i64]; omega
          have w2' : IntKind.i64.wrap (q : Int) = (q : Int) := by rw [IntKind.wrap_i64]; omega
          have w3 : IntKind.i64.wrap (z : Int) = (z : Int) := by rw [IntKind.wrap_i64]; omega
          have w4 : IntKind.i64.wrap (2 * (j : Int)) = 2 * (j : Int) := by rw [IntKind.wrap_i64]; omega
          have w5 : IntKind.i64.wrap (v : Int) = (v : Int) := by rw [IntKind.wrap_i64]; omega
          have hvl' : v < l := by rw [HLL.out]; exact hvl
          obtain ⟨sj, hsj⟩ : ∃ sj, sj = sumF (parS k i p car (bytesD L) b) j := ⟨_, rfl⟩
          rw [← hsj] at hs
          have HSJ : Hid _ := hsj
          have c0 : wr.drew.cell? ⟨g0, b, none⟩ = some (.int .u8 (sj.toNat : Int)) := by
            rw [cellAt (w := wr.drew) hs b _ (vfs_get _ _ (by rw [imP_len]; exact hltb)), imP_at hltb]
          have d0 : wr.drew.frozen? ⟨g0, b, none⟩ = false := frozen_of_row _ _ _ _ _ (show wr.drew.heap[g0]? = _ from hs)
          have HT : Hid ((wr.drew.setCell ⟨g0, b, none⟩ (.int .u8 ((ga sj (gm (cyN (k + i) j) (bytesD L v b))).toNat : Int))).heap[g0]? = some (.cells (vfs (imP H f b (ga sj (gm (cyN (k + i) j) (bytesD L v b))))) 5 (0, 0))) := by
            show _ = _
            rw [heap_setCell_same _ _ _ _ _ _ (show wr.drew.heap[g0]? = _ from hs), vfs_set, imP_set hltb]
          have ex := xor_val sj (gm (cyN (k + i) j) (bytesD L v b))
          have HV : Hid _ := hv
          have hS0 : W3.grownBy wr.drew (some g0) := grownBy_drew hgb
          clear hgb hs hcl hxs e1 e2 he2 hDv hq hz hv hsj hBw
          go_upto_region 13 with fail
          go_cut [] (fun wx => W3.grownBy wx (some g0) ∧ wx.heap[g0]? = some (.cells (vfs (imP H f b (ga sj (gm (cyN (k + i) j) (bytesD L v b))))) 5 (0, 0)))
          case first =>
            refine wp_region_noPanic ?_
            refine wp_region_held_drew (S := fun u => W3.grownBy u (some g0)) (by kernel_rfl) ?_ (fun hHeld => ?_)
            · exact hS0
            refine wpAnyH_take (i := 0) (oi := { dst := some 46, op := Op.move (Operand.tmp 11), type := 22, pos := "ref.go:26", after := #[], guard := none }) (v := ?_) rfl (by kernel_rfl) (by kernel_rfl) (by kernel_rfl) (fun _ _ _ h => h) (Or.inl ⟨by rfl, ?_⟩) hHeld ?_
            rotate_left
            · intro u hSw
              go_simp
              try with_reducible rfl
            try simp only [Act.put, List.setIfInBounds_toArray, List.set_cons_zero, List.set_cons_succ]
            refine wpAnyH_take (i := 1) (oi := { dst := some 47, op := Op.move (Operand.tmp 15), type := 3, pos := "ref.go:26", after := #[], guard := none }) (v := ?_) rfl (by kernel_rfl) (by kernel_rfl) (by kernel_rfl) (fun _ _ _ h => h) (Or.inl ⟨by rfl, ?_⟩) hHeld ?_
            rotate_left
            · intro u hSw
              go_simp
              try with_reducible rfl
            try simp only [Act.put, List.setIfInBounds_toArray, List.set_cons_zero, List.set_cons_succ]
            refine wpAnyH_take (i := 2) (oi := { dst := some 48, op := Op.indexAddr 22 (Operand.tmp 46) (Operand.tmp 47), type := 0, pos := "ref.go:26", after := #[{ on := 0, ground := Ground.data }, { on := 1, ground := Ground.data }], guard := none }) (v := ?_) rfl (by kernel_rfl) (by kernel_rfl) (by kernel_rfl) (fun _ _ _ h => h) (Or.inl ⟨by rfl, ?_⟩) hHeld ?_
            rotate_left
            · intro u hSw
              go_simp
              try with_reducible rfl
            try simp only [Act.put, List.setIfInBounds_toArray, List.set_cons_zero, List.set_cons_succ]
            refine wpAnyH_take (i := 4) (oi := { dst := some 50, op := Op.fieldAddr 65 (Operand.tmp 14) 2, type := 0, pos := "ref.go:26", after := #[], guard := none }) (v := ?_) rfl (by kernel_rfl) (by kernel_rfl) (by kernel_rfl) (fun _ _ _ h => h) (Or.inl ⟨by rfl, ?_⟩) hHeld ?_
            rotate_left
            · intro u hSw
              go_simp
              try with_reducible rfl
            try simp only [Act.put, List.setIfInBounds_toArray, List.set_cons_zero, List.set_cons_succ]
            refine wpAnyH_take (i := 5) (oi := { dst := some 51, op := Op.load 22 (Operand.tmp 50), type := 22, pos := "ref.go:26", after := #[{ on := 4, ground := Ground.data }], guard := none }) (v := ?_) rfl (by kernel_rfl) (by kernel_rfl) (by kernel_rfl) (fun _ _ _ h => h) (Or.inl ⟨by rfl, ?_⟩) hHeld ?_
            rotate_left
            · intro u hSw
              have q0 := C1 u hSw
              go_simp
              try with_reducible rfl
            try simp only [Act.put, List.setIfInBounds_toArray, List.set_cons_zero, List.set_cons_succ]
            refine wpAnyH_take (i := 6) (oi := { dst := some 52, op := Op.move (Operand.tmp 12), type := 3, pos := "ref.go:26", after := #[], guard := none }) (v := ?_) rfl (by kernel_rfl) (by kernel_rfl) (by kernel_rfl) (fun _ _ _ h => h) (Or.inl ⟨by rfl, ?_⟩) hHeld ?_
            rotate_left
            · intro u hSw
              go_simp
              try with_reducible rfl
            try simp only [Act.put, List.setIfInBounds_toArray, List.set_cons_zero, List.set_cons_succ]
            refine wpAnyH_take (i := 7) (oi := { dst := some 53, op := Op.move (Operand.tmp 0), type := 3, pos := "ref.go:26", after := #[], guard := none }) (v := ?_) rfl (by kernel_rfl) (by kernel_rfl) (by kernel_rfl) (fun _ _ _ h => h) (Or.inl ⟨by rfl, ?_⟩) hHeld ?_
            rotate_left
            · intro u hSw
              go_simp
              try with_reducible rfl
            try simp only [Act.put, List.setIfInBounds_toArray, List.set_cons_zero, List.set_cons_succ]
            refine wpAnyH_take (i := 8) (oi := { dst := some 54, op := Op.binOp BinOp.sub 3 (Operand.tmp 52) (Operand.tmp 53) 3, type := 3, pos := "ref.go:26", after := #[{ on := 6, ground := Ground.data }, { on := 7, ground := Ground.data }], guard := none }) (v := ?_) rfl (by kernel_rfl) (by kernel_rfl) (by kernel_rfl) (fun _ _ _ h => h) (Or.inl ⟨by rfl, ?_⟩) hHeld ?_
            rotate_left
            · intro u hSw
              go_simp
              try with_reducible rfl
            try simp only [Act.put, List.setIfInBounds_toArray, List.set_cons_zero, List.set_cons_succ]
            refine wpAnyH_take (i := 9) (oi := { dst := some 55, op := Op.move (Operand.tmp 0), type := 3, pos := "ref.go:26", after := #[], guard := none }) (v := ?_) rfl (by kernel_rfl) (by kernel_rfl) (by kernel_rfl) (fun _ _ _ h => h) (Or.inl ⟨by rfl, ?_⟩) hHeld ?_
            rotate_left
            · intro u hSw
              go_simp
              try with_reducible rfl
            try simp only [Act.put, List.setIfInBounds_toArray, List.set_cons_zero, List.set_cons_succ]
            refine wpAnyH_take (i := 10) (oi := { dst := some 56, op := Op.binOp BinOp.mul 3 (Operand.tmp 54) (Operand.tmp 55) 3, type := 3, pos := "ref.go:26", after := #[{ on := 8, ground := Ground.data }, { on := 9, ground := Ground.data }], guard := none }) (v := ?_) rfl (by kernel_rfl) (by kernel_rfl) (by kernel_rfl) (fun _ _ _ h => h) (Or.inl ⟨by rfl, ?_⟩) hHeld ?_
            rotate_left
            · intro u hSw
              go_simp
              try with_reducible rfl
            try simp only [Act.put, List.setIfInBounds_toArray, List.set_cons_zero, List.set_cons_succ]
            refine wpAnyH_take (i := 11) (oi := { dst := some 57, op := Op.move (Operand.tmp 16), type := 3, pos := "ref.go:26", after := #[], guard := none }) (v := ?_) rfl (by kernel_rfl) (by kernel_rfl) (by kernel_rfl) (fun _ _ _ h => h) (Or.inl ⟨by rfl, ?_⟩) hHeld ?_
            rotate_left
            · intro u hSw
              go_simp
              try with_reducible rfl
            try simp only [Act.put, List.setIfInBounds_toArray, List.set_cons_zero, List.set_cons_succ]
            refine wpAnyH_take (i := 12) (oi := { dst := some 58, op := Op.binOp BinOp.add 3 (Operand.tmp 56) (Operand.tmp 57) 3, type := 3, pos := "ref.go:26", after := #[{ on := 10, ground := Ground.data }, { on := 11, ground := Ground.data }], guard := none }) (v := ?_) rfl (by kernel_rfl) (by kernel_rfl) (by kernel_rfl) (fun _ _ _ h => h) (Or.inl ⟨by rfl, ?_⟩) hHeld ?_
            rotate_left
            · intro u hSw
              go_simp
              try with_reducible rfl
            try simp only [Act.put, List.setIfInBounds_toArray, List.set_cons_zero, List.set_cons_succ]
            refine wpAnyH_take (i := 13) (oi := { dst := some 59, op := Op.indexAddr 22 (Operand.tmp 51) (Operand.tmp 58), type := 0, pos := "ref.go:26", after := #[{ on := 5, ground := Ground.data }, { on := 12, ground := Ground.data }], guard := none }) (v := ?_) rfl (by kernel_rfl) (by kernel_rfl) (by kernel_rfl) (fun _ _ _ h => h) (Or.inl ⟨by rfl, ?_⟩) hHeld ?_
            rotate_left
            · intro u hSw
              go_simp
              try with_reducible rfl
            try simp only [Act.put, List.setIfInBounds_toArray, List.set_cons_zero, List.set_cons_succ]
            refine wpAnyH_take (i := 14) (oi := { dst := some 60, op := Op.load 5 (Operand.tmp 59), type := 5, pos := "ref.go:26", after := #[{ on := 13, ground := Ground.data }], guard := none }) (v := ?_) rfl (by kernel_rfl) (by kernel_rfl) (by kernel_rfl) (fun _ _ _ h => h) (Or.inl ⟨by rfl, ?_⟩) hHeld ?_
            rotate_left
            · intro u hSw
              have q0 := C2 u hSw
              go_simp
              try with_reducible rfl
            try simp only [Act.put, List.setIfInBounds_toArray, List.set_cons_zero, List.set_cons_succ]
            refine wpAnyH_take (i := 15) (oi := { dst := some 61, op := Op.move (Operand.tmp 3), type := 25, pos := "ref.go:26", after := #[], guard := none }) (v := ?_) rfl (by kernel_rfl) (by kernel_rfl) (by kernel_rfl) (fun _ _ _ h => h) (Or.inl ⟨by rfl, ?_⟩) hHeld ?_
            rotate_left
            · intro u hSw
              go_simp
              try with_reducible rfl
            try simp only [Act.put, List.setIfInBounds_toArray, List.set_cons_zero, List.set_cons_succ]
            refine wpAnyH_take (i := 16) (oi := { dst := some 62, op := Op.move (Operand.tmp 16), type := 3, pos := "ref.go:26", after := #[], guard := none }) (v := ?_) rfl (by kernel_rfl) (by kernel_rfl) (by kernel_rfl) (fun _ _ _ h => h) (Or.inl ⟨by rfl, ?_⟩) hHeld ?_
            rotate_left
            · intro u hSw
              go_simp
              try with_reducible rfl
            try simp only [Act.put, List.setIfInBounds_toArray, List.set_cons_zero, List.set_cons_succ]
            refine wpAnyH_take (i := 17) (oi := { dst := some 63, op := Op.binOp BinOp.mul 3 (Operand.const (Value.int IntKind.i64 2)) (Operand.tmp 62) 3, type := 3, pos := "ref.go:26", after := #[{ on := 16, ground := Ground.data }], guard := none }) (v := ?_) rfl (by kernel_rfl) (by kernel_rfl) (by kernel_rfl) (fun _ _ _ h => h) (Or.inl ⟨by rfl, ?_⟩) hHeld ?_
            rotate_left
            · intro u hSw
              go_simp
              try with_reducible rfl
            try simp only [Act.put, List.setIfInBounds_toArray, List.set_cons_zero, List.set_cons_succ]
            refine wpAnyH_take (i := 18) (oi := { dst := some 64, op := Op.move (Operand.tmp 13), type := 3, pos := "ref.go:26", after := #[], guard := none }) (v := ?_) rfl (by kernel_rfl) (by kernel_rfl) (by kernel_rfl) (fun _ _ _ h => h) (Or.inl ⟨by rfl, ?_⟩) hHeld ?_
            rotate_left
            · intro u hSw
              go_simp
              try with_reducible rfl
            try simp only [Act.put, List.setIfInBounds_toArray, List.set_cons_zero, List.set_cons_succ]
            refine wpAnyH_take (i := 19) (oi := { dst := some 65, op := Op.binOp BinOp.add 3 (Operand.tmp 63) (Operand.tmp 64) 3, type := 3, pos := "ref.go:26", after := #[{ on := 17, ground := Ground.data }, { on := 18, ground := Ground.data }], guard := none }) (v := ?_) rfl (by kernel_rfl) (by kernel_rfl) (by kernel_rfl) (fun _ _ _ h => h) (Or.inl ⟨by rfl, ?_⟩) hHeld ?_
            rotate_left
            · intro u hSw
              go_simp
              try with_reducible rfl
            try simp only [Act.put, List.setIfInBounds_toArray, List.set_cons_zero, List.set_cons_succ]
            refine wpAnyH_take (i := 20) (oi := { dst := some 66, op := Op.indexAddr 25 (Operand.tmp 61) (Operand.tmp 65), type := 0, pos := "ref.go:26", after := #[{ on := 15, ground := Ground.data }, { on := 19, ground := Ground.data }], guard := none }) (v := ?_) rfl (by kernel_rfl) (by kernel_rfl) (by kernel_rfl) (fun _ _ _ h => h) (Or.inl ⟨by rfl, ?_⟩) hHeld ?_
            rotate_left
            · intro u hSw
              go_simp
              try with_reducible rfl
            try simp only [Act.put, List.setIfInBounds_toArray, List.set_cons_zero, List.set_cons_succ]
            refine wpAnyH_take (i := 21) (oi := { dst := some 67, op := Op.load 22 (Operand.tmp 66), type := 22, pos := "ref.go:26", after := #[{ on := 20, ground := Ground.data }], guard := none }) (v := ?_) rfl (by kernel_rfl) (by kernel_rfl) (by kernel_rfl) (fun _ _ _ h => h) (Or.inl ⟨by rfl, ?_⟩) hHeld ?_
            rotate_left
            · intro u hSw
              have q0 := C3 u hSw
              go_simp
              try with_reducible rfl
            try simp only [Act.put, List.setIfInBounds_toArray, List.set_cons_zero, List.set_cons_succ]
            refine wpAnyH_take (i := 22) (oi := { dst := some 68, op := Op.move (Operand.tmp 15), type := 3, pos := "ref.go:26", after := #[], guard := none }) (v := ?_) rfl (by kernel_rfl) (by kernel_rfl) (by kernel_rfl) (fun _ _ _ h => h) (Or.inl ⟨by rfl, ?_⟩) hHeld ?_
            rotate_left
            · intro u hSw
              go_simp
              try with_reducible rfl
            try simp only [Act.put, List.setIfInBounds_toArray, List.set_cons_zero, List.set_cons_succ]
            refine wpAnyH_take (i := 23) (oi := { dst := some 69, op := Op.indexAddr 22 (Operand.tmp 67) (Operand.tmp 68), type := 0, pos := "ref.go:26", after := #[{ on := 21, ground := Ground.data }, { on := 22, ground := Ground.data }], guard := none }) (v := ?_) rfl (by kernel_rfl) (by kernel_rfl) (by kernel_rfl) (fun _ _ _ h => h) (Or.inl ⟨by rfl, ?_⟩) hHeld ?_
            rotate_left
            · intro u hSw
              go_simp
              try with_reducible rfl
            try simp only [Act.put, List.setIfInBounds_toArray, List.set_cons_zero, List.set_cons_succ]
            refine wpAnyH_take (i := 24) (oi := { dst := some 70, op := Op.load 5 (Operand.tmp 69), type := 5, pos := "ref.go:26", after := #[{ on := 23, ground := Ground.data }], guard := none }) (v := ?_) rfl (by kernel_rfl) (by kernel_rfl) (by kernel_rfl) (fun _ _ _ h => h) (Or.inl ⟨by rfl, ?_⟩) hHeld ?_
            rotate_left
            · intro u hSw
              have q0 := C4 u hSw
              go_simp
              try with_reducible rfl
            try simp only [Act.put, List.setIfInBounds_toArray, List.set_cons_zero, List.set_cons_succ]
            refine wpAnyH_ready (rs := [3, 25]) (by kernel_rfl) (by simp) ?_
            refine (AllReadyH.cons (o := { dst := some 49, op := Op.load 5 (Operand.tmp 48), type := 5, pos := "ref.go:26", after := #[{ on := 2, ground := Ground.data }], guard := none }) rfl (fun K hK => ?_) (AllReadyH.cons (o := { dst := some 71, op := Op.call { callee := Callee.value (Operand.func 44), args := #[Operand.tmp 60, Operand.tmp 70], argTypes := #[5, 5] }, type := 5, pos := "ref.go:26", after := #[{ on := 14, ground := Ground.data }, { on := 24, ground := Ground.data }], guard := none }) rfl (fun K hK => ?_) AllReadyH.nil))
            · go_simp
              refine hK.out _ _ ?_ (fun hHeld => ?_)
              · exact hS0
              clear hK K
              try simp only [Act.put, List.setIfInBounds_toArray, List.set_cons_zero, List.set_cons_succ]
              refine wpAnyH_ready (rs := [25]) (by kernel_rfl) (by simp) ?_
              refine (AllReadyH.cons (o := { dst := some 71, op := Op.call { callee := Callee.value (Operand.func 44), args := #[Operand.tmp 60, Operand.tmp 70], argTypes := #[5, 5] }, type := 5, pos := "ref.go:26", after := #[{ on := 14, ground := Ground.data }, { on := 24, ground := Ground.data }], guard := none }) rfl (fun K hK => ?_) AllReadyH.nil)
              go_simp
              refine Calls.mono (rmul_F (cyN (k + i) j) (bytesD L v b) _) ?_
              rintro e wi ⟨rfl, rfl⟩
              go_wp2_with fail
              refine hK.out _ _ ?_ (fun hHeld => ?_)
              · exact hS0
              clear hK K
              try simp only [Act.put, List.setIfInBounds_toArray, List.set_cons_zero, List.set_cons_succ]
              refine wpAnyH_take (i := 26) (oi := { dst := some 72, op := Op.binOp BinOp.xor 5 (Operand.tmp 49) (Operand.tmp 71) 5, type := 5, pos := "ref.go:26", after := #[{ on := 3, ground := Ground.data }, { on := 25, ground := Ground.data }], guard := none }) (v := ?_) rfl (by kernel_rfl) (by kernel_rfl) (by kernel_rfl) (fun _ _ _ h => h) (Or.inl ⟨by rfl, ?_⟩) hHeld ?_
              rotate_left
              · intro u hSw
                go_simp
                try with_reducible rfl
              try simp only [Act.put, List.setIfInBounds_toArray, List.set_cons_zero, List.set_cons_succ]
              refine wpAnyH_take (i := 27) (oi := { dst := some 73, op := Op.indexAddr 22 (Operand.tmp 46) (Operand.tmp 47), type := 0, pos := "ref.go:26", after := #[{ on := 0, ground := Ground.data }, { on := 1, ground := Ground.data }, { on := 0, ground := Ground.phase }, { on := 1, ground := Ground.phase }, { on := 2, ground := Ground.phase }, { on := 3, ground := Ground.phase }, { on := 4, ground := Ground.phase }, { on := 5, ground := Ground.phase }, { on := 6, ground := Ground.phase }, { on := 7, ground := Ground.phase }, { on := 8, ground := Ground.phase }, { on := 9, ground := Ground.phase }, { on := 10, ground := Ground.phase }, { on := 11, ground := Ground.phase }, { on := 12, ground := Ground.phase }, { on := 13, ground := Ground.phase }, { on := 14, ground := Ground.phase }, { on := 15, ground := Ground.phase }, { on := 16, ground := Ground.phase }, { on := 17, ground := Ground.phase }, { on := 18, ground := Ground.phase }, { on := 19, ground := Ground.phase }, { on := 20, ground := Ground.phase }, { on := 21, ground := Ground.phase }, { on := 22, ground := Ground.phase }, { on := 23, ground := Ground.phase }, { on := 24, ground := Ground.phase }, { on := 25, ground := Ground.phase }, { on := 26, ground := Ground.phase }], guard := none }) (v := ?_) rfl (by kernel_rfl) (by kernel_rfl) (by kernel_rfl) (fun _ _ _ h => h) (Or.inl ⟨by rfl, ?_⟩) hHeld ?_
              rotate_left
              · intro u hSw
                go_simp
                try with_reducible rfl
              try simp only [Act.put, List.setIfInBounds_toArray, List.set_cons_zero, List.set_cons_succ]
              refine wpAnyH_ready (rs := [28]) (by kernel_rfl) (by simp) ?_
              refine (AllReadyH.cons (o := { dst := none, op := Op.store 5 (Operand.tmp 73) (Operand.tmp 72), type := 0, pos := "ref.go:26", after := #[{ on := 27, ground := Ground.data }, { on := 26, ground := Ground.data }, { on := 25, ground := Ground.chain }, { on := 0, ground := Ground.phase }, { on := 1, ground := Ground.phase }, { on := 2, ground := Ground.phase }, { on := 3, ground := Ground.phase }, { on := 4, ground := Ground.phase }, { on := 5, ground := Ground.phase }, { on := 6, ground := Ground.phase }, { on := 7, ground := Ground.phase }, { on := 8, ground := Ground.phase }, { on := 9, ground := Ground.phase }, { on := 10, ground := Ground.phase }, { on := 11, ground := Ground.phase }, { on := 12, ground := Ground.phase }, { on := 13, ground := Ground.phase }, { on := 14, ground := Ground.phase }, { on := 15, ground := Ground.phase }, { on := 16, ground := Ground.phase }, { on := 17, ground := Ground.phase }, { on := 18, ground := Ground.phase }, { on := 19, ground := Ground.phase }, { on := 20, ground := Ground.phase }, { on := 21, ground := Ground.phase }, { on := 22, ground := Ground.phase }, { on := 23, ground := Ground.phase }, { on := 24, ground := Ground.phase }, { on := 25, ground := Ground.phase }, { on := 26, ground := Ground.phase }], guard := none }) rfl (fun K hK => ?_) AllReadyH.nil)
              go_simp
              refine hK.out _ _ ?_ (fun hHeld => ?_)
              · exact grownBy_setCell hS0 _
              clear hK K
              try simp only [Act.put, List.setIfInBounds_toArray, List.set_cons_zero, List.set_cons_succ]
              refine wpAnyH_done (by kernel_rfl) ?_ _
              refine NoPanic.normal ?_
              go_wp2
              go_meet
              exact ⟨grownBy_setCell hS0 _, HT.out⟩
            · go_simp
              refine Calls.mono (rmul_F (cyN (k + i) j) (bytesD L v b) _) ?_
              rintro e wi ⟨rfl, rfl⟩
              go_wp2_with fail
              refine hK.out _ _ ?_ (fun hHeld => ?_)
              · exact hS0
              clear hK K
              try simp only [Act.put, List.setIfInBounds_toArray, List.set_cons_zero, List.set_cons_succ]
              refine wpAnyH_ready (rs := [3]) (by kernel_rfl) (by simp) ?_
              refine (AllReadyH.cons (o := { dst := some 49, op := Op.load 5 (Operand.tmp 48), type := 5, pos := "ref.go:26", after := #[{ on := 2, ground := Ground.data }], guard := none }) rfl (fun K hK => ?_) AllReadyH.nil)
              go_simp
              refine hK.out _ _ ?_ (fun hHeld => ?_)
              · exact hS0
              clear hK K
              try simp only [Act.put, List.setIfInBounds_toArray, List.set_cons_zero, List.set_cons_succ]
              refine wpAnyH_take (i := 26) (oi := { dst := some 72, op := Op.binOp BinOp.xor 5 (Operand.tmp 49) (Operand.tmp 71) 5, type := 5, pos := "ref.go:26", after := #[{ on := 3, ground := Ground.data }, { on := 25, ground := Ground.data }], guard := none }) (v := ?_) rfl (by kernel_rfl) (by kernel_rfl) (by kernel_rfl) (fun _ _ _ h => h) (Or.inl ⟨by rfl, ?_⟩) hHeld ?_
              rotate_left
              · intro u hSw
                go_simp
                try with_reducible rfl
              try simp only [Act.put, List.setIfInBounds_toArray, List.set_cons_zero, List.set_cons_succ]
              refine wpAnyH_take (i := 27) (oi := { dst := some 73, op := Op.indexAddr 22 (Operand.tmp 46) (Operand.tmp 47), type := 0, pos := "ref.go:26", after := #[{ on := 0, ground := Ground.data }, { on := 1, ground := Ground.data }, { on := 0, ground := Ground.phase }, { on := 1, ground := Ground.phase }, { on := 2, ground := Ground.phase }, { on := 3, ground := Ground.phase }, { on := 4, ground := Ground.phase }, { on := 5, ground := Ground.phase }, { on := 6, ground := Ground.phase }, { on := 7, ground := Ground.phase }, { on := 8, ground := Ground.phase }, { on := 9, ground := Ground.phase }, { on := 10, ground := Ground.phase }, { on := 11, ground := Ground.phase }, { on := 12, ground := Ground.phase }, { on := 13, ground := Ground.phase }, { on := 14, ground := Ground.phase }, { on := 15, ground := Ground.phase }, { on := 16, ground := Ground.phase }, { on := 17, ground := Ground.phase }, { on := 18, ground := Ground.phase }, { on := 19, ground := Ground.phase }, { on := 20, ground := Ground.phase }, { on := 21, ground := Ground.phase }, { on := 22, ground := Ground.phase }, { on := 23, ground := Ground.phase }, { on := 24, ground := Ground.phase }, { on := 25, ground := Ground.phase }, { on := 26, ground := Ground.phase }], guard := none }) (v := ?_) rfl (by kernel_rfl) (by kernel_rfl) (by kernel_rfl) (fun _ _ _ h => h) (Or.inl ⟨by rfl, ?_⟩) hHeld ?_
              rotate_left
              · intro u hSw
                go_simp
                try with_reducible rfl
              try simp only [Act.put, List.setIfInBounds_toArray, List.set_cons_zero, List.set_cons_succ]
              refine wpAnyH_ready (rs := [28]) (by kernel_rfl) (by simp) ?_
              refine (AllReadyH.cons (o := { dst := none, op := Op.store 5 (Operand.tmp 73) (Operand.tmp 72), type := 0, pos := "ref.go:26", after := #[{ on := 27, ground := Ground.data }, { on := 26, ground := Ground.data }, { on := 25, ground := Ground.chain }, { on := 0, ground := Ground.phase }, { on := 1, ground := Ground.phase }, { on := 2, ground := Ground.phase }, { on := 3, ground := Ground.phase }, { on := 4, ground := Ground.phase }, { on := 5, ground := Ground.phase }, { on := 6, ground := Ground.phase }, { on := 7, ground := Ground.phase }, { on := 8, ground := Ground.phase }, { on := 9, ground := Ground.phase }, { on := 10, ground := Ground.phase }, { on := 11, ground := Ground.phase }, { on := 12, ground := Ground.phase }, { on := 13, ground := Ground.phase }, { on := 14, ground := Ground.phase }, { on := 15, ground := Ground.phase }, { on := 16, ground := Ground.phase }, { on := 17, ground := Ground.phase }, { on := 18, ground := Ground.phase }, { on := 19, ground := Ground.phase }, { on := 20, ground := Ground.phase }, { on := 21, ground := Ground.phase }, { on := 22, ground := Ground.phase }, { on := 23, ground := Ground.phase }, { on := 24, ground := Ground.phase }, { on := 25, ground := Ground.phase }, { on := 26, ground := Ground.phase }], guard := none }) rfl (fun K hK => ?_) AllReadyH.nil)
              go_simp
              refine hK.out _ _ ?_ (fun hHeld => ?_)
              · exact grownBy_setCell hS0 _
              clear hK K
              try simp only [Act.put, List.setIfInBounds_toArray, List.set_cons_zero, List.set_cons_succ]
              refine wpAnyH_done (by kernel_rfl) ?_ _
              refine NoPanic.normal ?_
              go_wp2
              go_meet
              exact ⟨grownBy_setCell hS0 _, HT.out⟩
          case rest =>
          obtain ⟨hc1, hc2⟩ := hcut
          generalize wc = wa at *
          have HGA : Hid _ := hc1
          have HSA : Hid _ := hc2
          have hBA : Below w.heap.size w wa := below_grown (by rw [HG0.out]; exact B4.out) hc1 (by rw [HG0.out]; exact Nat.le_refl _)
          have HBA : Hid _ := hBA
          obtain ⟨m1, hm1⟩ : ∃ m1, m1 = gm (cyN (k + i) j) (bytesD L v b) := ⟨_, rfl⟩
          rw [← hm1] at HSA
          have HM1 : Hid _ := hm1
          clear hc1 hc2 hBA hm1 c0 d0 ex hS0 HT C1 C2 C3 C4 t2 t3 t4 w2' w3 w4 w5
          go_upto_region 14 with fail
          go_cut [85] (fun s wx => (s = .bool true ∧ (p = 1 ∧ car j = i) ∨ s = .bool false ∧ ¬ (p = 1 ∧ car j = i)) ∧ wa = wx)
          case first =>
            as_aux_lemma =>
            by_cases hp1 : p = 1
            · have hp1' : ((p : Int) == 1) = true := by rw [hp1]; rfl
              go_wp2_with fail
              refine Calls.mono (HC7.out _ j (by omega)) ?_
              rintro e wi ⟨rfl, rfl⟩
              by_cases hci : car j = i
              · have hci' : ((car j : Int) == (i : Int)) = true := by simp [hci]
                have HCI : Hid (p = 1 ∧ car j = i) := ⟨hp1, hci⟩
                clear hci hp1
                go_wp2
                go_meet
                exact ⟨.inl ⟨rfl, HCI.out⟩, rfl⟩
              · have hci' : ((car j : Int) == (i : Int)) = false := by
                  simp only [beq_eq_false_iff_ne, ne_eq]; omega
                have HCI : Hid (¬ (p = 1 ∧ car j = i)) := fun h => hci h.2
                clear hci hp1
                go_wp2
                go_meet
                exact ⟨.inr ⟨rfl, HCI.out⟩, rfl⟩
            · have hp1' : ((p : Int) == 1) = false := by
                simp only [beq_eq_false_iff_ne, ne_eq]; omega
              have HCI : Hid (¬ (p = 1 ∧ car j = i)) := fun h => hp1 h.1
              clear hp1
              go_wp2
              go_meet
              exact ⟨.inr ⟨rfl, HCI.out⟩, rfl⟩
          case rest =>
          obtain ⟨hcc, rfl⟩ := hcut
          have HCC : Hid _ := hcc
          clear hcc
          rcases HCC.out with ⟨rfl, hpc⟩ | ⟨rfl, hpc⟩
          rotate_left
          · have hst := parS_step (k := k) (i := i) (p := p) (b := b) (j := j) (car := car) (D := bytesD L) (s := sj)
            rw [if_neg hpc, F.add_zero, ← HV.out, ← HM1.out, HSJ.out] at hst
            rw [HSJ.out, hst] at HSA
            clear hpc t1 w1 hst
            go_wp2
            exact ⟨⟨j + 1, by omega, by go_num, HGA.out, HSA.out⟩, by simp [intOf]; omega⟩
          have hst := parS_step (k := k) (i := i) (p := p) (b := b) (j := j) (car := car) (D := bytesD L) (s := sj)
          rw [if_pos hpc, ← HV.out, ← HM1.out] at hst
          clear hpc
          have hBw : ∀ u, wa.grownBy u (some g0) → Below w.heap.size w u := fun u hu => below_grown HBA.out hu (by rw [HG0.out]; exact Nat.le_refl _)
          obtain ⟨v2, hv2⟩ : ∃ v2, v2 = 2 * j := ⟨_, rfl⟩
          have hvl2 : v2 < L.length := by rw [← HLL.out]; omega
          obtain ⟨bL2, off2, ebl, hbL2, hcl2⟩ := rows8_at HR.out hvl2
          cases ebl
          obtain ⟨ys, hys⟩ : ∃ ys, L[v2]? = some ys := ⟨_, List.getElem?_eq_getElem hvl2⟩
          obtain ⟨a2, cap2, f1, f2⟩ := hcl2 v2 ys hys
          have hyl : ys.length = H := HL.out ys (List.mem_of_getElem? hys)
          obtain ⟨b2, o2, rfl, hb2, hf2⟩ := row8_cell f2 (show b < ys.length by rw [hyl]; exact hltb)
          have hDv2 : bytesD L v2 b = at8 ys b := by simp [bytesD, List.getD_eq_getElem?_getD, hys]
          have C5 : ∀ u, wa.grownBy u (some g0) → u.cell? ⟨bL, off + v2, none⟩ = some (.slice (some ⟨b2, o2, none⟩) H cap2) := fun u hu => by rw [← hyl]; exact cell_later (hBw u hu) f1
          have C6 : ∀ u, wa.grownBy u (some g0) → u.cell? ⟨b2, o2 + b, none⟩ = some (.int .u8 ((bytesD L v2 b).toNat : Int)) := fun u hu => by rw [hDv2]; exact cell_later (hBw u hu) (hf2 b (by rw [hyl]; exact hltb))
          have t4 : (2 : Int) * (j : Int) = (v2 : Int) := by omega
          have w5 : IntKind.i64.wrap (v2 : Int) = (v2 : Int) := by rw [IntKind.wrap_i64]; omega
          have hvl3 : v2 < l := by rw [HLL.out]; exact hvl2
          rw [← hv2] at hst
          have c0 : wa.drew.cell? ⟨g0, b, none⟩ = some (.int .u8 ((ga sj m1).toNat : Int)) := by
            rw [cellAt (w := wa.drew) HSA.out b _ (vfs_get _ _ (by rw [imP_len]; exact hltb)), imP_at hltb]
          have d0 : wa.drew.frozen? ⟨g0, b, none⟩ = false := frozen_of_row _ _ _ _ _ (show wa.drew.heap[g0]? = _ from HSA.out)
          have HT : Hid ((wa.drew.setCell ⟨g0, b, none⟩ (.int .u8 ((ga (ga sj m1) (bytesD L v2 b)).toNat : Int))).heap[g0]? = some (.cells (vfs (imP H f b (ga (ga sj m1) (bytesD L v2 b)))) 5 (0, 0))) := by
            show _ = _
            rw [heap_setCell_same _ _ _ _ _ _ (show wa.drew.heap[g0]? = _ from HSA.out), vfs_set, imP_set hltb]
          have ex := xor_val (ga sj m1) (bytesD L v2 b)
          have HG3 : Hid (W3.grownBy (wa.drew.setCell ⟨g0, b, none⟩ (.int .u8 ((ga (ga sj m1) (bytesD L v2 b)).toNat : Int))) (some g0)) := grownBy_trans HGA.out (grownBy_setCell (grownBy_drew (World.grownBy.refl _ _)) _) (fun _ _ h => h)
          have HT9 : Hid ((wa.drew.setCell ⟨g0, b, none⟩ (.int .u8 ((ga (ga sj m1) (bytesD L v2 b)).toNat : Int))).heap[g0]? = some (.cells (vfs (imP H f b (sumF (parS k i p car (bytesD L) b) (j + 1)))) 5 (0, 0))) := by
            show _ = _
            rw [HT.out, hst, HSJ.out]; rfl
          clear hst
          have hS0 : wa.grownBy wa.drew (some g0) := grownBy_drew (World.grownBy.refl _ _)
          clear hcl2 hys f1 f2 hf2 hDv2 hv2 hBw
          go_upto_region 15 with fail
          refine wp_region_noPanic ?_
          refine wp_region_held_drew (S := fun u => wa.grownBy u (some g0)) (by kernel_rfl) ?_ (fun hHeld => ?_)
          · exact hS0
          refine wpAnyH_take (i := 0) (oi := { dst := some 86, op := Op.move (Operand.tmp 11), type := 22, pos := "ref.go:28", after := #[], guard := none }) (v := ?_) rfl (by kernel_rfl) (by kernel_rfl) (by kernel_rfl) (fun _ _ _ h => h) (Or.inl ⟨by rfl, ?_⟩) hHeld ?_
          rotate_left
          · intro u hSw
            go_simp
            try with_reducible rfl
          try simp only [Act.put, List.setIfInBounds_toArray, List.set_cons_zero, List.set_cons_succ]
          refine wpAnyH_take (i := 1) (oi := { dst := some 87, op := Op.move (Operand.tmp 15), type := 3, pos := "ref.go:28", after := #[], guard := none }) (v := ?_) rfl (by kernel_rfl) (by kernel_rfl) (by kernel_rfl) (fun _ _ _ h => h) (Or.inl ⟨by rfl, ?_⟩) hHeld ?_
          rotate_left
          · intro u hSw
            go_simp
            try with_reducible rfl
          try simp only [Act.put, List.setIfInBounds_toArray, List.set_cons_zero, List.set_cons_succ]
          refine wpAnyH_take (i := 2) (oi := { dst := some 88, op := Op.indexAddr 22 (Operand.tmp 86) (Operand.tmp 87), type := 0, pos := "ref.go:28", after := #[{ on := 0, ground := Ground.data }, { on := 1, ground := Ground.data }], guard := none }) (v := ?_) rfl (by kernel_rfl) (by kernel_rfl) (by kernel_rfl) (fun _ _ _ h => h) (Or.inl ⟨by rfl, ?_⟩) hHeld ?_
          rotate_left
          · intro u hSw
            go_simp
            try with_reducible rfl
          try simp only [Act.put, List.setIfInBounds_toArray, List.set_cons_zero, List.set_cons_succ]
          refine wpAnyH_take (i := 4) (oi := { dst := some 90, op := Op.move (Operand.tmp 3), type := 25, pos := "ref.go:28", after := #[], guard := none }) (v := ?_) rfl (by kernel_rfl) (by kernel_rfl) (by kernel_rfl) (fun _ _ _ h => h) (Or.inl ⟨by rfl, ?_⟩) hHeld ?_
          rotate_left
          · intro u hSw
            go_simp
            try with_reducible rfl
          try simp only [Act.put, List.setIfInBounds_toArray, List.set_cons_zero, List.set_cons_succ]
          refine wpAnyH_take (i := 5) (oi := { dst := some 91, op := Op.move (Operand.tmp 16), type := 3, pos := "ref.go:28", after := #[], guard := none }) (v := ?_) rfl (by kernel_rfl) (by kernel_rfl) (by kernel_rfl) (fun _ _ _ h => h) (Or.inl ⟨by rfl, ?_⟩) hHeld ?_
          rotate_left
          · intro u hSw
            go_simp
            try with_reducible rfl
          try simp only [Act.put, List.setIfInBounds_toArray, List.set_cons_zero, List.set_cons_succ]
          refine wpAnyH_take (i := 6) (oi := { dst := some 92, op := Op.binOp BinOp.mul 3 (Operand.const (Value.int IntKind.i64 2)) (Operand.tmp 91) 3, type := 3, pos := "ref.go:28", after := #[{ on := 5, ground := Ground.data }], guard := none }) (v := ?_) rfl (by kernel_rfl) (by kernel_rfl) (by kernel_rfl) (fun _ _ _ h => h) (Or.inl ⟨by rfl, ?_⟩) hHeld ?_
          rotate_left
          · intro u hSw
            go_simp
            try with_reducible rfl
          try simp only [Act.put, List.setIfInBounds_toArray, List.set_cons_zero, List.set_cons_succ]
          refine wpAnyH_take (i := 7) (oi := { dst := some 93, op := Op.indexAddr 25 (Operand.tmp 90) (Operand.tmp 92), type := 0, pos := "ref.go:28", after := #[{ on := 4, ground := Ground.data }, { on := 6, ground := Ground.data }], guard := none }) (v := ?_) rfl (by kernel_rfl) (by kernel_rfl) (by kernel_rfl) (fun _ _ _ h => h) (Or.inl ⟨by rfl, ?_⟩) hHeld ?_
          rotate_left
          · intro u hSw
            go_simp
            try with_reducible rfl
          try simp only [Act.put, List.setIfInBounds_toArray, List.set_cons_zero, List.set_cons_succ]
          refine wpAnyH_take (i := 8) (oi := { dst := some 94, op := Op.load 22 (Operand.tmp 93), type := 22, pos := "ref.go:28", after := #[{ on := 7, ground := Ground.data }], guard := none }) (v := ?_) rfl (by kernel_rfl) (by kernel_rfl) (by kernel_rfl) (fun _ _ _ h => h) (Or.inl ⟨by rfl, ?_⟩) hHeld ?_
          rotate_left
          · intro u hSw
            have q0 := C5 u hSw
            go_simp
            try with_reducible rfl
          try simp only [Act.put, List.setIfInBounds_toArray, List.set_cons_zero, List.set_cons_succ]
          refine wpAnyH_take (i := 9) (oi := { dst := some 95, op := Op.move (Operand.tmp 15), type := 3, pos := "ref.go:28", after := #[], guard := none }) (v := ?_) rfl (by kernel_rfl) (by kernel_rfl) (by kernel_rfl) (fun _ _ _ h => h) (Or.inl ⟨by rfl, ?_⟩) hHeld ?_
          rotate_left
          · intro u hSw
            go_simp
            try with_reducible rfl
          try simp only [Act.put, List.setIfInBounds_toArray, List.set_cons_zero, List.set_cons_succ]
          refine wpAnyH_take (i := 10) (oi := { dst := some 96, op := Op.indexAddr 22 (Operand.tmp 94) (Operand.tmp 95), type := 0, pos := "ref.go:28", after := #[{ on := 8, ground := Ground.data }, { on := 9, ground := Ground.data }], guard := none }) (v := ?_) rfl (by kernel_rfl) (by kernel_rfl) (by kernel_rfl) (fun _ _ _ h => h) (Or.inl ⟨by rfl, ?_⟩) hHeld ?_
          rotate_left
          · intro u hSw
            go_simp
            try with_reducible rfl
          try simp only [Act.put, List.setIfInBounds_toArray, List.set_cons_zero, List.set_cons_succ]
          refine wpAnyH_take (i := 11) (oi := { dst := some 97, op := Op.load 5 (Operand.tmp 96), type := 5, pos := "ref.go:28", after := #[{ on := 10, ground := Ground.data }], guard := none }) (v := ?_) rfl (by kernel_rfl) (by kernel_rfl) (by kernel_rfl) (fun _ _ _ h => h) (Or.inl ⟨by rfl, ?_⟩) hHeld ?_
          rotate_left
          · intro u hSw
            have q0 := C6 u hSw
            go_simp
            try with_reducible rfl
          try simp only [Act.put, List.setIfInBounds_toArray, List.set_cons_zero, List.set_cons_succ]
          refine wpAnyH_ready (rs := [3]) (by kernel_rfl) (by simp) ?_
          refine (AllReadyH.cons (o := { dst := some 89, op := Op.load 5 (Operand.tmp 88), type := 5, pos := "ref.go:28", after := #[{ on := 2, ground := Ground.data }], guard := none }) rfl (fun K hK => ?_) AllReadyH.nil)
          go_simp
          refine hK.out _ _ ?_ (fun hHeld => ?_)
          · exact hS0
          clear hK K
          try simp only [Act.put, List.setIfInBounds_toArray, List.set_cons_zero, List.set_cons_succ]
          refine wpAnyH_take (i := 12) (oi := { dst := some 98, op := Op.binOp BinOp.xor 5 (Operand.tmp 89) (Operand.tmp 97) 5, type := 5, pos := "ref.go:28", after := #[{ on := 3, ground := Ground.data }, { on := 11, ground := Ground.data }], guard := none }) (v := ?_) rfl (by kernel_rfl) (by kernel_rfl) (by kernel_rfl) (fun _ _ _ h => h) (Or.inl ⟨by rfl, ?_⟩) hHeld ?_
          rotate_left
          · intro u hSw
            go_simp
            try with_reducible rfl
          try simp only [Act.put, List.setIfInBounds_toArray, List.set_cons_zero, List.set_cons_succ]
          refine wpAnyH_take (i := 13) (oi := { dst := some 99, op := Op.indexAddr 22 (Operand.tmp 86) (Operand.tmp 87), type := 0, pos := "ref.go:28", after := #[{ on := 0, ground := Ground.data }, { on := 1, ground := Ground.data }, { on := 0, ground := Ground.phase }, { on := 1, ground := Ground.phase }, { on := 2, ground := Ground.phase }, { on := 3, ground := Ground.phase }, { on := 4, ground := Ground.phase }, { on := 5, ground := Ground.phase }, { on := 6, ground := Ground.phase }, { on := 7, ground := Ground.phase }, { on := 8, ground := Ground.phase }, { on := 9, ground := Ground.phase }, { on := 10, ground := Ground.phase }, { on := 11, ground := Ground.phase }, { on := 12, ground := Ground.phase }], guard := none }) (v := ?_) rfl (by kernel_rfl) (by kernel_rfl) (by kernel_rfl) (fun _ _ _ h => h) (Or.inl ⟨by rfl, ?_⟩) hHeld ?_
          rotate_left
          · intro u hSw
            go_simp
            try with_reducible rfl
          try simp only [Act.put, List.setIfInBounds_toArray, List.set_cons_zero, List.set_cons_succ]
          refine wpAnyH_ready (rs := [14]) (by kernel_rfl) (by simp) ?_
          refine (AllReadyH.cons (o := { dst := none, op := Op.store 5 (Operand.tmp 99) (Operand.tmp 98), type := 0, pos := "ref.go:28", after := #[{ on := 13, ground := Ground.data }, { on := 12, ground := Ground.data }, { on := 0, ground := Ground.phase }, { on := 1, ground := Ground.phase }, { on := 2, ground := Ground.phase }, { on := 3, ground := Ground.phase }, { on := 4, ground := Ground.phase }, { on := 5, ground := Ground.phase }, { on := 6, ground := Ground.phase }, { on := 7, ground := Ground.phase }, { on := 8, ground := Ground.phase }, { on := 9, ground := Ground.phase }, { on := 10, ground := Ground.phase }, { on := 11, ground := Ground.phase }, { on := 12, ground := Ground.phase }], guard := none }) rfl (fun K hK => ?_) AllReadyH.nil)
          go_simp
          refine hK.out _ _ ?_ (fun hHeld => ?_)
          · exact grownBy_setCell hS0 _
          clear hK K
          try simp only [Act.put, List.setIfInBounds_toArray, List.set_cons_zero, List.set_cons_succ]
          refine wpAnyH_done (by kernel_rfl) ?_ _
          refine NoPanic.normal ?_
          go_wp2
          exact ⟨⟨j + 1, by omega, by go_num, HG3.out, HT9.out⟩, by simp [intOf]; omega⟩
        · obtain rfl : j = k := by omega
          have hfb : sumF (parS j i p car (bytesD L) b) j = f b := by rw [HF.out]
          rw [hfb, imP_next] at hs
          have HS3 : Hid _ := hs
          clear hgb hs hfb
          go_wp2
          exact ⟨⟨b + 1, by omega, by go_num, HG2.out, HS3.out⟩, by simp [intOf]; omega⟩
    · obtain rfl : b = H := by omega
      rw [imP_done] at HS
      go_wp2
      go_ret
      exact ⟨g0, rfl, by rw [HG0.out]; exact Nat.le_refl _, HS.out, below_grown (by rw [HG0.out]; exact B4.out) HG.out (by rw [HG0.out]; exact Nat.le_refl _)⟩
end Go.Proofs.YtmlpijlcpeoeaaaDoor
