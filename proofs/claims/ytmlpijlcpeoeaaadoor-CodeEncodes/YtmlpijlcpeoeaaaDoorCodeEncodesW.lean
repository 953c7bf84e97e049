/- The walk of CodeEncodes: at all numbers and lists of bytes. -/
import Derived.Test.YtmlpijlcpeoeaaaDoorBaseW
import Derived.Test.YtmlpijlcpeoeaaaDoorHolds
import Derived.Test.YtmlpijlcpeoeaaaDoorBaseL
import Derived.Test.YtmlpijlcpeoeaaaDoorMatV
import Derived.BigRegion
import Derived.Deep.DeepCutAuto
import Derived.Deep.RegionHeld3
import Derived.Test.YtmlpijlcpeoeaaaDoorBaseG
import Derived.Test.YtmlpijlcpeoeaaaDoorMatRow
import Derived.Test.YtmlpijlcpeoeaaaDoorShardsW
import Derived.Test.YtmlpijlcpeoeaaaDoorShardsS
import Derived.Lib.SlBytesConst
import Derived.Test.YtmlpijlcpeoeaaaDoorNumBytes
import Derived.Test.YtmlpijlcpeoeaaaDoorBaseR
import Derived.Test.YtmlpijlcpeoeaaaDoorRegHeld
import Derived.Test.YtmlpijlcpeoeaaaDoorMatTake
import Derived.Test.YtmlpijlcpeoeaaaDoorNumApart
import Derived.Laws.OwnMore
import Derived.Test.YtmlpijlcpeoeaaaDoorRef2
import Derived.Test.YtmlpijlcpeoeaaaDoorRefOf
import Derived.Lib.ItoaNum
import Derived.Lib.ItoaWalk
import Derived.Test.YtmlpijlcpeoeaaaDoorErrs
/- What the small functions of package half answer: there, placeOf, number, find, carrier, carrying, Of, Split, Carrier; and the document's own Carrier; nothing that was there turns. -/
namespace Go.Proofs.YtmlpijlcpeoeaaaDoor
open Go.RowKit Gf
set_option linter.unusedVariables false
set_option maxRecDepth 20000
theorem hthere_any (x n : Int) (w : World) : Calls Tryd.prog 47 #[.int .i64 x, .int .i64 n] w fun e w' => e = .returned (.bool (thB x n)) ∧ w = w' := by
  by_cases h0 : 0 ≤ x
  · by_cases h1 : x < n
    · go_enter Tryd.func47, Tryd.ntmps47
      go_wp2
      go_ret
      exact ⟨by rw [thB_true h0 h1]; rfl, rfl⟩
    · go_enter Tryd.func47, Tryd.ntmps47
      go_wp2
      go_ret
      exact ⟨by rw [thB_false (by omega)]; rfl, rfl⟩
  · go_enter Tryd.func47, Tryd.ntmps47
    go_wp2
    go_ret
    exact ⟨by rw [thB_false (by omega)]; rfl, rfl⟩
theorem hthere_yes (x n : Int) (w : World) (h0 : 0 ≤ x) (h1 : x < n) : Calls Tryd.prog 47 #[.int .i64 x, .int .i64 n] w fun e w' => e = .returned (.bool true) ∧ w = w' :=
  (hthere_any x n w).mono fun e w' ⟨a, b⟩ => ⟨by rw [a, thB_true h0 h1], b⟩
theorem hthere_no (x n : Int) (w : World) (h : ¬ (0 ≤ x ∧ x < n)) : Calls Tryd.prog 47 #[.int .i64 x, .int .i64 n] w fun e w' => e = .returned (.bool false) ∧ w = w' :=
  (hthere_any x n w).mono fun e w' ⟨a, b⟩ => ⟨by rw [a, thB_false h], b⟩
theorem placeOf_F (h s p : Nat) (w : World) (hh : h = 2 * s + p) (hp : p < 2) (hs : s ≤ 1000) : Calls Tryd.prog 50 #[.int .i64 h] w fun e w' => e = .returned (.agg #[.int .i64 s, .int .i64 p]) ∧ Below w.heap.size w w' := by
  have e1 : Hid ((h : Int) / 2 = s) := by show _ = _; omega
  have e2 : Hid ((h : Int) % 2 = p) := by show _ = _; omega
  have e3 : h ≤ 4000 := by omega
  clear hh hp hs
  go_enter Tryd.func50, Tryd.ntmps50
  go_wp2
  rw [e1.out, e2.out]
  refine bodyPost_ret (v := .agg #[.int .i64 s, .int .i64 p]) (by simp [results, Tryd.results50, go_sem]) rfl ⟨rfl, ?_⟩
  exact (Below.refl w.heap.size w).alloc (Nat.le_refl _) _
theorem number_F (s p : Nat) (w : World) (hs : s ≤ 1000) (hp : p ≤ 1000) : Calls Tryd.prog 81 #[.agg #[.int .i64 s, .int .i64 p]] w fun e w' => e = .returned (.int .i64 (2 * s + p : Nat)) ∧ Below w.heap.size w w' := by
  go_enter Tryd.func81, Tryd.ntmps81
  go_wp2
  go_ret
  exact ⟨by go_num, (Below.refl w.heap.size w).alloc (Nat.le_refl _) _⟩
/-- the parity that carries a data shard -/
def carN (g j : Nat) : Nat := j / g + 1
theorem carN_le {g j : Nat} : carN g j ≤ j + 1 := by
  have := Nat.div_le_self j g
  simp only [carN]; omega
theorem carrier_F (g j : Nat) (w : World) (hg : 1 ≤ g) (hg2 : g ≤ 1000) (hj : j ≤ 1000) : Calls Tryd.prog 48 #[.int .i64 g, .int .i64 j] w fun e w' => e = .returned (.int .i64 (carN g j)) ∧ w = w' := by
  have e1 : (j : Int) / g = (j / g : Nat) := by simp
  have e2 : j / g ≤ 1000 := Nat.le_trans (Nat.div_le_self _ _) hj
  generalize hq : j / g = q at e1 e2
  have E : Hid _ := e1
  have b0 : 0 ≤ (j : Int) / g := by omega
  have b1 : (j : Int) / g ≤ 1000 := by omega
  have hc : carN g j = q + 1 := by rw [carN, hq]
  rw [hc]
  clear hc e1 hq
  go_enter Tryd.func48, Tryd.ntmps48
  go_wp2
  rw [E.out]
  go_ret
  exact ⟨by go_num, rfl⟩
theorem rcarrier_F (k r j : Nat) (w : World) (h1 : 1 ≤ k) (h2 : 2 ≤ r) (h3 : k + r ≤ 16) (hj : j ≤ 1000) :
    Calls Tryd.prog 45 #[.int .i64 k, .int .i64 r, .int .i64 j] w fun e w' => e = .returned (.int .i64 (carN (groupN k r) j)) ∧ w = w' := by
  obtain ⟨g1, _, _, g2⟩ := groupN_least h1 h2 h3
  have HF : Hid _ := fun w => rgroup_F k r w h1 h2 h3
  generalize groupN k r = g at *
  have e1 : (j : Int) / g = (j / g : Nat) := by simp
  have e2 : j / g ≤ 1000 := Nat.le_trans (Nat.div_le_self _ _) hj
  generalize hq : j / g = q at e1 e2
  have E : Hid _ := e1
  have b0 : 0 ≤ (j : Int) / g := by omega
  have b1 : (j : Int) / g ≤ 1000 := by omega
  have hc : carN g j = q + 1 := by rw [carN, hq]
  rw [hc]
  clear hc e1 hq
  go_enter Tryd.func45, Tryd.ntmps45
  go_wp2_with fail
  refine Calls.mono (HF.out _) ?_
  rintro e w' ⟨rfl, rfl⟩
  go_wp2
  rw [E.out]
  go_ret
  exact ⟨by go_num, rfl⟩
theorem carrying_F (k g j : Nat) (w : World) (hk : k ≤ 1000) (hg : 1 ≤ g) (hg2 : g ≤ 1000) (hj : j ≤ 1000) : Calls Tryd.prog 78 #[.int .i64 k, .int .i64 g, .int .i64 j] w fun e w' => e = .returned (.agg #[.int .i64 (k + carN g j : Nat), .int .i64 1]) ∧ Below w.heap.size w w' := by
  have hc : carN g j ≤ 2000 := Nat.le_trans carN_le (by omega)
  have HF : Hid _ := fun w => carrier_F g j w hg hg2 hj
  generalize carN g j = c at *
  go_enter Tryd.func78, Tryd.ntmps78
  go_wp2_with fail
  refine Calls.mono (HF.out _) ?_
  rintro e w' ⟨rfl, rfl⟩
  go_wp2
  refine bodyPost_ret (v := .agg #[.int .i64 (k + c : Nat), .int .i64 1]) (by simp [results, Tryd.results78, go_sem]) rfl ⟨rfl, ?_⟩
  exact (Below.refl w.heap.size w).alloc (Nat.le_refl _) _
end Go.Proofs.YtmlpijlcpeoeaaaDoor

/- What find, Of, Split and Carrier of package half answer, at all numbers; nothing that was there turns. -/
namespace Go.Proofs.YtmlpijlcpeoeaaaDoor
open Go.RowKit Gf
set_option linter.unusedVariables false
set_option maxRecDepth 20000
theorem hof_ok (k r s p : Nat) (w : World) (h1 : 1 ≤ k) (h2 : 2 ≤ r) (h3 : k + r ≤ 16) (hs : s < k + r) (hp : p < 2) :
    Calls Tryd.prog 57 #[.int .i64 k, .int .i64 r, .int .i64 s, .int .i64 p] w fun e w' => e = .returned (.tuple #[.int .i64 (2 * s + p : Nat), .nilIface]) ∧ Below w.heap.size w w' := by
  have HS : Hid ((s : Int) < (k : Int) + r) := by show _ < _; omega
  have HP : Hid ((p : Int) < 2) := by show _ < _; omega
  have s1 : s ≤ 16 := by omega
  have p1 : p ≤ 1 := by omega
  clear hs hp
  go_enter Tryd.func57, Tryd.ntmps57
  go_wp2_with fail
  refine (bcheck_ok _ _ _ h1 h2 h3).mono ?_
  rintro e w' ⟨rfl, rfl⟩
  go_wp2_with fail
  refine (hthere_yes _ _ _ (by omega) HS.out).mono ?_
  rintro e w' ⟨rfl, rfl⟩
  go_wp2_with fail
  refine (hthere_yes _ _ _ (by omega) HP.out).mono ?_
  rintro e w' ⟨rfl, rfl⟩
  go_wp2_with fail
  refine (number_F s p _ (by omega) (by omega)).mono ?_
  rintro e w2 ⟨rfl, hb⟩
  have HB : Hid _ := hb
  clear hb
  go_wp2
  go_ret2
  exact ⟨rfl, HB.out⟩
theorem hof_bad (k r x y : Int) (w : World) (s : Addr) (hs : w.cell? ⟨0, 0, none⟩ = some (errAt s)) (hk0 : -9223372036854775808 ≤ k) (hk1 : k ≤ 9223372036854775807) (hr0 : -9223372036854775808 ≤ r) (hr1 : r ≤ 9223372036854775807) (hL : ¬ LegalP k r) :
    Calls Tryd.prog 57 #[.int .i64 k, .int .i64 r, .int .i64 x, .int .i64 y] w fun e w' => e = .returned (.tuple #[.int .i64 0, errAt s]) ∧ w = w' := by
  have HS : Hid _ := hs
  have H : Hid _ := hL
  clear hs hL
  go_enter Tryd.func57, Tryd.ntmps57
  go_wp2_with fail
  refine (bcheck_bad k r _ s HS.out hk0 hk1 hr0 hr1 H.out).mono ?_
  unfold errAt
  rintro e w' ⟨rfl, rfl⟩
  go_wp2
  go_ret2
  exact ⟨rfl, rfl⟩
theorem hof_no (k r : Nat) (x y : Int) (w : World) (s : Addr) (hs : w.cell? ⟨4, 0, none⟩ = some (errAt s)) (h1 : 1 ≤ k) (h2 : 2 ≤ r) (h3 : k + r ≤ 16) (hx : ¬ ((0 ≤ x ∧ x < k + r) ∧ 0 ≤ y ∧ y < 2)) :
    Calls Tryd.prog 57 #[.int .i64 k, .int .i64 r, .int .i64 x, .int .i64 y] w fun e w' => e = .returned (.tuple #[.int .i64 0, errAt s]) ∧ Below w.heap.size w w' := by
  have hlt := World.block_lt_of_cell? w _ hs
  simp at hlt
  have HX : Hid _ := hx
  unfold errAt at *
  clear hx
  by_cases hx : 0 ≤ x ∧ x < k + r
  · have hy : ¬ (0 ≤ y ∧ y < 2) := fun h => HX.out ⟨hx, h⟩
    obtain ⟨x0, x1⟩ := hx
    have HS : Hid _ := x1
    have HY : Hid _ := hy
    clear HX hy x1
    go_enter Tryd.func57, Tryd.ntmps57
    go_wp2_with fail
    refine (bcheck_ok _ _ _ h1 h2 h3).mono ?_
    rintro e w' ⟨rfl, rfl⟩
    go_wp2_with fail
    refine (hthere_yes _ _ _ x0 HS.out).mono ?_
    rintro e w' ⟨rfl, rfl⟩
    go_wp2_with fail
    refine (hthere_no _ _ _ HY.out).mono ?_
    rintro e w' ⟨rfl, rfl⟩
    go_wp2
    go_region
    go_wp2
    go_ret2
    exact ⟨rfl, (Below.refl _ _).drew⟩
  · have HY : Hid _ := hx
    clear HX hx
    go_enter Tryd.func57, Tryd.ntmps57
    go_wp2_with fail
    refine (bcheck_ok _ _ _ h1 h2 h3).mono ?_
    rintro e w' ⟨rfl, rfl⟩
    go_wp2_with fail
    refine (hthere_no _ _ _ HY.out).mono ?_
    rintro e w' ⟨rfl, rfl⟩
    go_wp2
    go_region
    go_wp2
    go_ret2
    exact ⟨rfl, (Below.refl _ _).drew⟩
end Go.Proofs.YtmlpijlcpeoeaaaDoor

/- The rows of halves: each half as a combination of the data halves; the rows of any k shards have full rank; no program is spoken of. -/
namespace Go.Proofs.YtmlpijlcpeoeaaaDoor
open Go.RowKit Gf
set_option linter.unusedVariables false
set_option maxRecDepth 20000
/-- the row of half h, where data shard j is carried by parity car j -/
def halfF (k : Nat) (car : Nat → Nat) : Mt := fun h j =>
  if j % 2 = h % 2 then genF k (h / 2) (j / 2) else if h % 2 = 1 ∧ k ≤ h / 2 ∧ car (j / 2) = h / 2 - k then 1 else 0
theorem sumF_two (f : Nat → F) : ∀ k, sumF f (2 * k) = sumF (fun j => ga (f (2 * j)) (f (2 * j + 1))) k
  | 0 => rfl
  | k + 1 => by
    rw [show 2 * (k + 1) = 2 * k + 1 + 1 by omega]
    simp only [sumF]
    rw [sumF_two f k, F.add_assoc]
theorem gen_any {S : List Nat} {k n : Nat} (hS : S.Nodup) (hl : S.length = k) (hn : ∀ x ∈ S, x < n) (hb : n ≤ 256) (v : Nat → F) (hv : ∀ s ∈ S, sumF (fun j => gm (genF k s j) (v j)) k = 0) : ∀ j, j < k → v j = 0 := by
  have hp : ((List.range n).filter (fun x => decide (x ∈ S))).Perm S := by
    refine (List.perm_ext_iff_of_nodup (List.nodup_range.filter _) hS).2 fun x => ?_
    simp only [List.mem_filter, List.mem_range, decide_eq_true_eq]
    exact ⟨fun h => h.2, fun h => ⟨hn x h, h⟩⟩
  have hlen := hp.length_eq
  have hk : k ≤ n := by
    have := List.length_filter_le (fun x => decide (x ∈ S)) (List.range n)
    rw [List.length_range] at this
    omega
  refine rows_null (List.pairwise_lt_range.filter _) (hlen.trans hl) (fun x hx => hn x (hp.mem_iff.1 hx)) hb hk v fun i hi => ?_
  exact hv _ (hp.mem_iff.1 (getD_mem (by omega)))
theorem even_row {k s : Nat} {car : Nat → Nat} (v : Nat → F) : sumF (fun j => gm (halfF k car (2 * s) j) (v j)) (2 * k) = sumF (fun j => gm (genF k s j) (v (2 * j))) k := by
  rw [sumF_two]
  refine sumF_congr fun j hj => ?_
  have h1 : halfF k car (2 * s) (2 * j) = genF k s j := by
    simp only [halfF]
    rw [if_pos (by omega), show 2 * s / 2 = s by omega, show 2 * j / 2 = j by omega]
  have h2 : halfF k car (2 * s) (2 * j + 1) = 0 := by
    simp only [halfF]
    rw [if_neg (by omega), if_neg (by omega)]
  rw [h1, h2, F.zero_mul, F.add_zero]
theorem odd_row {k s : Nat} {car : Nat → Nat} (v : Nat → F) (hv : ∀ j, j < k → v (2 * j) = 0) : sumF (fun j => gm (halfF k car (2 * s + 1) j) (v j)) (2 * k) = sumF (fun j => gm (genF k s j) (v (2 * j + 1))) k := by
  rw [sumF_two]
  refine sumF_congr fun j hj => ?_
  have h1 : halfF k car (2 * s + 1) (2 * j + 1) = genF k s j := by
    simp only [halfF]
    rw [if_pos (by omega), show (2 * s + 1) / 2 = s by omega, show (2 * j + 1) / 2 = j by omega]
  rw [h1, hv j hj, F.mul_zero, F.zero_add]
/-- both halves of each of these shards -/
def bothH (S : List Nat) : List Nat := S.flatMap fun s => [2 * s, 2 * s + 1]
theorem bothH_len : ∀ S : List Nat, (bothH S).length = 2 * S.length
  | [] => rfl
  | s :: S => by
    have := bothH_len S
    simp only [bothH, List.flatMap_cons, List.length_append, List.length_cons, List.length_nil] at this ⊢
    omega
theorem bothH_mem {S : List Nat} {s : Nat} (h : s ∈ S) : 2 * s ∈ bothH S ∧ 2 * s + 1 ∈ bothH S := by
  simp only [bothH, List.mem_flatMap, List.mem_cons, List.not_mem_nil, or_false]
  exact ⟨⟨s, h, .inl rfl⟩, ⟨s, h, .inr rfl⟩⟩
/-- the rows of any k shards, whatever their order, have full rank -/
theorem half_rank {S : List Nat} {k n : Nat} {car : Nat → Nat} (hS : S.Nodup) (hl : S.length = k) (hn : ∀ x ∈ S, x < n) (hb : n ≤ 256) :
    (pivL (fun i j => halfF k car ((bothH S).getD i 0) j) (2 * k) (2 * k)).length = 2 * k := by
  refine full_rank fun v hv => ?_
  have hrow : ∀ h ∈ bothH S, sumF (fun j => gm (halfF k car h j) (v j)) (2 * k) = 0 := fun h hh => by
    obtain ⟨i, hi, e⟩ := mem_getD hh
    have := hv i (by rw [bothH_len, hl] at hi; exact hi)
    rwa [e] at this
  have ha := gen_any hS hl hn hb (fun j => v (2 * j)) fun s hs => by rw [← even_row (car := car)]; exact hrow _ (bothH_mem hs).1
  have hbb := gen_any hS hl hn hb (fun j => v (2 * j + 1)) fun s hs => by rw [← odd_row (car := car) v ha]; exact hrow _ (bothH_mem hs).2
  intro j hj
  rcases Nat.mod_two_eq_zero_or_one j with e | e
  · have := ha (j / 2) (by omega)
    rwa [show 2 * (j / 2) = j by omega] at this
  · have := hbb (j / 2) (by omega)
    rwa [show 2 * (j / 2) + 1 = j by omega] at this
end Go.Proofs.YtmlpijlcpeoeaaaDoor

/- What rowAt of package half answers; nothing that was there turns. -/
namespace Go.Proofs.YtmlpijlcpeoeaaaDoor
open Go.RowKit Gf
set_option linter.unusedVariables false
set_option maxRecDepth 20000
/-- what stands at a variable of the half that stands at (s, p) -/
def placeF (k g s p : Nat) (xs : List F) : Nat → F := fun v => if v % 2 = p then at8 xs (v / 2) else if p = 1 ∧ s = k + carN g (v / 2) then 1 else 0
theorem placeF_same {k g s p q b : Nat} {xs : List F} (h : b = p) (hb : b < 2) : placeF k g s p xs (2 * q + b) = at8 xs q := by
  rw [placeF, if_pos (by omega), show (2 * q + b) / 2 = q by omega]
theorem placeF_yes {k g s q : Nat} {xs : List F} (h : s = k + carN g q) : placeF k g s 1 xs (2 * q) = 1 := by
  rw [placeF, if_neg (by omega), show 2 * q / 2 = q by omega, if_pos ⟨rfl, h⟩]
theorem placeF_no {k g s p q b : Nat} {xs : List F} (h : b ≠ p) (hb : b < 2) (h2 : p = 1 → s ≠ k + carN g q) : placeF k g s p xs (2 * q + b) = 0 := by
  rw [placeF, if_neg (by omega), show (2 * q + b) / 2 = q by omega, if_neg (fun h => h2 h.1 h.2)]
theorem colP_skip {r j : Nat} {f : Nat → F} (h : f j = 0) : colP r f j = colP r f (j + 1) := rowF_congr fun i hi => by
  by_cases e : i = j
  · subst e; rw [if_neg (by omega), if_pos (by omega), h]
  · by_cases e2 : i < j
    · rw [if_pos e2, if_pos (by omega)]
    · rw [if_neg e2, if_neg (by omega)]
set_option maxHeartbeats 4000000 in
theorem hrowAt_0 (k g s cap : Nat) (a : Option Addr) (xs : List F) (w : World) (h1 : 1 ≤ k) (h2 : k ≤ 16) (hg : 1 ≤ g) (hg2 : g ≤ 16) (hs : s ≤ 16) (hx : xs.length = k) (hX : Row8 w a xs) :
    Calls Tryd.prog 52 #[.agg #[.int .i64 s, .int .i64 0], .slice a k cap, .int .i64 g] w fun e w' => ∃ gb n, e = .returned (.slice (some ⟨gb, 0, none⟩) n n) ∧ n = 2 * k ∧ w.heap.size ≤ gb ∧
      w'.heap[gb]? = some (.cells (vfs (rowF (2 * k) (placeF k g s 0 xs))) 5 (0, 0)) ∧ Below w.heap.size w w' := by
  obtain ⟨m, hm⟩ : ∃ m, m = 2 * k := ⟨_, rfl⟩
  have em : (2 : Int) * k = m := by omega
  have hm32 : m ≤ 32 := by omega
  rw [← hm]
  have HM : Hid _ := hm
  clear hm
  have hmk := run_make8 m (by omega)
  rcases hX with e0 | ⟨b, off, rfl, hc⟩
  · rw [e0] at hx; simp at hx; omega
  have HX : Hid _ := hx
  have HC : Hid _ := hc
  clear hx hc
  obtain ⟨f, hf⟩ : ∃ f, f = placeF k g s 0 xs := ⟨_, rfl⟩
  rw [← hf]
  have HFE : Hid _ := hf
  clear hf
  go_enter Tryd.func52, Tryd.ntmps52
  go_wp2
  have B0 := heap_alloc2_old w (.cells #[.int .i64 s, .int .i64 0] 89) (.cells (vfs (zeros m)) 5)
  have B1 := heap_alloc2_new w (.cells #[.int .i64 s, .int .i64 0] 89) (.cells (vfs (zeros m)) 5)
  have B3 := ((Below.refl w.heap.size w).alloc (Nat.le_refl _) (.cells #[.int .i64 s, .int .i64 0] 89)).alloc (by simp) (.cells (vfs (zeros m)) 5)
  generalize hW : ((w.alloc (.cells #[.int .i64 s, .int .i64 0] 89)).alloc (.cells (vfs (zeros m)) 5)) = W3 at *
  have HS0 : Hid _ := B0
  have HS1 : Hid _ := B1
  have HS3 : Hid _ := B3
  clear hW hmk B0 B1 B3
  go_loopw [18] (fun i wr => ∃ j : Nat, j ≤ m ∧ i = .int .i64 j ∧ Below w.heap.size w wr ∧ wr.heap[w.heap.size]? = some (.cells #[.int .i64 s, .int .i64 0] 89 (0, 0)) ∧ wr.heap[w.heap.size + 1]? = some (.cells (vfs (colP m f j)) 5 (0, 0))) (fun i _ => m - (intOf i).toNat)
  case atStart => exact ⟨0, by omega, rfl, HS3.out, HS0.out, by rw [← colP_zero]; exact HS1.out⟩
  case round =>
    obtain ⟨j, hj, rfl, hb, hp0, hr0⟩ := hrel
    have HB : Hid _ := hb
    have HP : Hid _ := hp0
    have HR : Hid _ := hr0
    clear hb hp0 hr0
    by_cases hlt : j < m
    rotate_left
    · have e : j = m := by omega
      subst e
      have hr := HR.out
      rw [colP_done] at hr
      have HR' : Hid _ := hr
      clear hr
      go_wp2
      go_ret
      exact ⟨w.heap.size + 1, j, rfl, rfl, by omega, HR'.out, HB.out⟩
    obtain ⟨q, b, rfl, hb2⟩ : ∃ q b : Nat, j = 2 * q + b ∧ b < 2 := ⟨j / 2, j % 2, by omega, by omega⟩
    have hqk : q < k := by have := HM.out; omega
    rcases (show b = 0 ∨ b = 1 by omega) with rfl | rfl
    ·
      go_wp2_with fail
      refine (placeOf_F (2 * q) q 0 _ rfl (by decide) (by omega)).mono ?_
      rintro e w2 ⟨rfl, hb2⟩
      have zz := hb2.size
      have HP2 : Hid (w2.heap[w.heap.size]? = some (.cells #[.int .i64 s, .int .i64 0] 89 (0, 0))) := heap_later HP.out hb2
      have HR2 : Hid (w2.heap[w.heap.size + 1]? = some (.cells (vfs (colP m f (2 * q))) 5 (0, 0))) := heap_later HR.out hb2
      have HB2 : Hid (Below w.heap.size w w2) := HB.out.trans (hb2.mono HB.out.size)
      clear hb2
      have hA := holds_new (holds_cons (holds_cons (holds_nil w2) HP2.out) HR2.out) #[.int .i64 q, .int .i64 0] 89
      have HA : Hid _ := hA
      have HB3 : Hid _ := HB2.out.alloc HB2.out.size (.cells #[.int .i64 q, .int .i64 0] 89)
      clear hA
      have c1 := cellAt (holds_at HA.out 0 rfl) 0 _ rfl
      have c2 := cellAt (holds_at HA.out 0 rfl) 1 _ rfl
      have c3 := cellAt (holds_at HA.out 2 rfl) 0 _ rfl
      have c4 := cellAt (holds_at HA.out 2 rfl) 1 _ rfl
      have z4 := ltHeap (holds_at HA.out 2 rfl)
      have c5 := cell_later HB3.out (HC.out q (by rw [HX.out]; omega))
      have c6 := cellAt (holds_at HA.out 1 rfl) (2 * q) _ (vfs_get _ _ (by rw [colP_len]; omega))
      have c7 := frozen_of_row _ (w.heap.size + 1) (2 * q) _ _ (holds_at HA.out 1 rfl)
      have z5 : w.heap.size + 1 < w2.heap.size := ltHeap HR2.out
      go_upto_region 9 with fail
      have hfq : f (2 * q) = at8 xs q := by rw [HFE.out]; exact placeF_same (q := q) (b := 0) rfl (by decide)
      have hR5 : (w2.setCell ⟨w.heap.size + 1, (2 * q), none⟩ (.int .u8 ((at8 xs q).toNat : Int))).heap[w.heap.size + 1]? = some (.cells (vfs (colP m f ((2 * q) + 1))) 5 (0, 0)) := by
        rw [heap_setCell_same _ _ _ _ _ _ HR2.out, vfs_set, ← colP_step m f (2 * q), hfq]
      have hP5 : (w2.setCell ⟨w.heap.size + 1, (2 * q), none⟩ (.int .u8 ((at8 xs q).toNat : Int))).heap[w.heap.size]? = some (.cells #[.int .i64 s, .int .i64 0] 89 (0, 0)) := (heap_setCell_other _ _ _ _ (by show w.heap.size ≠ w.heap.size + 1; omega)).trans HP2.out
      have hB5 : Below w.heap.size w (w2.setCell ⟨w.heap.size + 1, (2 * q), none⟩ (.int .u8 ((at8 xs q).toNat : Int))) := HB2.out.setCell (by show w.heap.size ≤ w.heap.size + 1; omega) _
      have hZ5 : (w2.setCell ⟨w.heap.size + 1, (2 * q), none⟩ (.int .u8 ((at8 xs q).toNat : Int))).heap.size = w2.heap.size := by simp
      have k0 : Hid (((w2.setCell ⟨w.heap.size + 1, (2 * q), none⟩ (.int .u8 ((at8 xs q).toNat : Int))).alloc (.cells #[.int .i64 q, .int .i64 0] 89)).heap[w.heap.size]? = some (.cells #[.int .i64 s, .int .i64 0] 89 (0, 0))) := (Below.heap_alloc _ _ _ (ltHeap hP5)).trans hP5
      have k1 : Hid (((w2.setCell ⟨w.heap.size + 1, (2 * q), none⟩ (.int .u8 ((at8 xs q).toNat : Int))).alloc (.cells #[.int .i64 q, .int .i64 0] 89)).heap[w.heap.size + 1]? = some (.cells (vfs (colP m f ((2 * q) + 1))) 5 (0, 0))) := (Below.heap_alloc _ _ _ (ltHeap hR5)).trans hR5
      have k2 : Hid (((w2.setCell ⟨w.heap.size + 1, (2 * q), none⟩ (.int .u8 ((at8 xs q).toNat : Int))).alloc (.cells #[.int .i64 q, .int .i64 0] 89)).heap[w2.heap.size]? = some (.cells #[.int .i64 q, .int .i64 0] 89 (0, 0))) := by
        have := heap_alloc_last (w2.setCell ⟨w.heap.size + 1, (2 * q), none⟩ (.int .u8 ((at8 xs q).toNat : Int))) (.cells #[.int .i64 q, .int .i64 0] 89)
        rw [hZ5] at this
        exact this
      have kb : Hid (Below w.heap.size w ((w2.setCell ⟨w.heap.size + 1, (2 * q), none⟩ (.int .u8 ((at8 xs q).toNat : Int))).alloc (.cells #[.int .i64 q, .int .i64 0] 89))) := hB5.alloc hB5.size _
      clear hR5 hP5 hB5 hZ5
      generalize hWA : ((w2.setCell ⟨w.heap.size + 1, (2 * q), none⟩ (.int .u8 ((at8 xs q).toNat : Int))).alloc (.cells #[.int .i64 q, .int .i64 0] 89)) = wa at *
      clear hWA c1 c2 c3 c4 c5 c6 c7
      clear HA HB2 HB3 HP2 HR2
      have c1 := boxB (B := wa.heap.size) k0.out (ltHeap k0.out) 0 _ rfl
      have c2 := boxB (B := wa.heap.size) k0.out (ltHeap k0.out) 1 _ rfl
      have c3 := boxB (B := wa.heap.size) k2.out (ltHeap k2.out) 0 _ rfl
      have c4 := boxB (B := wa.heap.size) k2.out (ltHeap k2.out) 1 _ rfl
      obtain ⟨c, hcc⟩ : ∃ c, c = carN g q := ⟨_, rfl⟩
      have HCC : Hid _ := hcc
      have hcr := fun w => carrying_F k g q w (by omega) hg (by omega) (by omega)
      rw [← hcc] at hcr
      have HCR : Hid _ := hcr
      clear hcr hcc
      have hR2 : Below wa.heap.size wa wa.drew := (Below.refl _ _).drew
      go_region_held3 (fun w' => Below wa.heap.size wa w') (first | assumption | (refine Below.drew ?_; assumption)) (first | (go_at_call 78; refine Calls.mono (HCR.out _) ?_; rintro e wj ⟨rfl, hbj⟩; have hTa : Below wa.heap.size wa wj := Below.trans ‹Below wa.heap.size wa _› (Below.mono hbj (below_size ‹Below wa.heap.size wa _›)); clear hbj))
      have hB9 : Below w.heap.size w wj := kb.out.trans (hTa.mono kb.out.size)
      have hP9 := heap_later k0.out hTa
      have hR9 := heap_later k1.out hTa
      have hB : Hid _ := hB9
      have hP : Hid _ := hP9
      have hR : Hid _ := hR9
      clear hB9 hP9 hR9
      go_wp2
      exact ⟨⟨(2 * q) + 1, by omega, by go_num, hB.out, hP.out, hR.out⟩, by simp [intOf]; omega⟩
    ·
      go_wp2_with fail
      refine (placeOf_F (2 * q + 1) q 1 _ rfl (by decide) (by omega)).mono ?_
      rintro e w2 ⟨rfl, hb2⟩
      have zz := hb2.size
      have HP2 : Hid (w2.heap[w.heap.size]? = some (.cells #[.int .i64 s, .int .i64 0] 89 (0, 0))) := heap_later HP.out hb2
      have HR2 : Hid (w2.heap[w.heap.size + 1]? = some (.cells (vfs (colP m f (2 * q + 1))) 5 (0, 0))) := heap_later HR.out hb2
      have HB2 : Hid (Below w.heap.size w w2) := HB.out.trans (hb2.mono HB.out.size)
      clear hb2
      have hA := holds_new (holds_cons (holds_cons (holds_nil w2) HP2.out) HR2.out) #[.int .i64 q, .int .i64 1] 89
      have HA : Hid _ := hA
      have HB3 : Hid _ := HB2.out.alloc HB2.out.size (.cells #[.int .i64 q, .int .i64 1] 89)
      clear hA
      have c1 := cellAt (holds_at HA.out 0 rfl) 0 _ rfl
      have c2 := cellAt (holds_at HA.out 0 rfl) 1 _ rfl
      have c3 := cellAt (holds_at HA.out 2 rfl) 0 _ rfl
      have c4 := cellAt (holds_at HA.out 2 rfl) 1 _ rfl
      have z4 := ltHeap (holds_at HA.out 2 rfl)
      have z5 : w.heap.size + 1 < w2.heap.size := ltHeap HR2.out
      go_upto_region 9 with fail
      have k0 : Hid ((w2.alloc (.cells #[.int .i64 q, .int .i64 1] 89)).heap[w.heap.size]? = some (.cells #[.int .i64 s, .int .i64 0] 89 (0, 0))) := holds_at HA.out 2 rfl
      have k1 : Hid ((w2.alloc (.cells #[.int .i64 q, .int .i64 1] 89)).heap[w.heap.size + 1]? = some (.cells (vfs (colP m f (2 * q + 1))) 5 (0, 0))) := holds_at HA.out 1 rfl
      have k2 : Hid ((w2.alloc (.cells #[.int .i64 q, .int .i64 1] 89)).heap[w2.heap.size]? = some (.cells #[.int .i64 q, .int .i64 1] 89 (0, 0))) := holds_at HA.out 0 rfl
      have kb : Hid (Below w.heap.size w (w2.alloc (.cells #[.int .i64 q, .int .i64 1] 89))) := HB3.out
      generalize hWA : (w2.alloc (.cells #[.int .i64 q, .int .i64 1] 89)) = wa at *
      clear hWA c1 c2 c3 c4 
      clear HA HB2 HB3 HP2 HR2
      have c1 := cellAt k0.out 0 _ rfl
      have c2 := cellAt k0.out 1 _ rfl
      have c3 := cellAt k2.out 0 _ rfl
      have c4 := cellAt k2.out 1 _ rfl
      go_region
      have hB9 := kb.out.drew
      have hP9 := k0.out
      have hR9 := k1.out
      have hfq : f (2 * q + 1) = 0 := by rw [HFE.out]; exact placeF_no (q := q) (b := 1) (by decide) (by decide) (fun h => absurd h (by decide))
      rw [colP_skip hfq] at hR9
      have hB : Hid _ := hB9
      have hP : Hid _ := hP9
      have hR : Hid _ := hR9
      clear hB9 hP9 hR9 hfq
      go_wp2
      exact ⟨⟨(2 * q + 1) + 1, by omega, by go_num, hB.out, hP.out, hR.out⟩, by simp [intOf]; omega⟩
set_option maxHeartbeats 4000000 in
theorem hrowAt_1 (k g s cap : Nat) (a : Option Addr) (xs : List F) (w : World) (h1 : 1 ≤ k) (h2 : k ≤ 16) (hg : 1 ≤ g) (hg2 : g ≤ 16) (hs : s ≤ 16) (hx : xs.length = k) (hX : Row8 w a xs) :
    Calls Tryd.prog 52 #[.agg #[.int .i64 s, .int .i64 1], .slice a k cap, .int .i64 g] w fun e w' => ∃ gb n, e = .returned (.slice (some ⟨gb, 0, none⟩) n n) ∧ n = 2 * k ∧ w.heap.size ≤ gb ∧
      w'.heap[gb]? = some (.cells (vfs (rowF (2 * k) (placeF k g s 1 xs))) 5 (0, 0)) ∧ Below w.heap.size w w' := by
  obtain ⟨m, hm⟩ : ∃ m, m = 2 * k := ⟨_, rfl⟩
  have em : (2 : Int) * k = m := by omega
  have hm32 : m ≤ 32 := by omega
  rw [← hm]
  have HM : Hid _ := hm
  clear hm
  have hmk := run_make8 m (by omega)
  rcases hX with e0 | ⟨b, off, rfl, hc⟩
  · rw [e0] at hx; simp at hx; omega
  have HX : Hid _ := hx
  have HC : Hid _ := hc
  clear hx hc
  obtain ⟨f, hf⟩ : ∃ f, f = placeF k g s 1 xs := ⟨_, rfl⟩
  rw [← hf]
  have HFE : Hid _ := hf
  clear hf
  go_enter Tryd.func52, Tryd.ntmps52
  go_wp2
  have B0 := heap_alloc2_old w (.cells #[.int .i64 s, .int .i64 1] 89) (.cells (vfs (zeros m)) 5)
  have B1 := heap_alloc2_new w (.cells #[.int .i64 s, .int .i64 1] 89) (.cells (vfs (zeros m)) 5)
  have B3 := ((Below.refl w.heap.size w).alloc (Nat.le_refl _) (.cells #[.int .i64 s, .int .i64 1] 89)).alloc (by simp) (.cells (vfs (zeros m)) 5)
  generalize hW : ((w.alloc (.cells #[.int .i64 s, .int .i64 1] 89)).alloc (.cells (vfs (zeros m)) 5)) = W3 at *
  have HS0 : Hid _ := B0
  have HS1 : Hid _ := B1
  have HS3 : Hid _ := B3
  clear hW hmk B0 B1 B3
  go_loopw [18] (fun i wr => ∃ j : Nat, j ≤ m ∧ i = .int .i64 j ∧ Below w.heap.size w wr ∧ wr.heap[w.heap.size]? = some (.cells #[.int .i64 s, .int .i64 1] 89 (0, 0)) ∧ wr.heap[w.heap.size + 1]? = some (.cells (vfs (colP m f j)) 5 (0, 0))) (fun i _ => m - (intOf i).toNat)
  case atStart => exact ⟨0, by omega, rfl, HS3.out, HS0.out, by rw [← colP_zero]; exact HS1.out⟩
  case round =>
    obtain ⟨j, hj, rfl, hb, hp0, hr0⟩ := hrel
    have HB : Hid _ := hb
    have HP : Hid _ := hp0
    have HR : Hid _ := hr0
    clear hb hp0 hr0
    by_cases hlt : j < m
    rotate_left
    · have e : j = m := by omega
      subst e
      have hr := HR.out
      rw [colP_done] at hr
      have HR' : Hid _ := hr
      clear hr
      go_wp2
      go_ret
      exact ⟨w.heap.size + 1, j, rfl, rfl, by omega, HR'.out, HB.out⟩
    obtain ⟨q, b, rfl, hb2⟩ : ∃ q b : Nat, j = 2 * q + b ∧ b < 2 := ⟨j / 2, j % 2, by omega, by omega⟩
    have hqk : q < k := by have := HM.out; omega
    rcases (show b = 0 ∨ b = 1 by omega) with rfl | rfl
    ·
      go_wp2_with fail
      refine (placeOf_F (2 * q) q 0 _ rfl (by decide) (by omega)).mono ?_
      rintro e w2 ⟨rfl, hb2⟩
      have zz := hb2.size
      have HP2 : Hid (w2.heap[w.heap.size]? = some (.cells #[.int .i64 s, .int .i64 1] 89 (0, 0))) := heap_later HP.out hb2
      have HR2 : Hid (w2.heap[w.heap.size + 1]? = some (.cells (vfs (colP m f (2 * q))) 5 (0, 0))) := heap_later HR.out hb2
      have HB2 : Hid (Below w.heap.size w w2) := HB.out.trans (hb2.mono HB.out.size)
      clear hb2
      have hA := holds_new (holds_cons (holds_cons (holds_nil w2) HP2.out) HR2.out) #[.int .i64 q, .int .i64 0] 89
      have HA : Hid _ := hA
      have HB3 : Hid _ := HB2.out.alloc HB2.out.size (.cells #[.int .i64 q, .int .i64 0] 89)
      clear hA
      have c1 := cellAt (holds_at HA.out 0 rfl) 0 _ rfl
      have c2 := cellAt (holds_at HA.out 0 rfl) 1 _ rfl
      have c3 := cellAt (holds_at HA.out 2 rfl) 0 _ rfl
      have c4 := cellAt (holds_at HA.out 2 rfl) 1 _ rfl
      have z4 := ltHeap (holds_at HA.out 2 rfl)
      have z5 : w.heap.size + 1 < w2.heap.size := ltHeap HR2.out
      go_upto_region 9 with fail
      have k0 : Hid ((w2.alloc (.cells #[.int .i64 q, .int .i64 0] 89)).heap[w.heap.size]? = some (.cells #[.int .i64 s, .int .i64 1] 89 (0, 0))) := holds_at HA.out 2 rfl
      have k1 : Hid ((w2.alloc (.cells #[.int .i64 q, .int .i64 0] 89)).heap[w.heap.size + 1]? = some (.cells (vfs (colP m f (2 * q))) 5 (0, 0))) := holds_at HA.out 1 rfl
      have k2 : Hid ((w2.alloc (.cells #[.int .i64 q, .int .i64 0] 89)).heap[w2.heap.size]? = some (.cells #[.int .i64 q, .int .i64 0] 89 (0, 0))) := holds_at HA.out 0 rfl
      have kb : Hid (Below w.heap.size w (w2.alloc (.cells #[.int .i64 q, .int .i64 0] 89))) := HB3.out
      generalize hWA : (w2.alloc (.cells #[.int .i64 q, .int .i64 0] 89)) = wa at *
      clear hWA c1 c2 c3 c4 
      clear HA HB2 HB3 HP2 HR2
      have c1 := boxB (B := wa.heap.size) k0.out (ltHeap k0.out) 0 _ rfl
      have c2 := boxB (B := wa.heap.size) k0.out (ltHeap k0.out) 1 _ rfl
      have c3 := boxB (B := wa.heap.size) k2.out (ltHeap k2.out) 0 _ rfl
      have c4 := boxB (B := wa.heap.size) k2.out (ltHeap k2.out) 1 _ rfl
      obtain ⟨c, hcc⟩ : ∃ c, c = carN g q := ⟨_, rfl⟩
      have HCC : Hid _ := hcc
      have hcr := fun w => carrying_F k g q w (by omega) hg (by omega) (by omega)
      rw [← hcc] at hcr
      have HCR : Hid _ := hcr
      clear hcr hcc
      by_cases hsc : s = k + c
      · have hcr2 := HCR.out
        rw [← hsc] at hcr2
        have HCS : Hid _ := hsc
        clear HCR hsc
        have HCR : Hid _ := hcr2
        clear hcr2
        have hR2 : Below wa.heap.size wa wa.drew := (Below.refl _ _).drew
        go_region_held3 (fun w' => Below wa.heap.size wa w') (first | assumption | (refine Below.drew ?_; assumption)) (first | (go_at_call 78; refine Calls.mono (HCR.out _) ?_; rintro e wj ⟨rfl, hbj⟩; have hTa : Below wa.heap.size wa wj := Below.trans ‹Below wa.heap.size wa _› (Below.mono hbj (below_size ‹Below wa.heap.size wa _›)); clear hbj))
        have hB9 : Below w.heap.size w wj := kb.out.trans (hTa.mono kb.out.size)
        have hP9 := heap_later k0.out hTa
        have hR9 := heap_later k1.out hTa
        have c5 := cellAt hR9 (2 * q) _ (vfs_get _ _ (by rw [colP_len]; omega))
        have c6 := frozen_of_row _ (w.heap.size + 1) (2 * q) _ _ hR9
        have hfq : f (2 * q) = 1 := by rw [HFE.out]; exact placeF_yes (HCS.out.trans (by rw [HCC.out]))
        have hB : Hid _ := hB9
        have hP : Hid _ := hP9
        have hR : Hid _ := hR9
        have HQ : Hid _ := hfq
        clear hB9 hP9 hR9 hfq
        go_wp2
        refine ⟨⟨(2 * q) + 1, by omega, by go_num, hB.out.setCell (by show w.heap.size ≤ w.heap.size + 1; omega) _, (heap_setCell_other _ _ _ _ (by show w.heap.size ≠ w.heap.size + 1; omega)).trans hP.out, ?_⟩, by simp [intOf]; omega⟩
        rw [heap_setCell_same _ _ _ _ _ _ hR.out, ← colP_step m f (2 * q), HQ.out, ← vfs_set]
        rfl
      · have hs1 : ¬ (s : Int) = (k : Int) + c := by omega
        have hs2 : ((s : Int) == (k : Int) + c) = false := beq_eq_false_iff_ne.2 hs1
        have hR2 : Below wa.heap.size wa wa.drew := (Below.refl _ _).drew
        go_region_held3 (fun w' => Below wa.heap.size wa w') (first | assumption | (refine Below.drew ?_; assumption)) (first | (go_at_call 78; refine Calls.mono (HCR.out _) ?_; rintro e wj ⟨rfl, hbj⟩; have hTa : Below wa.heap.size wa wj := Below.trans ‹Below wa.heap.size wa _› (Below.mono hbj (below_size ‹Below wa.heap.size wa _›)); clear hbj))
        have hB9 : Below w.heap.size w wj := kb.out.trans (hTa.mono kb.out.size)
        have hP9 := heap_later k0.out hTa
        have hR9 := heap_later k1.out hTa
        have hfq : f (2 * q) = 0 := by rw [HFE.out]; exact placeF_no (q := q) (b := 0) (by decide) (by decide) (fun _ h => hsc (h.trans (by rw [HCC.out])))
        rw [colP_skip hfq] at hR9
        have hB : Hid _ := hB9
        have hP : Hid _ := hP9
        have hR : Hid _ := hR9
        clear hB9 hP9 hR9 hfq
        go_wp2
        exact ⟨⟨(2 * q) + 1, by omega, by go_num, hB.out, hP.out, hR.out⟩, by simp [intOf]; omega⟩
    ·
      go_wp2_with fail
      refine (placeOf_F (2 * q + 1) q 1 _ rfl (by decide) (by omega)).mono ?_
      rintro e w2 ⟨rfl, hb2⟩
      have zz := hb2.size
      have HP2 : Hid (w2.heap[w.heap.size]? = some (.cells #[.int .i64 s, .int .i64 1] 89 (0, 0))) := heap_later HP.out hb2
      have HR2 : Hid (w2.heap[w.heap.size + 1]? = some (.cells (vfs (colP m f (2 * q + 1))) 5 (0, 0))) := heap_later HR.out hb2
      have HB2 : Hid (Below w.heap.size w w2) := HB.out.trans (hb2.mono HB.out.size)
      clear hb2
      have hA := holds_new (holds_cons (holds_cons (holds_nil w2) HP2.out) HR2.out) #[.int .i64 q, .int .i64 1] 89
      have HA : Hid _ := hA
      have HB3 : Hid _ := HB2.out.alloc HB2.out.size (.cells #[.int .i64 q, .int .i64 1] 89)
      clear hA
      have c1 := cellAt (holds_at HA.out 0 rfl) 0 _ rfl
      have c2 := cellAt (holds_at HA.out 0 rfl) 1 _ rfl
      have c3 := cellAt (holds_at HA.out 2 rfl) 0 _ rfl
      have c4 := cellAt (holds_at HA.out 2 rfl) 1 _ rfl
      have z4 := ltHeap (holds_at HA.out 2 rfl)
      have c5 := cell_later HB3.out (HC.out q (by rw [HX.out]; omega))
      have c6 := cellAt (holds_at HA.out 1 rfl) (2 * q + 1) _ (vfs_get _ _ (by rw [colP_len]; omega))
      have c7 := frozen_of_row _ (w.heap.size + 1) (2 * q + 1) _ _ (holds_at HA.out 1 rfl)
      have z5 : w.heap.size + 1 < w2.heap.size := ltHeap HR2.out
      go_upto_region 9 with fail
      have hfq : f (2 * q + 1) = at8 xs q := by rw [HFE.out]; exact placeF_same (q := q) (b := 1) rfl (by decide)
      have hR5 : (w2.setCell ⟨w.heap.size + 1, (2 * q + 1), none⟩ (.int .u8 ((at8 xs q).toNat : Int))).heap[w.heap.size + 1]? = some (.cells (vfs (colP m f ((2 * q + 1) + 1))) 5 (0, 0)) := by
        rw [heap_setCell_same _ _ _ _ _ _ HR2.out, vfs_set, ← colP_step m f (2 * q + 1), hfq]
      have hP5 : (w2.setCell ⟨w.heap.size + 1, (2 * q + 1), none⟩ (.int .u8 ((at8 xs q).toNat : Int))).heap[w.heap.size]? = some (.cells #[.int .i64 s, .int .i64 1] 89 (0, 0)) := (heap_setCell_other _ _ _ _ (by show w.heap.size ≠ w.heap.size + 1; omega)).trans HP2.out
      have hB5 : Below w.heap.size w (w2.setCell ⟨w.heap.size + 1, (2 * q + 1), none⟩ (.int .u8 ((at8 xs q).toNat : Int))) := HB2.out.setCell (by show w.heap.size ≤ w.heap.size + 1; omega) _
      have hZ5 : (w2.setCell ⟨w.heap.size + 1, (2 * q + 1), none⟩ (.int .u8 ((at8 xs q).toNat : Int))).heap.size = w2.heap.size := by simp
      have k0 : Hid (((w2.setCell ⟨w.heap.size + 1, (2 * q + 1), none⟩ (.int .u8 ((at8 xs q).toNat : Int))).alloc (.cells #[.int .i64 q, .int .i64 1] 89)).heap[w.heap.size]? = some (.cells #[.int .i64 s, .int .i64 1] 89 (0, 0))) := (Below.heap_alloc _ _ _ (ltHeap hP5)).trans hP5
      have k1 : Hid (((w2.setCell ⟨w.heap.size + 1, (2 * q + 1), none⟩ (.int .u8 ((at8 xs q).toNat : Int))).alloc (.cells #[.int .i64 q, .int .i64 1] 89)).heap[w.heap.size + 1]? = some (.cells (vfs (colP m f ((2 * q + 1) + 1))) 5 (0, 0))) := (Below.heap_alloc _ _ _ (ltHeap hR5)).trans hR5
      have k2 : Hid (((w2.setCell ⟨w.heap.size + 1, (2 * q + 1), none⟩ (.int .u8 ((at8 xs q).toNat : Int))).alloc (.cells #[.int .i64 q, .int .i64 1] 89)).heap[w2.heap.size]? = some (.cells #[.int .i64 q, .int .i64 1] 89 (0, 0))) := by
        have := heap_alloc_last (w2.setCell ⟨w.heap.size + 1, (2 * q + 1), none⟩ (.int .u8 ((at8 xs q).toNat : Int))) (.cells #[.int .i64 q, .int .i64 1] 89)
        rw [hZ5] at this
        exact this
      have kb : Hid (Below w.heap.size w ((w2.setCell ⟨w.heap.size + 1, (2 * q + 1), none⟩ (.int .u8 ((at8 xs q).toNat : Int))).alloc (.cells #[.int .i64 q, .int .i64 1] 89))) := hB5.alloc hB5.size _
      clear hR5 hP5 hB5 hZ5
      generalize hWA : ((w2.setCell ⟨w.heap.size + 1, (2 * q + 1), none⟩ (.int .u8 ((at8 xs q).toNat : Int))).alloc (.cells #[.int .i64 q, .int .i64 1] 89)) = wa at *
      clear hWA c1 c2 c3 c4 c5 c6 c7
      clear HA HB2 HB3 HP2 HR2
      have c1 := cellAt k0.out 0 _ rfl
      have c2 := cellAt k0.out 1 _ rfl
      have c3 := cellAt k2.out 0 _ rfl
      have c4 := cellAt k2.out 1 _ rfl
      go_region
      have hB9 := kb.out.drew
      have hP9 := k0.out
      have hR9 := k1.out
      have hB : Hid _ := hB9
      have hP : Hid _ := hP9
      have hR : Hid _ := hR9
      clear hB9 hP9 hR9
      go_wp2
      exact ⟨⟨(2 * q + 1) + 1, by omega, by go_num, hB.out, hP.out, hR.out⟩, by simp [intOf]; omega⟩
theorem hrowAt_F (k g s p cap : Nat) (a : Option Addr) (xs : List F) (w : World) (h1 : 1 ≤ k) (h2 : k ≤ 16) (hg : 1 ≤ g) (hg2 : g ≤ 16) (hs : s ≤ 16) (hp : p < 2) (hx : xs.length = k) (hX : Row8 w a xs) :
    Calls Tryd.prog 52 #[.agg #[.int .i64 s, .int .i64 p], .slice a k cap, .int .i64 g] w fun e w' => ∃ gb n, e = .returned (.slice (some ⟨gb, 0, none⟩) n n) ∧ n = 2 * k ∧ w.heap.size ≤ gb ∧
      w'.heap[gb]? = some (.cells (vfs (rowF (2 * k) (placeF k g s p xs))) 5 (0, 0)) ∧ Below w.heap.size w w' := by
  rcases (show p = 0 ∨ p = 1 by omega) with rfl | rfl
  · exact hrowAt_0 k g s cap a xs w h1 h2 hg hg2 hs hx hX
  · exact hrowAt_1 k g s cap a xs w h1 h2 hg hg2 hs hx hX
end Go.Proofs.YtmlpijlcpeoeaaaDoor

/- What Rows of package half answers, of all numbers; nothing that was there turns. -/
namespace Go.Proofs.YtmlpijlcpeoeaaaDoor
open Go.RowKit Gf
set_option linter.unusedVariables false
set_option maxRecDepth 20000
/-- the rows of all halves -/
def halfM (k r : Nat) : List F := grid (2 * k) (halfF k (carN (groupN k r))) (2 * (k + r))
theorem halfM_len (k r : Nat) : (halfM k r).length = 2 * (k + r) * (2 * k) := grid_len _ _ _
theorem hkind_ne {w : World} {a b : Nat} {cs ds : Array Value} {t u : TypeId} {f1 f2 : Nat × Nat} (h1 : w.heap[a]? = some (.cells cs t f1)) (h2 : w.heap[b]? = some (.cells ds u f2)) (h : t ≠ u) : a ≠ b := fun e => by
  subst e; rw [h1] at h2; cases h2; exact h rfl
theorem place_half {k r g s p : Nat} (hs : s < k + r) (hp : p < 2) : rowF (2 * k) (placeF k g s p (rowAt k (genM k r) s)) = rowF (2 * k) (halfF k (carN g) (2 * s + p)) := by
  refine rowF_congr fun v hv => ?_
  rw [genM, rowAt_grid hs]
  simp only [placeF, halfF]
  rw [show (2 * s + p) % 2 = p by omega, show (2 * s + p) / 2 = s by omega]
  by_cases h : v % 2 = p
  · rw [if_pos h, if_pos h, at8_rowF (by omega)]
  · rw [if_neg h, if_neg h]
    by_cases h2 : p = 1 ∧ s = k + carN g (v / 2)
    · rw [if_pos h2, if_pos ⟨h2.1, by omega, by omega⟩]
    · rw [if_neg h2, if_neg (fun h3 => h2 ⟨h3.1, by omega⟩)]
set_option maxHeartbeats 4000000 in
theorem hrows_F (k r : Nat) (w : World) (s0 : Addr) (hs0 : w.cell? ⟨2, 0, none⟩ = some (errAt s0)) (h1 : 1 ≤ k) (h2 : 2 ≤ r) (h3 : k + r ≤ 16) :
    Calls Tryd.prog 28 #[.int .i64 k, .int .i64 r] w fun e w' => ∃ g m, e = .returned (.tuple #[.agg #[.int .i64 (2 * (k + r) : Nat), .int .i64 (2 * k : Nat), .slice (some ⟨g, 0, none⟩) m m], .nilIface]) ∧ m = 2 * (k + r) * (2 * k) ∧ w.heap.size ≤ g ∧
      w'.heap[g]? = some (.cells (vfs (halfM k r)) 5 (0, 0)) ∧ Below w.heap.size w w' := by
  obtain ⟨gr1, _, _, gr2⟩ := groupN_least h1 h2 h3
  have HG : Hid _ := fun w => bgroup_ok k r w h1 h2 h3
  have HV : Hid _ := fun w s hs => generator_F k r w s hs h1 h2 h3
  have hhm : halfM k r = grid (2 * k) (halfF k (carN (groupN k r))) (2 * (k + r)) := rfl
  obtain ⟨gr, hgr⟩ : ∃ gr, gr = groupN k r := ⟨_, rfl⟩
  rw [← hgr] at HG gr1 gr2 hhm
  obtain ⟨n, hn⟩ : ∃ n, n = 2 * (k + r) := ⟨_, rfl⟩
  obtain ⟨c, hc⟩ : ∃ c, c = 2 * k := ⟨_, rfl⟩
  obtain ⟨t, ht⟩ : ∃ t, t = k + r := ⟨_, rfl⟩
  rw [← ht] at HV
  rw [← hn, ← hc] at hhm ⊢
  have en : (2 : Int) * ((k : Int) + r) = n := by omega
  have ec : (2 : Int) * (k : Int) = c := by omega
  have hn32 : n ≤ 32 := by omega
  have hc32 : c ≤ 32 := by omega
  have HN : Hid _ := hn
  have HC : Hid _ := hc
  have HT : Hid _ := ht
  have HHM : Hid _ := hhm
  have HS : Hid _ := hs0
  have hmk := run_makeS n (by omega)
  clear hgr hn hc ht hhm hs0
  have hA := holds_new (holds_nil w) #[.int .i64 0, .int .i64 0, .slice none 0 0] 65
  have HA : Hid _ := hA
  have HB0 : Hid _ := (Below.refl w.heap.size w).alloc (Nat.le_refl _) (.cells #[.int .i64 0, .int .i64 0, .slice none 0 0] 65)
  clear hA
  go_enter Tryd.func28, Tryd.ntmps28
  go_wp2_with fail
  refine Calls.mono (HV.out _ s0 (cell_later HB0.out HS.out)) ?_
  rintro e w1 ⟨g1, m1, rfl, hm1, hg1, hh1, hb1⟩
  have HA1 : Hid _ := holds_new (holds_cons (holds_later HA.out hb1) hh1) #[.int .i64 t, .int .i64 k, .slice (some ⟨g1, 0, none⟩) m1 m1] 65
  have hB1 := HB0.out.trans (hb1.mono HB0.out.size)
  have HB1 : Hid (Below w.heap.size w (w1.alloc (.cells #[.int .i64 t, .int .i64 k, .slice (some ⟨g1, 0, none⟩) m1 m1] 65))) := hB1.alloc hB1.size _
  have HM1 : Hid _ := hm1
  clear hb1 hh1 hg1 hm1 HA hB1
  go_wp2_with fail
  refine Calls.mono (HG.out _) ?_
  rintro e w2 ⟨rfl, rfl⟩
  go_wp2
  have hA2 := holds_cons (holds_alloc HA1.out (.cells (slV 0 [] n) 22)) (heap_alloc_last (w1.alloc (.cells #[.int .i64 t, .int .i64 k, .slice (some ⟨g1, 0, none⟩) m1 m1] 65)) (.cells (slV 0 [] n) 22))
  have hB2 := HB1.out.alloc HB1.out.size (.cells (slV 0 [] n) 22)
  have hz1 := HB1.out.size
  have hz2 := ltHeap (holds_at HA1.out 2 rfl)
  rw [World.size_alloc] at hA2 hz1 hz2
  have HA2 : Hid _ := hA2
  have HB2 : Hid _ := hB2
  clear hA2 hB2 HA1 HB1 hmk
  generalize hM : w1.heap.size + 1 = M at *
  generalize ((w1.alloc (.cells #[.int .i64 t, .int .i64 k, .slice (some ⟨g1, 0, none⟩) m1 m1] 65)).alloc (.cells (slV 0 [] n) 22)) = W3 at *
  have hM0 : w.heap.size < M := by omega
  have hM1 : w1.heap.size < M := by omega
  clear hM
  go_loopw [41] (fun i wr => ∃ j : Nat, ∃ gs : List Nat, j ≤ n ∧ i = .int .i64 j ∧ gs.length = j ∧ Below w.heap.size w wr ∧
    Holds wr [(M, .cells (slV c gs n) 22 (0, 0)), (w1.heap.size, .cells #[.int .i64 t, .int .i64 k, .slice (some ⟨g1, 0, none⟩) m1 m1] 65 (0, 0)), (g1, .cells (vfs (genM k r)) 5 (0, 0)), (w.heap.size, .cells #[.int .i64 0, .int .i64 0, .slice none 0 0] 65 (0, 0))] ∧
    ∀ i g, gs[i]? = some g → g ≠ M ∧ wr.heap[g]? = some (.cells (vfs (rowF c (halfF k (carN gr) i))) 5 (0, 0))) (fun i _ => n - (intOf i).toNat)
  case atStart => exact ⟨0, [], by omega, rfl, rfl, HB2.out, HA2.out, fun j g h => by simp at h⟩
  case round =>
    obtain ⟨j, gs, hj, rfl, hgs, hb, hh, hrows⟩ := hrel
    have HB : Hid _ := hb
    have HH : Hid _ := hh
    have HR : Hid _ := hrows
    have HGS : Hid _ := hgs
    clear hb hh hrows hgs
    by_cases hlt : j < n
    · obtain ⟨s, p, rfl, hp2, hst⟩ : ∃ s p : Nat, j = 2 * s + p ∧ p < 2 ∧ s < t := ⟨j / 2, j % 2, by omega, by omega, by have := HN.out; have := HT.out; omega⟩
      go_wp2_with fail
      refine (placeOf_F (2 * s + p) s p _ rfl hp2 (by have := HT.out; omega)).mono ?_
      rintro e w4 ⟨rfl, hb4⟩
      have HH4 : Hid _ := holds_new (holds_later HH.out hb4) #[.int .i64 s, .int .i64 p] 89
      have hB4 := HB.out.trans (hb4.mono HB.out.size)
      have HB4 : Hid _ := hB4.alloc hB4.size (.cells #[.int .i64 s, .int .i64 p] 89)
      have HR4b : Hid (∀ (k0 : Nat) (o : Obj), wr.heap[k0]? = some o → (w4.alloc (.cells #[.int .i64 s, .int .i64 p] 89)).heap[k0]? = some o) := fun k0 o h => (Below.heap_alloc _ _ _ (ltHeap (heap_later h hb4))).trans (heap_later h hb4)
      have zz4 := hb4.size
      clear hb4 hB4
      have c1 := cellAt (holds_at HH4.out 2 rfl) 0 _ rfl
      have c2 := cellAt (holds_at HH4.out 2 rfl) 1 _ rfl
      have c3 := cellAt (holds_at HH4.out 2 rfl) 2 _ rfl
      have c4 := cellAt (holds_at HH4.out 0 rfl) 0 _ rfl
      have z4 := ltHeap (holds_at HH4.out 0 rfl)
      have z5 := ltHeap (holds_at HH4.out 2 rfl)
      go_wp2_with fail
      refine Calls.mono (row_F t k m1 m1 s (some ⟨g1, 0, none⟩) (genM k r) _ (by have := HT.out; omega) (by omega) (by have := HM1.out; simpa using this) (by rw [genM_len, HT.out]) (Nat.le_refl _) (holds_row HH4.out 3 rfl) (fun h => by cases h) hst) ?_
      rintro e w5 ⟨a5, cap5, rfl, hr5, hn5, _, hb5⟩
      have HR5 : Hid _ := hr5
      have HH5 : Hid _ := holds_later HH4.out hb5
      have HB5 : Hid (Below w.heap.size w w5) := HB4.out.trans (hb5.mono HB4.out.size)
      have HR5b : Hid (∀ (k0 : Nat) (o : Obj), wr.heap[k0]? = some o → w5.heap[k0]? = some o) := fun k0 o h => heap_later (HR4b.out k0 o h) hb5
      clear hr5 hb5 hn5 c1 c2 c3 c4 z4 z5 HB4
      have c1 := cellAt (holds_at HH5.out 0 rfl) 0 _ rfl
      have c2 := cellAt (holds_at HH5.out 0 rfl) 1 _ rfl
      have z5 := ltHeap (holds_at HH5.out 0 rfl)
      go_wp2_with fail
      refine Calls.mono (hrowAt_F k gr s p cap5 a5 _ _ h1 (by omega) gr1 gr2 (by have := HT.out; omega) hp2 (rowAt_len (by rw [genM_len]) (by rw [← HT.out]; exact hst)) HR5.out) ?_
      rintro e w6 ⟨g6, n6, rfl, hn6, hg6, hh6, hb6⟩
      obtain rfl : n6 = c := by have := HC.out; omega
      rw [place_half (by have := HT.out; omega) hp2, ← HC.out] at hh6
      have hs6 := heap_later (holds_at HH5.out 1 rfl) hb6
      have z6 := ltHeap (holds_at HH5.out 1 rfl)
      have hg6M : g6 ≠ M := by omega
      have HG2 := HGS.out
      have c7 : w6.cell? ⟨M, 2 * s + p, none⟩ = some (.slice none 0 0) := cellAt hs6 (2 * s + p) _ (by have e := slV_next (c := n6) (gs := gs) (r := n) (by rw [HG2]; exact hlt); rwa [HG2] at e)
      have c8 : w6.frozen? ⟨M, 2 * s + p, none⟩ = false := frozen_of_row _ _ _ _ _ hs6
      have hW : ∀ (k0 : Nat) (o : Obj), k0 ≠ M → w6.heap[k0]? = some o → (w6.setCell ⟨M, 2 * s + p, none⟩ (.slice (some ⟨g6, 0, none⟩) n6 n6)).heap[k0]? = some o := fun k0 o h1 h2 => (heap_setCell_other _ _ _ _ h1).trans h2
      have HT6 : Hid ((w6.setCell ⟨M, 2 * s + p, none⟩ (.slice (some ⟨g6, 0, none⟩) n6 n6)).heap[M]? = some (.cells (slV n6 (gs ++ [g6]) n) 22 (0, 0))) := by
        show _ = _
        rw [heap_setCell_same _ _ _ _ _ _ hs6, ← HG2, slV_set g6 (by omega)]
      have HROW : Hid (∀ i g, (gs ++ [g6])[i]? = some g → g ≠ M ∧ (w6.setCell ⟨M, 2 * s + p, none⟩ (.slice (some ⟨g6, 0, none⟩) n6 n6)).heap[g]? = some (.cells (vfs (rowF n6 (halfF k (carN gr) i))) 5 (0, 0))) := by
        intro i g hi
        by_cases hjk : i < gs.length
        · rw [List.getElem?_append_left hjk] at hi
          obtain ⟨h1, h2⟩ := HR.out i g hi
          exact ⟨h1, hW _ _ h1 (heap_later (HR5b.out _ _ h2) hb6)⟩
        · have hj2 := (List.getElem?_eq_some_iff.1 hi).1
          simp only [List.length_append, List.length_singleton] at hj2
          obtain rfl : i = 2 * s + p := by omega
          rw [List.getElem?_append_right (by omega), show 2 * s + p - gs.length = 0 from by omega] at hi
          obtain rfl : g6 = g := by simpa using hi
          exact ⟨hg6M, hW _ _ hg6M hh6⟩
      have hB6 := HB5.out.trans (hb6.mono HB5.out.size)
      have hBX := hB6.setCell (p := ⟨M, 2 * s + p, none⟩) (by show w.heap.size ≤ M; omega) (.slice (some ⟨g6, 0, none⟩) n6 n6)
      have HBX : Hid _ := hBX
      have hX0 := holds_later HH5.out hb6
      have HHX : Hid (Holds (w6.setCell ⟨M, 2 * s + p, none⟩ (.slice (some ⟨g6, 0, none⟩) n6 n6)) [(M, .cells (slV n6 (gs ++ [g6]) n) 22 (0, 0)), (w1.heap.size, .cells #[.int .i64 t, .int .i64 k, .slice (some ⟨g1, 0, none⟩) m1 m1] 65 (0, 0)), (g1, .cells (vfs (genM k r)) 5 (0, 0)), (w.heap.size, .cells #[.int .i64 0, .int .i64 0, .slice none 0 0] 65 (0, 0))]) :=
        holds_cons (holds_cons (holds_cons (holds_cons (holds_nil _) (hW _ _ (by omega) (holds_at hX0 4 rfl))) (hW _ _ (hkind_ne (holds_at hX0 3 rfl) hs6 (by decide)) (holds_at hX0 3 rfl))) (hW _ _ (by omega) (holds_at hX0 2 rfl))) HT6.out
      clear hs6 hb6 hh6 hW hB6 hBX hX0 hn6 c1 c2 HG2
      go_wp2
      refine ⟨⟨2 * s + p + 1, gs ++ [g6], by omega, by go_num, by simp [HGS.out], HBX.out, HHX.out, HROW.out⟩, by simp [intOf]; omega⟩
    · obtain rfl : j = n := by omega
      have k1 := holds_at HH.out 0 rfl
      go_wp2_with fail
      refine Calls.mono (of_F c j j _ ((List.range j).map fun i => rowF c (halfF k (carN gr) i)) _ (by omega) (by simp) (by omega) (fun x hx => ?_) (.inr ⟨M, 0, rfl, fun i x hx => ?_⟩)) ?_
      · obtain ⟨i, _, rfl⟩ := List.mem_map.1 hx
        exact rowF_len _ _
      · simp only [List.getElem?_map, Option.map_eq_some_iff] at hx
        obtain ⟨l, hi, rfl⟩ := hx
        obtain ⟨hjk, hi2⟩ := List.getElem?_eq_some_iff.1 hi
        simp only [List.length_range] at hjk
        simp only [List.getElem_range] at hi2
        subst hi2
        have hjg : i < gs.length := by rw [HGS.out]; exact hjk
        have hgj : gs[i]? = some gs[i] := List.getElem?_eq_getElem hjg
        refine ⟨some ⟨gs[i], 0, none⟩, c, ?_, row8_own (HR.out i _ hgj).2⟩
        rw [Nat.zero_add, rowF_len]
        exact cellAt k1 i _ (slV_at hjg)
      rintro e w5 ⟨g, m, rfl, hm, hg, hh, hb5⟩
      rw [← grid_flat, ← HHM.out] at hh
      have k2 := heap_later (holds_at HH.out 3 rfl) hb5
      have c4 := cellAt k2 0 _ rfl
      have c5 := cellAt k2 1 _ rfl
      have c6 := cellAt k2 2 _ rfl
      have d4 : w5.frozen? ⟨w.heap.size, 0, none⟩ = false := frozen_of_row _ _ _ _ _ k2
      have d5 : w5.frozen? ⟨w.heap.size, 1, none⟩ = false := frozen_of_row _ _ _ _ _ k2
      have d6 : w5.frozen? ⟨w.heap.size, 2, none⟩ = false := frozen_of_row _ _ _ _ _ k2
      have HMM : Hid _ := hm
      have HHH : Hid _ := hh
      have HBW : Hid (Below w.heap.size w w5) := HB.out.trans (hb5.mono HB.out.size)
      have hgw : w.heap.size < g := by
        have h1 := ltHeap k1
        omega
      clear hm hh hb5 k2 k1
      go_wp2
      refine bodyPost_ret (v := .tuple #[.agg #[.int .i64 j, .int .i64 c, .slice (some ⟨g, 0, none⟩) m m], .nilIface]) (by simp [results, Tryd.results28, go_sem, c4, c5, c6]) rfl ⟨g, m, rfl, HMM.out, by omega, ?_, ?_⟩
      · rw [heap_setCell_other _ _ _ _ (by show g ≠ w.heap.size; omega), heap_setCell_other _ _ _ _ (by show g ≠ w.heap.size; omega), heap_setCell_other _ _ _ _ (by show g ≠ w.heap.size; omega)]
        exact HHH.out
      · exact ((HBW.out.setCell (by simp) _).setCell (by simp) _).setCell (by simp) _
end Go.Proofs.YtmlpijlcpeoeaaaDoor

/- Plain algebra of stage 7: what a half is, byte by byte, of the data halves; no program is spoken of. -/
namespace Go.Proofs.YtmlpijlcpeoeaaaDoor
open Go.RowKit Gf
set_option linter.unusedVariables false
set_option maxRecDepth 20000
/-- byte b of half h, of the data halves' bytes D -/
def imgF (k : Nat) (car : Nat → Nat) (D : Nat → Nat → F) (h b : Nat) : F := sumF (fun v => gm (halfF k car h v) (D v b)) (2 * k)
/-- half h -/
def imgL (k : Nat) (car : Nat → Nat) (H : Nat) (D : Nat → Nat → F) (h : Nat) : List F := rowF H (imgF k car D h)
theorem imgL_len (k : Nat) (car : Nat → Nat) (H : Nat) (D : Nat → Nat → F) (h : Nat) : (imgL k car H D h).length = H := rowF_len _ _
theorem img_congr {k H h : Nat} {car : Nat → Nat} {D E : Nat → Nat → F} (hD : ∀ v b, v < 2 * k → b < H → D v b = E v b) : imgL k car H D h = imgL k car H E h :=
  rowF_congr fun b hb => sumF_congr fun v hv => by rw [hD v b hv hb]
/-- a data half is itself -/
theorem img_data {k h : Nat} {car : Nat → Nat} {D : Nat → Nat → F} (hh : h < 2 * k) (b : Nat) : imgF k car D h b = D h b := by
  unfold imgF
  rw [sumF_pick _ h _ hh]
  · have : halfF k car h h = 1 := by
      simp only [halfF, if_true]
      rw [genF, if_pos (by omega), if_pos rfl]
    rw [this, F.one_mul]
  · intro v hv hne
    have : halfF k car h v = 0 := by
      simp only [halfF]
      by_cases hm : v % 2 = h % 2
      · rw [if_pos hm, genF, if_pos (by omega), if_neg (by omega)]
      · rw [if_neg hm, if_neg (by omega)]
    rw [this, F.zero_mul]
/-- what Image adds up for a parity's half: data shard j's part -/
def parS (k i p : Nat) (car : Nat → Nat) (D : Nat → Nat → F) (b j : Nat) : F := ga (gm (cyN (k + i) j) (D (2 * j + p) b)) (if p = 1 ∧ car j = i then D (2 * j) b else 0)
theorem img_par {k i p b : Nat} {car : Nat → Nat} {D : Nat → Nat → F} (hp : p < 2) : imgF k car D (2 * (k + i) + p) b = sumF (parS k i p car D b) k := by
  unfold imgF
  rw [sumF_two]
  refine sumF_congr fun j hj => ?_
  have hd : (2 * (k + i) + p) / 2 = k + i := by omega
  have hm : (2 * (k + i) + p) % 2 = p := by omega
  unfold parS
  rcases (show p = 0 ∨ p = 1 by omega) with rfl | rfl
  · have e1 : halfF k car (2 * (k + i) + 0) (2 * j) = cyN (k + i) j := by
      simp only [halfF]
      rw [if_pos (by omega), hd, show 2 * j / 2 = j by omega, genF, if_neg (by omega)]
    have e2 : halfF k car (2 * (k + i) + 0) (2 * j + 1) = 0 := by
      simp only [halfF]
      rw [if_neg (by omega), if_neg (by omega)]
    rw [e1, e2, F.zero_mul, if_neg (by omega)]
    rfl
  · have e1 : halfF k car (2 * (k + i) + 1) (2 * j + 1) = cyN (k + i) j := by
      simp only [halfF]
      rw [if_pos (by omega), hd, show (2 * j + 1) / 2 = j by omega, genF, if_neg (by omega)]
    have e2 : halfF k car (2 * (k + i) + 1) (2 * j) = if car j = i then 1 else 0 := by
      simp only [halfF]
      rw [if_neg (by omega), hd, show 2 * j / 2 = j by omega]
      by_cases e : car j = i
      · rw [if_pos e, if_pos ⟨by omega, by omega, by omega⟩]
      · rw [if_neg e, if_neg (fun h => e (by omega))]
    rw [e1, e2, F.add_comm]
    congr 1
    by_cases e : car j = i
    · rw [if_pos e, if_pos ⟨rfl, e⟩, F.one_mul]
    · rw [if_neg e, if_neg (fun h => e h.2), F.zero_mul]
theorem parS_step {k i p b j : Nat} {car : Nat → Nat} {D : Nat → Nat → F} {s : F} : ga (ga s (gm (cyN (k + i) j) (D (2 * j + p) b))) (if p = 1 ∧ car j = i then D (2 * j) b else 0) = ga s (parS k i p car D b j) := F.add_assoc _ _ _
end Go.Proofs.YtmlpijlcpeoeaaaDoor

/- What the document's own Half and Stripes answer, of all numbers; nothing that was there turns. -/
namespace Go.Proofs.YtmlpijlcpeoeaaaDoor
open Go.RowKit Gf
set_option linter.unusedVariables false
set_option maxRecDepth 20000
theorem rhalf_F (k size : Int) (w : World) :
    Calls Tryd.prog 24 #[.int .i64 k, .int .i64 size] w fun e w' => e = .returned (.tuple #[.int .i64 (halfV k size), .int .i64 (halfE k size)]) ∧ w = w' := by
  by_cases hk : OkK k
  · obtain ⟨b1, b2⟩ := hk
    obtain ⟨a, rfl⟩ := Int.eq_ofNat_of_zero_le (show 0 ≤ k by omega)
    have c1 : 1 ≤ a := by omega
    have c2 : a ≤ 14 := by omega
    have g1 : (1 : Int) ≤ a := by omega
    have g2 : (a : Int) ≤ 14 := by omega
    by_cases h1 : size < 1
    · have e1 : halfE a size = 12 := by unfold halfE; rw [if_pos (show OkK a from ⟨by omega, by omega⟩), if_pos h1]
      rw [halfV_no (by rw [e1]; decide), e1]
      clear e1
      go_enter Tryd.func24, Tryd.ntmps24
      go_wp2
      go_ret2
      exact ⟨rfl, rfl⟩
    · obtain ⟨n, rfl⟩ := Int.eq_ofNat_of_zero_le (show 0 ≤ size by omega)
      have d1 : 1 ≤ n := by omega
      have HY : Hid (∀ h : Nat, (h - 1) * (2 * a) < n → n ≤ h * (2 * a) → h ≤ 64 → halfV a n = h ∧ halfE a n = 0) := fun h x1 x2 x3 => by
        have d2 : n ≤ 128 * a := by
          have := Nat.mul_le_mul_right (2 * a) x3
          omega
        exact ⟨by rw [halfV_ok c1 c2 d1 d2]; exact (cnt_eq (by omega) (.inr x1) x2).symm, halfE_ok c1 c2 d1 d2⟩
      have HN : Hid (64 * (2 * a) < n → halfV a n = 0 ∧ halfE a n = 20) := fun x => by
        have e1 : halfE a n = 20 := by unfold halfE; rw [if_pos (show OkK a from ⟨by omega, by omega⟩), if_neg h1, if_pos (by omega)]
        exact ⟨halfV_no (by rw [e1]; decide), e1⟩
      generalize halfV a n = hv at *
      generalize halfE a n = he at *
      clear b1 b2
      go_enter Tryd.func24, Tryd.ntmps24
      go_wp2
      go_loopw [6] (fun t wr => ∃ h : Nat, 1 ≤ h ∧ h ≤ 65 ∧ t = .int .i64 h ∧ Hid ((h - 1) * (2 * a) < n) ∧ wr = w) (fun t _ => 65 - (intOf t).toNat)
      case atStart => exact ⟨1, by omega, by omega, rfl, by show _ < _; omega, rfl⟩
      case round =>
        obtain ⟨h, l1, l2, rfl, HL, rfl⟩ := hrel
        by_cases hlt : h ≤ 64
        · obtain ⟨q, hq⟩ : ∃ q : Nat, q = h * (2 * a) := ⟨_, rfl⟩
          have hq2 : q ≤ 1792 := by
            rw [hq]
            exact Nat.le_trans (Nat.mul_le_mul hlt (show 2 * a ≤ 28 by omega)) (by decide)
          have HQ : Hid ((2 : Int) * a * h = (q : Int)) := by
            show _ = _
            rw [hq, Nat.mul_comm h]; simp
          have HQ2 : Hid _ := hq
          by_cases hx : n ≤ q
          · obtain ⟨r1, r2⟩ := HY.out h HL.out (by rw [← hq]; exact hx) hlt
            subst r1 r2
            have hx' : (n : Int) ≤ q := by omega
            clear hq
            have hqq := HQ.out
            go_wp2
            go_ret2
            exact ⟨rfl, rfl⟩
          · have hx' : ¬ (n : Int) ≤ q := by omega
            clear hq
            have hqq := HQ.out
            go_wp2
            exact ⟨⟨h + 1, by omega, by omega, by go_num, by show _ < _; rw [Nat.add_sub_cancel, ← HQ2.out]; omega, trivial⟩, by simp [intOf]; omega⟩
        · obtain rfl : h = 65 := by omega
          obtain ⟨r1, r2⟩ := HN.out HL.out
          subst r1 r2
          go_wp2
          go_ret2
          exact ⟨rfl, rfl⟩
  · have e1 : halfE k size = 1 := by unfold halfE; rw [if_neg hk]
    rw [halfV_no (by rw [e1]; decide), e1]
    clear e1
    by_cases h1 : k < 1
    · go_enter Tryd.func24, Tryd.ntmps24
      go_wp2
      go_ret2
      exact ⟨rfl, rfl⟩
    · have h2 : 14 < k := by simp only [OkK] at hk; omega
      clear hk
      go_enter Tryd.func24, Tryd.ntmps24
      go_wp2
      go_ret2
      exact ⟨rfl, rfl⟩
end Go.Proofs.YtmlpijlcpeoeaaaDoor

/- The chapter's worked answers of package shards hold: the function 'alive' of the statements returns true; a half lies within its block. -/
namespace Go.Proofs.YtmlpijlcpeoeaaaDoor
open Go.RowKit Gf
set_option linter.unusedVariables false
set_option maxRecDepth 20000
theorem row8_half {w : World} {g H c v : Nat} {xs : List F} {t : TypeId} {fr : Nat × Nat} (h : w.heap[g]? = some (.cells (vfs (padF (c * H) xs)) t fr)) (hv : v < c) : Row8 w (some ⟨g, v * H, none⟩) (hf H xs v) :=
  .inr ⟨g, v * H, rfl, fun j hj => by
    rw [hf_len] at hj
    have hlt := place_lt (c := H) hv hj
    rw [cell_of_row _ _ _ _ _ _ h, vfs_get _ _ (by rw [padF_len]; exact hlt), at8_padF hlt, hf, at8_rowF hj]⟩
theorem heap_alloc_any (w : World) (o : Obj) : (w.alloc o).heap[w.heap.size]? = some o := by show (w.heap.push o)[w.heap.size]? = _; simp
theorem alive6_1 : hf 2 [97, 98, 99, 100, 101] 1 = [99, 100] := by decide +kernel
theorem alive6_2 : hf 2 [97, 98, 99, 100, 101] 2 = [101, 0] := by decide +kernel
end Go.Proofs.YtmlpijlcpeoeaaaDoor

/- What Join of package shards answers, of all lists of halves; nothing that was there turns. -/
namespace Go.Proofs.YtmlpijlcpeoeaaaDoor
open Go.RowKit Gf
set_option linter.unusedVariables false
set_option maxRecDepth 20000
/-- halves in form -/
def FitP (c h : Nat) (L : List (List F)) : Prop := L.length = c ∧ ∀ xs ∈ L, xs.length = h
theorem rows8_at {w : World} {a : Option Addr} {L : List (List F)} {j : Nat} (h : Rows8 w a L) (hj : j < L.length) : ∃ b off, a = some ⟨b, off, none⟩ ∧ b < w.heap.size ∧ ∀ j xs, L[j]? = some xs → ∃ a' cap', w.cell? ⟨b, off + j, none⟩ = some (.slice a' xs.length cap') ∧ Row8 w a' xs := by
  rcases h with rfl | ⟨b, off, rfl, h⟩
  · simp at hj
  · obtain ⟨a', cap', h1, _⟩ := h j _ (List.getElem?_eq_getElem hj)
    exact ⟨b, off, rfl, by simpa using World.block_lt_of_cell? w _ h1, h⟩
set_option maxHeartbeats 1000000 in
theorem fit_F (k h l cap : Nat) (a : Option Addr) (L : List (List F)) (w : World) (hk : k ≤ 14) (hl : l = L.length) (hl9 : l ≤ 140737488355328) (hL : Rows8 w a L) :
    Calls Tryd.prog 61 #[.int .i64 k, .int .i64 h, .slice a l cap] w fun e w' => ∃ b : Bool, e = .returned (.bool b) ∧ (b = true ∧ FitP (2 * k) h L ∨ b = false ∧ ¬ FitP (2 * k) h L) ∧ w = w' := by
  have HL : Hid _ := hl
  have HR : Hid _ := hL
  by_cases h2 : l = 2 * k
  · have h2' : 2 * (k : Int) = l := by omega
    have H2 : Hid _ := h2
    clear hl hL h2
    go_enter Tryd.func61, Tryd.ntmps61
    go_wp2
    go_loopw [16] (fun t wr => ∃ j : Nat, j ≤ l ∧ t = .int .i64 j ∧ wr = w ∧ Hid (∀ i xs, i < j → L[i]? = some xs → xs.length = h)) (fun t _ => l - (intOf t).toNat)
    case atStart => exact ⟨0, by omega, rfl, rfl, fun i xs h => absurd h (by omega)⟩
    case round =>
      obtain ⟨j, hj, rfl, rfl, HI⟩ := hrel
      by_cases hlt : j < l
      · obtain ⟨b, off, rfl, hb, hc⟩ := rows8_at HR.out (show j < L.length by rw [← HL.out]; exact hlt)
        obtain ⟨xs, hxs⟩ : ∃ xs, L[j]? = some xs := ⟨_, List.getElem?_eq_getElem (by rw [← HL.out]; exact hlt)⟩
        obtain ⟨a', cap', c1, _⟩ := hc j xs hxs
        have HX : Hid _ := hxs
        clear hc hxs
        by_cases he : xs.length = h
        · subst he
          clear h2'
          go_wp2
          refine ⟨⟨j + 1, by omega, by go_num, trivial, fun i ys hi hy => ?_⟩, by simp [intOf]; omega⟩
          by_cases e : i = j
          · subst e
            obtain rfl := Option.some.inj (HX.out.symm.trans hy)
            rfl
          · exact HI.out i ys (by omega) hy
        · have he' : ¬ (xs.length : Int) = h := by omega
          have HN : Hid _ := he
          clear h2' he
          go_wp2
          go_ret
          exact ⟨false, rfl, .inr ⟨rfl, fun hf => HN.out (hf.2 xs (List.mem_of_getElem? HX.out))⟩, rfl⟩
      · obtain rfl : j = l := by omega
        go_wp2
        go_ret
        refine ⟨true, rfl, .inl ⟨rfl, by rw [← HL.out, H2.out], fun xs hx => ?_⟩, rfl⟩
        obtain ⟨i, hi, e⟩ := List.getElem_of_mem hx
        exact HI.out i xs (by rw [HL.out]; exact hi) (by rw [List.getElem?_eq_getElem hi, e])
  · have h2' : ¬ (l : Int) = 2 * k := by omega
    have H2 : Hid _ := h2
    clear hl hL h2
    go_enter Tryd.func61, Tryd.ntmps61
    go_wp2
    go_ret
    exact ⟨false, rfl, .inr ⟨rfl, fun hf => H2.out (by rw [HL.out]; exact hf.1)⟩, rfl⟩
theorem run_make8_cap (n : Nat) (hn : n ≤ 140737488351232) (w : World) :
    (Instr.makeSlice 22 (.int .i64 0) (.int .i64 (n : Int))).run Tryd.prog w = .ok (.slice (some ⟨w.heap.size, 0, none⟩) 0 n) (w.alloc (.cells (vfs (zeros n)) 5)) := by
  obtain ⟨i, hi, h1, h2, h3⟩ := info8
  have := run_make (P := Tryd.prog) w 22 5 i _ Tryd.underlying22 hi h3 .i64 .i64 0 (n : Int) (by omega) (by omega) (by rw [h2]; omega) (by omega)
  rw [this, h1]
  simp only [Int.toNat_natCast, Nat.mul_one, made8, Int.toNat_zero]
/-- the first halves, one behind the other, and room -/
theorem joinP_step {c k : Nat} {L : List (List F)} {xs : List F} (h : ∀ xs ∈ L, xs.length = c) (hx : L[k]? = some xs) :
    (L.take k).flatten ++ xs ++ (zeros ((L.length - k) * c)).drop xs.length = ofP c L (k + 1) ∧ (L.take k).flatten.length = k * c := by
  have hk : k < L.length := (List.getElem?_eq_some_iff.1 hx).1
  have hl : (L.take k).flatten.length = k * c := by
    rw [flat_len (c := c) (fun x hx => h x (List.mem_of_mem_take hx)), List.length_take, Nat.min_eq_left (by omega)]
  have hxl : xs.length = c := h xs (List.mem_of_getElem? hx)
  have hd : L[k] = xs := (List.getElem?_eq_some_iff.1 hx).2
  refine ⟨?_, hl⟩
  rw [zeros_drop, ofP, List.take_succ_eq_append_getElem hk, List.flatten_append, hd, hxl]
  simp only [List.flatten_cons, List.flatten_nil, List.append_nil]
  congr 2
  rw [show L.length - k = (L.length - (k + 1)) + 1 from by omega, Nat.succ_mul]; omega
theorem join_bad (k size : Int) (l cap : Nat) (a : Option Addr) (w : World) (E : Nat → Addr) (hE : ErrsE w E) (hs0 : -9223372036854775808 ≤ size) (hs1 : size ≤ 9223372036854775807) (h : halfE k size ≠ 0) :
    Calls Tryd.prog 37 #[.int .i64 k, .int .i64 size, .slice a l cap] w fun e w' => e = .returned (.tuple #[.slice none 0 0, evV E (halfE k size)]) ∧ Below w.heap.size w w' := by
  have HF : Hid _ := half_F k size w E hE hs0 hs1
  rw [halfV_no h] at HF
  obtain ⟨s, hs⟩ : ∃ s, evV E (halfE k size) = errAt s := ⟨E (halfE k size - 1), by unfold evV; rw [if_neg h]⟩
  rw [hs] at HF ⊢
  clear hs h hE
  unfold errAt at *
  go_enter Tryd.func37, Tryd.ntmps37
  go_wp2_with fail
  refine Calls.mono HF.out ?_
  rintro e w1 ⟨rfl, hb⟩
  have HB : Hid _ := hb
  clear hb
  go_wp2_with fail
  go_ret2
  exact ⟨rfl, HB.out⟩
set_option maxHeartbeats 1000000 in
theorem join_no (k n l cap : Nat) (a : Option Addr) (L : List (List F)) (w : World) (E : Nat → Addr) (hE : ErrsE w E) (hD : w.cell? ⟨1, 0, none⟩ = some (errAt (E 4))) (h1 : 1 ≤ k) (h2 : k ≤ 14) (h3 : 1 ≤ n) (h4 : n ≤ 128 * k)
    (hl : l = L.length) (hl9 : l ≤ 140737488355328) (hL : Rows8 w a L) (hno : ¬ FitP (2 * k) (cntN (2 * k) n) L) :
    Calls Tryd.prog 37 #[.int .i64 k, .int .i64 n, .slice a l cap] w fun e w' => e = .returned (.tuple #[.slice none 0 0, errAt (E 4)]) ∧ Below w.heap.size w w' := by
  have HF : Hid _ := half_F k n w E hE (by omega) (by omega)
  rw [halfV_ok h1 h2 h3 h4, halfE_ok h1 h2 h3 h4, evV_zero] at HF
  have HD : Hid _ := hD
  have HFI : Hid _ := fun u (hb : Below w.heap.size w u) => fit_F k (cntN (2 * k) n) l cap a L u h2 hl hl9 (rows8_below hL hb)
  have HNO : Hid _ := hno
  generalize cntN (2 * k) n = H at *
  clear hE hD hl hL hno h3 h4
  unfold errAt at *
  go_enter Tryd.func37, Tryd.ntmps37
  go_wp2_with fail
  refine Calls.mono HF.out ?_
  rintro e w1 ⟨rfl, hb⟩
  have HB : Hid _ := hb
  clear hb
  go_wp2_with fail
  refine Calls.mono (HFI.out _ HB.out) ?_
  rintro e w2 ⟨b, rfl, hbb, rfl⟩
  have hbf : b = false := by
    rcases hbb with ⟨_, h⟩ | ⟨h, _⟩
    · exact absurd h HNO.out
    · exact h
  subst hbf
  have c0 := cell_later HB.out HD.out
  have hg := World.block_lt_of_cell? _ _ c0
  simp at hg
  clear hbb
  go_wp2
  go_region
  go_wp2
  go_ret2
  exact ⟨rfl, HB.out.drew⟩
set_option maxHeartbeats 2000000 in
theorem join_ok (k n l cap : Nat) (a : Option Addr) (L : List (List F)) (w : World) (E : Nat → Addr) (hE : ErrsE w E) (h1 : 1 ≤ k) (h2 : k ≤ 14) (h3 : 1 ≤ n) (h4 : n ≤ 128 * k)
    (hl : l = L.length) (hL : Rows8 w a L) (hok : FitP (2 * k) (cntN (2 * k) n) L) :
    Calls Tryd.prog 37 #[.int .i64 k, .int .i64 n, .slice a l cap] w fun e w' => ∃ g ys, e = .returned (.tuple #[.slice (some ⟨g, 0, none⟩) n n, .nilIface]) ∧ w.heap.size ≤ g ∧ Hid (L.flatten.take n ++ ys = L.flatten) ∧
      (L.flatten.take n).length = n ∧ w'.heap[g]? = some (.cells (vfs L.flatten) 5 (0, 0)) ∧ Below w.heap.size w w' := by
  have HF : Hid _ := half_F k n w E hE (by omega) (by omega)
  rw [halfV_ok h1 h2 h3 h4, halfE_ok h1 h2 h3 h4, evV_zero] at HF
  obtain ⟨k1, k2, k3, k4⟩ := cnt_half h1 h2 h3 h4
  have hl9 : l ≤ 28 := by rw [hl, hok.1]; omega
  have HFI : Hid _ := fun u (hb : Below w.heap.size w u) => fit_F k (cntN (2 * k) n) l cap a L u h2 hl (by omega) (rows8_below hL hb)
  obtain ⟨c, hc⟩ : ∃ c, c = 2 * k := ⟨_, rfl⟩
  rw [← hc] at HF HFI k1 k2 k3 k4 hok
  generalize cntN c n = H at *
  have hcH : c * H ≤ 1792 := Nat.le_trans (Nat.mul_le_mul (show c ≤ 28 by omega) k2) (by decide)
  obtain ⟨m, hm⟩ : ∃ m, m = c * H := ⟨_, rfl⟩
  have HKC : Hid ((2 : Int) * k = c) := by show _ = _; omega
  have HCM : Hid ((c : Int) * H = m) := by show _ = _; rw [hm]; simp
  have HMM : Hid _ := hm
  rw [← hm] at hcH k3
  have HC : Hid _ := hok.1
  have HA : Hid _ := hok.2
  have hlc : l = c := by rw [hl, hok.1]
  subst hlc
  have HOK : Hid _ := hok
  have HR : Hid _ := hL
  have H8 : Hid _ := fun w => run_make8_cap m (by omega) w
  have HK3 : Hid _ := k3
  have HK4 : Hid _ := k4
  clear hE h3 h4 hc hm hl hL hok k4
  go_enter Tryd.func37, Tryd.ntmps37
  go_wp2_with fail
  refine Calls.mono HF.out ?_
  rintro e w1 ⟨rfl, hb⟩
  have HB : Hid _ := hb
  clear hb
  go_wp2_with fail
  refine Calls.mono (HFI.out _ HB.out) ?_
  rintro e w2 ⟨b, rfl, hbb, rfl⟩
  have hbf : b = true := by
    rcases hbb with ⟨h, _⟩ | ⟨_, h⟩
    · exact h
    · exact absurd HOK.out h
  subst hbf
  have m1 := H8.out w1
  have hkc := HKC.out
  have hcm := HCM.out
  clear hbb
  go_wp2
  have B1 : Hid _ := heap_alloc_last w1 (.cells (vfs (zeros m)) 5)
  have B3 : Hid _ := HB.out.alloc HB.out.size (.cells (vfs (zeros m)) 5)
  have z1 : w.heap.size ≤ w1.heap.size := HB.out.size
  clear m1 hkc hcm
  generalize hN : w1.heap.size = N at *
  generalize (w1.alloc (.cells (vfs (zeros m)) 5)) = W3 at *
  clear hN
  go_loopw [10, 35] (fun s t wr => ∃ j q : Nat, j ≤ l ∧ t = .int .i64 j ∧ s = .slice (some ⟨N, 0, none⟩) q m ∧ Hid (q = j * H) ∧ W3.grownBy wr (some N) ∧ wr.heap[N]? = some (.cells (vfs (ofP H L j)) 5 (0, 0))) (fun _ t _ => l - (intOf t).toNat)
  case atStart => exact ⟨0, 0, by omega, rfl, rfl, by show _ = _; omega, World.grownBy.refl _ _, by rw [ofP_zero, HC.out, ← HMM.out]; exact B1.out⟩
  case round =>
    obtain ⟨j, q, hj, rfl, rfl, HQ, hgb, hs⟩ := hrel
    have HG : Hid _ := hgb
    have HS : Hid _ := hs
    have hW : Below w.heap.size w wr := below_grown B3.out hgb (by omega)
    by_cases hlt : j < l
    · obtain ⟨b, off, rfl, hb, hcl⟩ := rows8_at (rows8_below HR.out hW) (show j < L.length by rw [HC.out]; exact hlt)
      obtain ⟨xs, hxs⟩ : ∃ xs, L[j]? = some xs := ⟨_, List.getElem?_eq_getElem (by rw [HC.out]; exact hlt)⟩
      obtain ⟨a', cap', c1, c2⟩ := hcl j xs hxs
      have hxl : xs.length = H := HA.out xs (List.mem_of_getElem? hxs)
      obtain ⟨e1, e2⟩ := joinP_step HA.out hxs
      have hqm : q + H ≤ m := by
        rw [HQ.out, HMM.out]
        have := Nat.mul_le_mul_right H (show j + 1 ≤ l from hlt)
        rw [Nat.succ_mul] at this; omega
      have hrun := run_append8_room (w := wr) (g := N) (n := q) (cap := m) (xs := (L.take j).flatten) (old := zeros ((L.length - j) * H)) (ys := xs) (a := a') (m := H) (c := cap') 22 hs (by rw [e2]; exact HQ.out) hqm hxl.symm (by
        rw [zeros_len, hxl]
        exact Nat.le_mul_of_pos_left H (by rw [HC.out]; omega)) c2 (fun e => by
          rcases c2 with e' | ⟨_, _, e', _⟩
          · rw [e'] at hxl; simp at hxl; omega
          · rw [e] at e'; cases e')
      rw [e1] at hrun
      rw [hxl] at c1
      have HRun : Hid _ := hrun
      have HT : Hid _ := setRow_heap _ _ _ (vfs (ofP H L (j + 1))) _ _ hs
      have HQ2 : Hid (q + H = (j + 1) * H) := by show _ = _; rw [Nat.succ_mul, HQ.out]
      clear hrun hgb hs hW hcl hxs c2 hxl e1 e2
      go_wp2_with (at_builtin; refine wpList_append_run rfl _ _ 22 rfl _ _ _ _ rfl rfl HRun.out ?_)
      exact ⟨⟨j + 1, q + H, by omega, by go_num, rfl, HQ2.out, grownBy_setRow HG.out _, HT.out⟩, by simp [intOf]; omega⟩
    · obtain rfl : j = l := by omega
      have hq : q = m := by rw [HQ.out, HMM.out]
      subst hq
      have hfl : ofP H L j = L.flatten := by
        have := ofP_done H L
        rw [HC.out] at this
        exact this
      rw [hfl] at HS
      have hlen : L.flatten.length = q := by rw [flat_len HA.out, HC.out, ← HQ.out]
      have HLE : Hid (n ≤ L.flatten.length) := by show n ≤ _; rw [hlen]; exact k3
      clear hgb hs hlen hfl
      go_wp2
      go_ret2
      exact ⟨N, L.flatten.drop n, rfl, by omega, List.take_append_drop _ _, by rw [List.length_take]; exact Nat.min_eq_left HLE.out, HS.out, hW⟩
end Go.Proofs.YtmlpijlcpeoeaaaDoor

/- What the document's own Image answers, of all legal numbers, halves and lists of halves in form; nothing that was there turns. -/
namespace Go.Proofs.YtmlpijlcpeoeaaaDoor
open Go.RowKit Gf
set_option linter.unusedVariables false
set_option maxRecDepth 20000
/-- the bytes of lists of bytes -/
def bytesD (L : List (List F)) : Nat → Nat → F := fun v b => at8 (L.getD v []) b
/-- a half made as far as byte b, whose sum stands at s -/
def imP (H : Nat) (f : Nat → F) (b : Nat) (s : F) : List F := rowF H (fun i => if i < b then f i else if i = b then s else 0)
theorem imP_len (H : Nat) (f : Nat → F) (b : Nat) (s : F) : (imP H f b s).length = H := rowF_len _ _
theorem imP_zero (H : Nat) (f : Nat → F) : zeros H = imP H f 0 0 := rowF_eq (zeros_len H) fun j hj => by rw [at8_zeros, if_neg (by omega)]; split <;> rfl
theorem imP_done (H : Nat) (f : Nat → F) (s : F) : imP H f H s = rowF H f := rowF_congr fun j hj => by rw [if_pos hj]
theorem imP_at {H b : Nat} {f : Nat → F} {s : F} (hb : b < H) : at8 (imP H f b s) b = s := by rw [imP, at8_rowF hb, if_neg (by omega), if_pos rfl]
theorem imP_set {H b : Nat} {f : Nat → F} {s t : F} (hb : b < H) : (imP H f b s).set b t = imP H f b t := by
  refine rowF_eq (by rw [List.length_set, imP_len]) fun j hj => ?_
  by_cases h : j = b
  · subst h
    rw [if_neg (by omega), if_pos rfl]
    simp [at8, imP_len, hj]
  · have e : at8 ((imP H f b s).set b t) j = at8 (imP H f b s) j := by simp [at8, Ne.symm h]
    rw [e, imP, at8_rowF hj, if_neg h, if_neg h]
theorem imP_next {H b : Nat} {f : Nat → F} : imP H f b (f b) = imP H f (b + 1) 0 := rowF_congr fun j hj => by
  by_cases h1 : j < b
  · rw [if_pos h1, if_pos (by omega)]
  · rw [if_neg h1]
    by_cases h2 : j = b
    · subst h2; rw [if_pos rfl, if_pos (by omega)]
    · rw [if_neg h2, if_neg (by omega)]; split <;> rfl
set_option maxHeartbeats 2000000 in
theorem rimage_data (k r h H l cap : Nat) (a : Option Addr) (L : List (List F)) (w : World) (hk : k ≤ 14) (hh : h < 2 * k) (hH : H ≤ 64) (hl : 2 * k ≤ L.length) (hll : l = L.length) (hL : ∀ xs ∈ L, xs.length = H) (hR : Rows8 w a L) :
    Calls Tryd.prog 23 #[.int .i64 k, .int .i64 r, .int .i64 h, .slice a l cap, .int .i64 H] w fun e w' => ∃ g, e = .returned (.slice (some ⟨g, 0, none⟩) H H) ∧ w.heap.size ≤ g ∧
      w'.heap[g]? = some (.cells (vfs (rowF H (bytesD L h))) 5 (0, 0)) ∧ Below w.heap.size w w' := by
  obtain ⟨b, off, rfl, hb, hcl⟩ := rows8_at hR (show h < L.length by omega)
  obtain ⟨xs, hxs⟩ : ∃ xs, L[h]? = some xs := ⟨_, List.getElem?_eq_getElem (by omega)⟩
  obtain ⟨a', cap', c1, c2⟩ := hcl h xs hxs
  have hxl : xs.length = H := hL xs (List.mem_of_getElem? hxs)
  have hlt : h < l := by omega
  have hmk := run_make8 H (by omega) w
  have hs : (h : Int) / 2 = ((h / 2 : Nat) : Int) := by omega
  have hs2 : ((h / 2 : Nat) : Int) < k := by omega
  have hcp := run_copy8 w.heap.size H H a' H cap' (zeros H) xs (w.alloc (.cells (vfs (zeros H)) 5)) 3 (zeros_len H).symm hxl.symm (by rw [zeros_len, hxl]; exact Nat.le_refl _) (heap_alloc_last w _) (row8_alloc c2 _)
  rw [World.setRow_alloc_new, zeros_drop, hxl, Nat.sub_self] at hcp
  have hfin : xs ++ zeros 0 = rowF H (bytesD L h) := by
    rw [show zeros 0 = [] from rfl, List.append_nil]
    refine rowF_eq hxl fun j hj => ?_
    simp [bytesD, List.getD_eq_getElem?_getD, hxs]
  rw [hfin] at hcp
  rw [hxl] at c1
  have c1' := cell?_alloc_old (.cells (vfs (zeros H)) 5) c1
  generalize h / 2 = s at hs hs2
  clear hl hll hL hR hcl hxs hxl hh c1 c2 hfin
  go_enter Tryd.func23, Tryd.ntmps23
  go_wp2
  go_ret
  exact ⟨w.heap.size, rfl, Nat.le_refl _, heap_alloc_last _ _, (Below.refl _ _).alloc (Nat.le_refl _) _⟩
set_option maxHeartbeats 8000000 in
theorem rimage_par (k r i p H l cap : Nat) (a : Option Addr) (L : List (List F)) (w : World) (h1 : 1 ≤ k) (h2 : 2 ≤ r) (h3 : k + r ≤ 16) (hi : i < r) (hp : p < 2) (hH : H ≤ 64) (hl : 2 * k ≤ L.length) (hll : l = L.length) (hl9 : l ≤ 140737488355328) (hL : ∀ xs ∈ L, xs.length = H) (hR : Rows8 w a L) :
    Calls Tryd.prog 23 #[.int .i64 k, .int .i64 r, .int .i64 (2 * (k + i) + p : Nat), .slice a l cap, .int .i64 H] w fun e w' => ∃ g, e = .returned (.slice (some ⟨g, 0, none⟩) H H) ∧ w.heap.size ≤ g ∧
      w'.heap[g]? = some (.cells (vfs (imgL k (carN (groupN k r)) H (bytesD L) (2 * (k + i) + p))) 5 (0, 0)) ∧ Below w.heap.size w w' := by
  obtain ⟨car, hcar⟩ : ∃ car, car = carN (groupN k r) := ⟨_, rfl⟩
  have HP7 : Hid _ := fun w => rparity_F k r w h1 h2 h3
  have HC7 : Hid _ := fun w j (hj : j ≤ 1000) => rcarrier_F k r j w h1 h2 h3 hj
  rw [← hcar] at HC7 ⊢
  have himg : imgL k car H (bytesD L) (2 * (k + i) + p) = rowF H (fun b => sumF (parS k i p car (bytesD L) b) k) := rowF_congr fun b _ => img_par hp
  rw [himg]
  obtain ⟨f, hf⟩ : ∃ f : Nat → F, f = fun b => sumF (parS k i p car (bytesD L) b) k := ⟨_, rfl⟩
  have HF : Hid _ := hf
  rw [← hf]
  clear hf
  obtain ⟨h, hh⟩ : ∃ h, h = 2 * (k + i) + p := ⟨_, rfl⟩
  rw [← hh]
  have hd : (h : Int) / 2 = ((k + i : Nat) : Int) := by omega
  have hm2 : (h : Int).tmod 2 = (p : Int) := by rw [show (2 : Int) = ((2 : Nat) : Int) from rfl, ← Int.ofNat_tmod]; omega
  have hme : (h : Int) % 2 = (p : Int) := by omega
  obtain ⟨s, hs⟩ : ∃ s, s = k + i := ⟨_, rfl⟩
  rw [← hs] at hd
  have hsk : ¬ (s : Int) < k := by omega
  have hs32 : s ≤ 32 := by omega
  have hp0 : (0 : Int) ≤ p := by omega
  have hmk := run_make8 H (by omega) w
  have HR : Hid _ := hR
  have HL : Hid _ := hL
  have HLL : Hid _ := hll
  have HSS : Hid _ := hs
  have hl32 : 2 * k ≤ l := by omega
  clear hcar himg hh hs hR hL hll hl
  go_enter Tryd.func23, Tryd.ntmps23
  go_wp2_with fail
  refine Calls.mono (HP7.out _) ?_
  rintro e w2 ⟨gP, m, rfl, hm, hg, hhm, hb2⟩
  have hA := holds_later (holds_new (holds_nil w) (vfs (zeros H)) 5) hb2
  have z0 := ltHeap (holds_at hA 0 rfl)
  have zg : gP < w2.heap.size := ltHeap hhm
  simp only [World.size_alloc] at hg
  have HM : Hid _ := hm
  have HB' : Hid (Below w.heap.size w w2) := ((Below.refl w.heap.size w).alloc (Nat.le_refl _) _).trans (hb2.mono (by simp))
  have hA := holds_new (holds_cons hA hhm) #[.int .i64 r, .int .i64 k, .slice (some ⟨gP, 0, none⟩) m m] 65
  have HA : Hid _ := hA
  have B4 : Hid (Below w.heap.size w (w2.alloc (.cells #[.int .i64 r, .int .i64 k, .slice (some ⟨gP, 0, none⟩) m m] 65))) := HB'.out.alloc (by omega) _
  have hgm : gP ≠ w.heap.size := by omega
  clear hm hhm hb2 hA HB' hmk
  go_wp2
  generalize hM : w2.heap.size = M at *
  generalize (w2.alloc (.cells #[.int .i64 r, .int .i64 k, .slice (some ⟨gP, 0, none⟩) m m] 65)) = W3 at *
  have hMw : M ≠ w.heap.size := by omega
  clear hM hd hm2 hme
  have B1 : Hid (W3.heap[w.heap.size]? = some (.cells (vfs (zeros H)) 5 (0, 0))) := holds_at HA.out 2 rfl
  have B2 : Hid (W3.heap[gP]? = some (.cells (vfs (parM k r)) 5 (0, 0))) := holds_at HA.out 1 rfl
  have B3 : Hid (W3.heap[M]? = some (.cells #[.int .i64 r, .int .i64 k, .slice (some ⟨gP, 0, none⟩) m m] 65 (0, 0))) := holds_at HA.out 0 rfl
  clear HA
  generalize hg0 : w.heap.size = g0 at *
  have HG0 : Hid _ := hg0
  clear hg0
  go_loopw [15] (fun t wr => ∃ b : Nat, b ≤ H ∧ t = .int .i64 b ∧ W3.grownBy wr (some g0) ∧ wr.heap[g0]? = some (.cells (vfs (imP H f b 0)) 5 (0, 0))) (fun t _ => H - (intOf t).toNat)
  case atStart => exact ⟨0, by omega, rfl, World.grownBy.refl _ _, by rw [← imP_zero]; exact B1.out⟩
  case round =>
    obtain ⟨b, hb, rfl, hgb, hs⟩ := hrel
    have HG : Hid _ := hgb
    have HS : Hid _ := hs
    clear hgb hs
    by_cases hltb : b < H
    · go_wp2
      generalize wr = wo at *
      go_loopw [16] (fun t wr => ∃ j : Nat, j ≤ k ∧ t = .int .i64 j ∧ W3.grownBy wr (some g0) ∧ wr.heap[g0]? = some (.cells (vfs (imP H f b (sumF (parS k i p car (bytesD L) b) j))) 5 (0, 0))) (fun t _ => k - (intOf t).toNat)
      case atStart => exact ⟨0, by omega, rfl, HG.out, HS.out⟩
      case round =>
        obtain ⟨j, hj, rfl, hgb, hs⟩ := hrel
        have HG2 : Hid _ := hgb
        have HS2 : Hid _ := hs
        by_cases hltj : j < k
        · have hBw : ∀ u, W3.grownBy u (some g0) → Below w.heap.size w u := fun u hu => below_grown (by rw [HG0.out]; exact B4.out) hu (by rw [HG0.out]; exact Nat.le_refl _)
          obtain ⟨v, hv⟩ : ∃ v, v = 2 * j + p := ⟨_, rfl⟩
          have hvl : v < L.length := by rw [← HLL.out]; omega
          obtain ⟨bL, off, rfl, hbL, hcl⟩ := rows8_at HR.out hvl
          obtain ⟨xs, hxs⟩ : ∃ xs, L[v]? = some xs := ⟨_, List.getElem?_eq_getElem hvl⟩
          obtain ⟨a', cap', e1, e2⟩ := hcl v xs hxs
          have hxl : xs.length = H := HL.out xs (List.mem_of_getElem? hxs)
          obtain ⟨b', off', rfl, hb', he2⟩ := row8_cell e2 (show b < xs.length by rw [hxl]; exact hltb)
          have hDv : bytesD L v b = at8 xs b := by simp [bytesD, List.getD_eq_getElem?_getD, hxs]
          obtain ⟨q, hq⟩ : ∃ q, q = i * k := ⟨_, rfl⟩
          obtain ⟨z, hz⟩ : ∃ z, z = q + j := ⟨_, rfl⟩
          have hzm : z < m := by rw [hz, hq, HM.out]; exact place_lt hi hltj
          have hm9 : m ≤ 1024 := by
            rw [HM.out]; exact Nat.le_trans (Nat.mul_le_mul (show r ≤ 16 by omega) (show k ≤ 16 by omega)) (by decide)
          have C1 : ∀ u, W3.grownBy u (some g0) → u.cell? ⟨M, 2, none⟩ = some (.slice (some ⟨gP, 0, none⟩) m m) := fun u hu => cellAt (grown_block hu B3.out (by omega)) 2 _ rfl
          have C2 : ∀ u, W3.grownBy u (some g0) → u.cell? ⟨gP, z, none⟩ = some (.int .u8 ((cyN (k + i) j).toNat : Int)) := fun u hu => by
            have := cellAt (grown_block hu B2.out (by omega)) z _ (vfs_get _ _ (by rw [parM_len, ← HM.out]; exact hzm))
            rw [this, hz, hq]
            congr 3
            exact congrArg UInt8.toNat (at8_grid (f := fun i j => cyN (k + i) j) hi hltj)
          have C3 : ∀ u, W3.grownBy u (some g0) → u.cell? ⟨bL, off + v, none⟩ = some (.slice (some ⟨b', off', none⟩) H cap') := fun u hu => by rw [← hxl]; exact cell_later (hBw u hu) e1
          have C4 : ∀ u, W3.grownBy u (some g0) → u.cell? ⟨b', off' + b, none⟩ = some (.int .u8 ((bytesD L v b).toNat : Int)) := fun u hu => by rw [hDv]; exact cell_later (hBw u hu) (he2 b (by rw [hxl]; exact hltb))
          have t1 : (s : Int) - (k : Int) = (i : Int) := by have := HSS.out; omega
          have t2 : (i : Int) * (k : Int) = (q : Int) := by rw [hq]; simp
          have t3 : (q : Int) + (j : Int) = (z : Int) := by omega
          have t4 : (2 : Int) * (j : Int) + (p : Int) = (v : Int) := by omega
          have w1 : IntKind.i64.wrap (i : Int) = (i : Int) := by rw [IntKind.wrap_i64]; omega
          have w2' : IntKind.i64.wrap (q : Int) = (q : Int) := by rw [IntKind.wrap_i64]; omega
          have w3 : IntKind.i64.wrap (z : Int) = (z : Int) := by rw [IntKind.wrap_i64]; omega
          have w4 : IntKind.i64.wrap (2 * (j : Int)) = 2 * (j : Int) := by rw [IntKind.wrap_i64]; omega
          have w5 : IntKind.i64.wrap (v : Int) = (v : Int) := by rw [IntKind.wrap_i64]; omega
          have hvl' : v < l := by rw [HLL.out]; exact hvl
          obtain ⟨sj, hsj⟩ : ∃ sj, sj = sumF (parS k i p car (bytesD L) b) j := ⟨_, rfl⟩
          rw [← hsj] at hs
          have HSJ : Hid _ := hsj
          have c0 : wr.drew.cell? ⟨g0, b, none⟩ = some (.int .u8 (sj.toNat : Int)) := by
            rw [cellAt (w := wr.drew) hs b _ (vfs_get _ _ (by rw [imP_len]; exact hltb)), imP_at hltb]
          have d0 : wr.drew.frozen? ⟨g0, b, none⟩ = false := frozen_of_row _ _ _ _ _ (show wr.drew.heap[g0]? = _ from hs)
          have HT : Hid ((wr.drew.setCell ⟨g0, b, none⟩ (.int .u8 ((ga sj (gm (cyN (k + i) j) (bytesD L v b))).toNat : Int))).heap[g0]? = some (.cells (vfs (imP H f b (ga sj (gm (cyN (k + i) j) (bytesD L v b))))) 5 (0, 0))) := by
            show _ = _
            rw [heap_setCell_same _ _ _ _ _ _ (show wr.drew.heap[g0]? = _ from hs), vfs_set, imP_set hltb]
          have ex := xor_val sj (gm (cyN (k + i) j) (bytesD L v b))
          have HV : Hid _ := hv
          have hS0 : W3.grownBy wr.drew (some g0) := grownBy_drew hgb
          clear hgb hs hcl hxs e1 e2 he2 hDv hq hz hv hsj hBw
          go_upto_region 13 with fail
          go_cut [] (fun wx => W3.grownBy wx (some g0) ∧ wx.heap[g0]? = some (.cells (vfs (imP H f b (ga sj (gm (cyN (k + i) j) (bytesD L v b))))) 5 (0, 0)))
          case first =>
            refine wp_region_noPanic ?_
            refine wp_region_held_drew (S := fun u => W3.grownBy u (some g0)) (by kernel_rfl) ?_ (fun hHeld => ?_)
            · exact hS0
            refine wpAnyH_take (i := 0) (oi := { dst := some 46, op := Op.move (Operand.tmp 11), type := 22, pos := "ref.go:26", after := #[], guard := none }) (v := ?_) rfl (by kernel_rfl) (by kernel_rfl) (by kernel_rfl) (fun _ _ _ h => h) (Or.inl ⟨by rfl, ?_⟩) hHeld ?_
            rotate_left
            · intro u hSw
              go_simp
              try with_reducible rfl
            try simp only [Act.put, List.setIfInBounds_toArray, List.set_cons_zero, List.set_cons_succ]
            refine wpAnyH_take (i := 1) (oi := { dst := some 47, op := Op.move (Operand.tmp 15), type := 3, pos := "ref.go:26", after := #[], guard := none }) (v := ?_) rfl (by kernel_rfl) (by kernel_rfl) (by kernel_rfl) (fun _ _ _ h => h) (Or.inl ⟨by rfl, ?_⟩) hHeld ?_
            rotate_left
            · intro u hSw
              go_simp
              try with_reducible rfl
            try simp only [Act.put, List.setIfInBounds_toArray, List.set_cons_zero, List.set_cons_succ]
            refine wpAnyH_take (i := 2) (oi := { dst := some 48, op := Op.indexAddr 22 (Operand.tmp 46) (Operand.tmp 47), type := 0, pos := "ref.go:26", after := #[{ on := 0, ground := Ground.data }, { on := 1, ground := Ground.data }], guard := none }) (v := ?_) rfl (by kernel_rfl) (by kernel_rfl) (by kernel_rfl) (fun _ _ _ h => h) (Or.inl ⟨by rfl, ?_⟩) hHeld ?_
            rotate_left
            · intro u hSw
              go_simp
              try with_reducible rfl
            try simp only [Act.put, List.setIfInBounds_toArray, List.set_cons_zero, List.set_cons_succ]
            refine wpAnyH_take (i := 4) (oi := { dst := some 50, op := Op.fieldAddr 65 (Operand.tmp 14) 2, type := 0, pos := "ref.go:26", after := #[], guard := none }) (v := ?_) rfl (by kernel_rfl) (by kernel_rfl) (by kernel_rfl) (fun _ _ _ h => h) (Or.inl ⟨by rfl, ?_⟩) hHeld ?_
            rotate_left
            · intro u hSw
              go_simp
              try with_reducible rfl
            try simp only [Act.put, List.setIfInBounds_toArray, List.set_cons_zero, List.set_cons_succ]
            refine wpAnyH_take (i := 5) (oi := { dst := some 51, op := Op.load 22 (Operand.tmp 50), type := 22, pos := "ref.go:26", after := #[{ on := 4, ground := Ground.data }], guard := none }) (v := ?_) rfl (by kernel_rfl) (by kernel_rfl) (by kernel_rfl) (fun _ _ _ h => h) (Or.inl ⟨by rfl, ?_⟩) hHeld ?_
            rotate_left
            · intro u hSw
              have q0 := C1 u hSw
              go_simp
              try with_reducible rfl
            try simp only [Act.put, List.setIfInBounds_toArray, List.set_cons_zero, List.set_cons_succ]
            refine wpAnyH_take (i := 6) (oi := { dst := some 52, op := Op.move (Operand.tmp 12), type := 3, pos := "ref.go:26", after := #[], guard := none }) (v := ?_) rfl (by kernel_rfl) (by kernel_rfl) (by kernel_rfl) (fun _ _ _ h => h) (Or.inl ⟨by rfl, ?_⟩) hHeld ?_
            rotate_left
            · intro u hSw
              go_simp
              try with_reducible rfl
            try simp only [Act.put, List.setIfInBounds_toArray, List.set_cons_zero, List.set_cons_succ]
            refine wpAnyH_take (i := 7) (oi := { dst := some 53, op := Op.move (Operand.tmp 0), type := 3, pos := "ref.go:26", after := #[], guard := none }) (v := ?_) rfl (by kernel_rfl) (by kernel_rfl) (by kernel_rfl) (fun _ _ _ h => h) (Or.inl ⟨by rfl, ?_⟩) hHeld ?_
            rotate_left
            · intro u hSw
              go_simp
              try with_reducible rfl
            try simp only [Act.put, List.setIfInBounds_toArray, List.set_cons_zero, List.set_cons_succ]
            refine wpAnyH_take (i := 8) (oi := { dst := some 54, op := Op.binOp BinOp.sub 3 (Operand.tmp 52) (Operand.tmp 53) 3, type := 3, pos := "ref.go:26", after := #[{ on := 6, ground := Ground.data }, { on := 7, ground := Ground.data }], guard := none }) (v := ?_) rfl (by kernel_rfl) (by kernel_rfl) (by kernel_rfl) (fun _ _ _ h => h) (Or.inl ⟨by rfl, ?_⟩) hHeld ?_
            rotate_left
            · intro u hSw
              go_simp
              try with_reducible rfl
            try simp only [Act.put, List.setIfInBounds_toArray, List.set_cons_zero, List.set_cons_succ]
            refine wpAnyH_take (i := 9) (oi := { dst := some 55, op := Op.move (Operand.tmp 0), type := 3, pos := "ref.go:26", after := #[], guard := none }) (v := ?_) rfl (by kernel_rfl) (by kernel_rfl) (by kernel_rfl) (fun _ _ _ h => h) (Or.inl ⟨by rfl, ?_⟩) hHeld ?_
            rotate_left
            · intro u hSw
              go_simp
              try with_reducible rfl
            try simp only [Act.put, List.setIfInBounds_toArray, List.set_cons_zero, List.set_cons_succ]
            refine wpAnyH_take (i := 10) (oi := { dst := some 56, op := Op.binOp BinOp.mul 3 (Operand.tmp 54) (Operand.tmp 55) 3, type := 3, pos := "ref.go:26", after := #[{ on := 8, ground := Ground.data }, { on := 9, ground := Ground.data }], guard := none }) (v := ?_) rfl (by kernel_rfl) (by kernel_rfl) (by kernel_rfl) (fun _ _ _ h => h) (Or.inl ⟨by rfl, ?_⟩) hHeld ?_
            rotate_left
            · intro u hSw
              go_simp
              try with_reducible rfl
            try simp only [Act.put, List.setIfInBounds_toArray, List.set_cons_zero, List.set_cons_succ]
            refine wpAnyH_take (i := 11) (oi := { dst := some 57, op := Op.move (Operand.tmp 16), type := 3, pos := "ref.go:26", after := #[], guard := none }) (v := ?_) rfl (by kernel_rfl) (by kernel_rfl) (by kernel_rfl) (fun _ _ _ h => h) (Or.inl ⟨by rfl, ?_⟩) hHeld ?_
            rotate_left
            · intro u hSw
              go_simp
              try with_reducible rfl
            try simp only [Act.put, List.setIfInBounds_toArray, List.set_cons_zero, List.set_cons_succ]
            refine wpAnyH_take (i := 12) (oi := { dst := some 58, op := Op.binOp BinOp.add 3 (Operand.tmp 56) (Operand.tmp 57) 3, type := 3, pos := "ref.go:26", after := #[{ on := 10, ground := Ground.data }, { on := 11, ground := Ground.data }], guard := none }) (v := ?_) rfl (by kernel_rfl) (by kernel_rfl) (by kernel_rfl) (fun _ _ _ h => h) (Or.inl ⟨by rfl, ?_⟩) hHeld ?_
            rotate_left
            · intro u hSw
              go_simp
              try with_reducible rfl
            try simp only [Act.put, List.setIfInBounds_toArray, List.set_cons_zero, List.set_cons_succ]
            refine wpAnyH_take (i := 13) (oi := { dst := some 59, op := Op.indexAddr 22 (Operand.tmp 51) (Operand.tmp 58), type := 0, pos := "ref.go:26", after := #[{ on := 5, ground := Ground.data }, { on := 12, ground := Ground.data }], guard := none }) (v := ?_) rfl (by kernel_rfl) (by kernel_rfl) (by kernel_rfl) (fun _ _ _ h => h) (Or.inl ⟨by rfl, ?_⟩) hHeld ?_
            rotate_left
            · intro u hSw
              go_simp
              try with_reducible rfl
            try simp only [Act.put, List.setIfInBounds_toArray, List.set_cons_zero, List.set_cons_succ]
            refine wpAnyH_take (i := 14) (oi := { dst := some 60, op := Op.load 5 (Operand.tmp 59), type := 5, pos := "ref.go:26", after := #[{ on := 13, ground := Ground.data }], guard := none }) (v := ?_) rfl (by kernel_rfl) (by kernel_rfl) (by kernel_rfl) (fun _ _ _ h => h) (Or.inl ⟨by rfl, ?_⟩) hHeld ?_
            rotate_left
            · intro u hSw
              have q0 := C2 u hSw
              go_simp
              try with_reducible rfl
            try simp only [Act.put, List.setIfInBounds_toArray, List.set_cons_zero, List.set_cons_succ]
            refine wpAnyH_take (i := 15) (oi := { dst := some 61, op := Op.move (Operand.tmp 3), type := 25, pos := "ref.go:26", after := #[], guard := none }) (v := ?_) rfl (by kernel_rfl) (by kernel_rfl) (by kernel_rfl) (fun _ _ _ h => h) (Or.inl ⟨by rfl, ?_⟩) hHeld ?_
            rotate_left
            · intro u hSw
              go_simp
              try with_reducible rfl
            try simp only [Act.put, List.setIfInBounds_toArray, List.set_cons_zero, List.set_cons_succ]
            refine wpAnyH_take (i := 16) (oi := { dst := some 62, op := Op.move (Operand.tmp 16), type := 3, pos := "ref.go:26", after := #[], guard := none }) (v := ?_) rfl (by kernel_rfl) (by kernel_rfl) (by kernel_rfl) (fun _ _ _ h => h) (Or.inl ⟨by rfl, ?_⟩) hHeld ?_
            rotate_left
            · intro u hSw
              go_simp
              try with_reducible rfl
            try simp only [Act.put, List.setIfInBounds_toArray, List.set_cons_zero, List.set_cons_succ]
            refine wpAnyH_take (i := 17) (oi := { dst := some 63, op := Op.binOp BinOp.mul 3 (Operand.const (Value.int IntKind.i64 2)) (Operand.tmp 62) 3, type := 3, pos := "ref.go:26", after := #[{ on := 16, ground := Ground.data }], guard := none }) (v := ?_) rfl (by kernel_rfl) (by kernel_rfl) (by kernel_rfl) (fun _ _ _ h => h) (Or.inl ⟨by rfl, ?_⟩) hHeld ?_
            rotate_left
            · intro u hSw
              go_simp
              try with_reducible rfl
            try simp only [Act.put, List.setIfInBounds_toArray, List.set_cons_zero, List.set_cons_succ]
            refine wpAnyH_take (i := 18) (oi := { dst := some 64, op := Op.move (Operand.tmp 13), type := 3, pos := "ref.go:26", after := #[], guard := none }) (v := ?_) rfl (by kernel_rfl) (by kernel_rfl) (by kernel_rfl) (fun _ _ _ h => h) (Or.inl ⟨by rfl, ?_⟩) hHeld ?_
            rotate_left
            · intro u hSw
              go_simp
              try with_reducible rfl
            try simp only [Act.put, List.setIfInBounds_toArray, List.set_cons_zero, List.set_cons_succ]
            refine wpAnyH_take (i := 19) (oi := { dst := some 65, op := Op.binOp BinOp.add 3 (Operand.tmp 63) (Operand.tmp 64) 3, type := 3, pos := "ref.go:26", after := #[{ on := 17, ground := Ground.data }, { on := 18, ground := Ground.data }], guard := none }) (v := ?_) rfl (by kernel_rfl) (by kernel_rfl) (by kernel_rfl) (fun _ _ _ h => h) (Or.inl ⟨by rfl, ?_⟩) hHeld ?_
            rotate_left
            · intro u hSw
              go_simp
              try with_reducible rfl
            try simp only [Act.put, List.setIfInBounds_toArray, List.set_cons_zero, List.set_cons_succ]
            refine wpAnyH_take (i := 20) (oi := { dst := some 66, op := Op.indexAddr 25 (Operand.tmp 61) (Operand.tmp 65), type := 0, pos := "ref.go:26", after := #[{ on := 15, ground := Ground.data }, { on := 19, ground := Ground.data }], guard := none }) (v := ?_) rfl (by kernel_rfl) (by kernel_rfl) (by kernel_rfl) (fun _ _ _ h => h) (Or.inl ⟨by rfl, ?_⟩) hHeld ?_
            rotate_left
            · intro u hSw
              go_simp
              try with_reducible rfl
            try simp only [Act.put, List.setIfInBounds_toArray, List.set_cons_zero, List.set_cons_succ]
            refine wpAnyH_take (i := 21) (oi := { dst := some 67, op := Op.load 22 (Operand.tmp 66), type := 22, pos := "ref.go:26", after := #[{ on := 20, ground := Ground.data }], guard := none }) (v := ?_) rfl (by kernel_rfl) (by kernel_rfl) (by kernel_rfl) (fun _ _ _ h => h) (Or.inl ⟨by rfl, ?_⟩) hHeld ?_
            rotate_left
            · intro u hSw
              have q0 := C3 u hSw
              go_simp
              try with_reducible rfl
            try simp only [Act.put, List.setIfInBounds_toArray, List.set_cons_zero, List.set_cons_succ]
            refine wpAnyH_take (i := 22) (oi := { dst := some 68, op := Op.move (Operand.tmp 15), type := 3, pos := "ref.go:26", after := #[], guard := none }) (v := ?_) rfl (by kernel_rfl) (by kernel_rfl) (by kernel_rfl) (fun _ _ _ h => h) (Or.inl ⟨by rfl, ?_⟩) hHeld ?_
            rotate_left
            · intro u hSw
              go_simp
              try with_reducible rfl
            try simp only [Act.put, List.setIfInBounds_toArray, List.set_cons_zero, List.set_cons_succ]
            refine wpAnyH_take (i := 23) (oi := { dst := some 69, op := Op.indexAddr 22 (Operand.tmp 67) (Operand.tmp 68), type := 0, pos := "ref.go:26", after := #[{ on := 21, ground := Ground.data }, { on := 22, ground := Ground.data }], guard := none }) (v := ?_) rfl (by kernel_rfl) (by kernel_rfl) (by kernel_rfl) (fun _ _ _ h => h) (Or.inl ⟨by rfl, ?_⟩) hHeld ?_
            rotate_left
            · intro u hSw
              go_simp
              try with_reducible rfl
            try simp only [Act.put, List.setIfInBounds_toArray, List.set_cons_zero, List.set_cons_succ]
            refine wpAnyH_take (i := 24) (oi := { dst := some 70, op := Op.load 5 (Operand.tmp 69), type := 5, pos := "ref.go:26", after := #[{ on := 23, ground := Ground.data }], guard := none }) (v := ?_) rfl (by kernel_rfl) (by kernel_rfl) (by kernel_rfl) (fun _ _ _ h => h) (Or.inl ⟨by rfl, ?_⟩) hHeld ?_
            rotate_left
            · intro u hSw
              have q0 := C4 u hSw
              go_simp
              try with_reducible rfl
            try simp only [Act.put, List.setIfInBounds_toArray, List.set_cons_zero, List.set_cons_succ]
            refine wpAnyH_ready (rs := [3, 25]) (by kernel_rfl) (by simp) ?_
            refine (AllReadyH.cons (o := { dst := some 49, op := Op.load 5 (Operand.tmp 48), type := 5, pos := "ref.go:26", after := #[{ on := 2, ground := Ground.data }], guard := none }) rfl (fun K hK => ?_) (AllReadyH.cons (o := { dst := some 71, op := Op.call { callee := Callee.value (Operand.func 44), args := #[Operand.tmp 60, Operand.tmp 70], argTypes := #[5, 5] }, type := 5, pos := "ref.go:26", after := #[{ on := 14, ground := Ground.data }, { on := 24, ground := Ground.data }], guard := none }) rfl (fun K hK => ?_) AllReadyH.nil))
            · go_simp
              refine hK.out _ _ ?_ (fun hHeld => ?_)
              · exact hS0
              clear hK K
              try simp only [Act.put, List.setIfInBounds_toArray, List.set_cons_zero, List.set_cons_succ]
              refine wpAnyH_ready (rs := [25]) (by kernel_rfl) (by simp) ?_
              refine (AllReadyH.cons (o := { dst := some 71, op := Op.call { callee := Callee.value (Operand.func 44), args := #[Operand.tmp 60, Operand.tmp 70], argTypes := #[5, 5] }, type := 5, pos := "ref.go:26", after := #[{ on := 14, ground := Ground.data }, { on := 24, ground := Ground.data }], guard := none }) rfl (fun K hK => ?_) AllReadyH.nil)
              go_simp
              refine Calls.mono (rmul_F (cyN (k + i) j) (bytesD L v b) _) ?_
              rintro e wi ⟨rfl, rfl⟩
              go_wp2_with fail
              refine hK.out _ _ ?_ (fun hHeld => ?_)
              · exact hS0
              clear hK K
              try simp only [Act.put, List.setIfInBounds_toArray, List.set_cons_zero, List.set_cons_succ]
              refine wpAnyH_take (i := 26) (oi := { dst := some 72, op := Op.binOp BinOp.xor 5 (Operand.tmp 49) (Operand.tmp 71) 5, type := 5, pos := "ref.go:26", after := #[{ on := 3, ground := Ground.data }, { on := 25, ground := Ground.data }], guard := none }) (v := ?_) rfl (by kernel_rfl) (by kernel_rfl) (by kernel_rfl) (fun _ _ _ h => h) (Or.inl ⟨by rfl, ?_⟩) hHeld ?_
              rotate_left
              · intro u hSw
                go_simp
                try with_reducible rfl
              try simp only [Act.put, List.setIfInBounds_toArray, List.set_cons_zero, List.set_cons_succ]
              refine wpAnyH_take (i := 27) (oi := { dst := some 73, op := Op.indexAddr 22 (Operand.tmp 46) (Operand.tmp 47), type := 0, pos := "ref.go:26", after := #[{ on := 0, ground := Ground.data }, { on := 1, ground := Ground.data }, { on := 0, ground := Ground.phase }, { on := 1, ground := Ground.phase }, { on := 2, ground := Ground.phase }, { on := 3, ground := Ground.phase }, { on := 4, ground := Ground.phase }, { on := 5, ground := Ground.phase }, { on := 6, ground := Ground.phase }, { on := 7, ground := Ground.phase }, { on := 8, ground := Ground.phase }, { on := 9, ground := Ground.phase }, { on := 10, ground := Ground.phase }, { on := 11, ground := Ground.phase }, { on := 12, ground := Ground.phase }, { on := 13, ground := Ground.phase }, { on := 14, ground := Ground.phase }, { on := 15, ground := Ground.phase }, { on := 16, ground := Ground.phase }, { on := 17, ground := Ground.phase }, { on := 18, ground := Ground.phase }, { on := 19, ground := Ground.phase }, { on := 20, ground := Ground.phase }, { on := 21, ground := Ground.phase }, { on := 22, ground := Ground.phase }, { on := 23, ground := Ground.phase }, { on := 24, ground := Ground.phase }, { on := 25, ground := Ground.phase }, { on := 26, ground := Ground.phase }], guard := none }) (v := ?_) rfl (by kernel_rfl) (by kernel_rfl) (by kernel_rfl) (fun _ _ _ h => h) (Or.inl ⟨by rfl, ?_⟩) hHeld ?_
              rotate_left
              · intro u hSw
                go_simp
                try with_reducible rfl
              try simp only [Act.put, List.setIfInBounds_toArray, List.set_cons_zero, List.set_cons_succ]
              refine wpAnyH_ready (rs := [28]) (by kernel_rfl) (by simp) ?_
              refine (AllReadyH.cons (o := { dst := none, op := Op.store 5 (Operand.tmp 73) (Operand.tmp 72), type := 0, pos := "ref.go:26", after := #[{ on := 27, ground := Ground.data }, { on := 26, ground := Ground.data }, { on := 25, ground := Ground.chain }, { on := 0, ground := Ground.phase }, { on := 1, ground := Ground.phase }, { on := 2, ground := Ground.phase }, { on := 3, ground := Ground.phase }, { on := 4, ground := Ground.phase }, { on := 5, ground := Ground.phase }, { on := 6, ground := Ground.phase }, { on := 7, ground := Ground.phase }, { on := 8, ground := Ground.phase }, { on := 9, ground := Ground.phase }, { on := 10, ground := Ground.phase }, { on := 11, ground := Ground.phase }, { on := 12, ground := Ground.phase }, { on := 13, ground := Ground.phase }, { on := 14, ground := Ground.phase }, { on := 15, ground := Ground.phase }, { on := 16, ground := Ground.phase }, { on := 17, ground := Ground.phase }, { on := 18, ground := Ground.phase }, { on := 19, ground := Ground.phase }, { on := 20, ground := Ground.phase }, { on := 21, ground := Ground.phase }, { on := 22, ground := Ground.phase }, { on := 23, ground := Ground.phase }, { on := 24, ground := Ground.phase }, { on := 25, ground := Ground.phase }, { on := 26, ground := Ground.phase }], guard := none }) rfl (fun K hK => ?_) AllReadyH.nil)
              go_simp
              refine hK.out _ _ ?_ (fun hHeld => ?_)
              · exact grownBy_setCell hS0 _
              clear hK K
              try simp only [Act.put, List.setIfInBounds_toArray, List.set_cons_zero, List.set_cons_succ]
              refine wpAnyH_done (by kernel_rfl) ?_ _
              refine NoPanic.normal ?_
              go_wp2
              go_meet
              exact ⟨grownBy_setCell hS0 _, HT.out⟩
            · go_simp
              refine Calls.mono (rmul_F (cyN (k + i) j) (bytesD L v b) _) ?_
              rintro e wi ⟨rfl, rfl⟩
              go_wp2_with fail
              refine hK.out _ _ ?_ (fun hHeld => ?_)
              · exact hS0
              clear hK K
              try simp only [Act.put, List.setIfInBounds_toArray, List.set_cons_zero, List.set_cons_succ]
              refine wpAnyH_ready (rs := [3]) (by kernel_rfl) (by simp) ?_
              refine (AllReadyH.cons (o := { dst := some 49, op := Op.load 5 (Operand.tmp 48), type := 5, pos := "ref.go:26", after := #[{ on := 2, ground := Ground.data }], guard := none }) rfl (fun K hK => ?_) AllReadyH.nil)
              go_simp
              refine hK.out _ _ ?_ (fun hHeld => ?_)
              · exact hS0
              clear hK K
              try simp only [Act.put, List.setIfInBounds_toArray, List.set_cons_zero, List.set_cons_succ]
              refine wpAnyH_take (i := 26) (oi := { dst := some 72, op := Op.binOp BinOp.xor 5 (Operand.tmp 49) (Operand.tmp 71) 5, type := 5, pos := "ref.go:26", after := #[{ on := 3, ground := Ground.data }, { on := 25, ground := Ground.data }], guard := none }) (v := ?_) rfl (by kernel_rfl) (by kernel_rfl) (by kernel_rfl) (fun _ _ _ h => h) (Or.inl ⟨by rfl, ?_⟩) hHeld ?_
              rotate_left
              · intro u hSw
                go_simp
                try with_reducible rfl
              try simp only [Act.put, List.setIfInBounds_toArray, List.set_cons_zero, List.set_cons_succ]
              refine wpAnyH_take (i := 27) (oi := { dst := some 73, op := Op.indexAddr 22 (Operand.tmp 46) (Operand.tmp 47), type := 0, pos := "ref.go:26", after := #[{ on := 0, ground := Ground.data }, { on := 1, ground := Ground.data }, { on := 0, ground := Ground.phase }, { on := 1, ground := Ground.phase }, { on := 2, ground := Ground.phase }, { on := 3, ground := Ground.phase }, { on := 4, ground := Ground.phase }, { on := 5, ground := Ground.phase }, { on := 6, ground := Ground.phase }, { on := 7, ground := Ground.phase }, { on := 8, ground := Ground.phase }, { on := 9, ground := Ground.phase }, { on := 10, ground := Ground.phase }, { on := 11, ground := Ground.phase }, { on := 12, ground := Ground.phase }, { on := 13, ground := Ground.phase }, { on := 14, ground := Ground.phase }, { on := 15, ground := Ground.phase }, { on := 16, ground := Ground.phase }, { on := 17, ground := Ground.phase }, { on := 18, ground := Ground.phase }, { on := 19, ground := Ground.phase }, { on := 20, ground := Ground.phase }, { on := 21, ground := Ground.phase }, { on := 22, ground := Ground.phase }, { on := 23, ground := Ground.phase }, { on := 24, ground := Ground.phase }, { on := 25, ground := Ground.phase }, { on := 26, ground := Ground.phase }], guard := none }) (v := ?_) rfl (by kernel_rfl) (by kernel_rfl) (by kernel_rfl) (fun _ _ _ h => h) (Or.inl ⟨by rfl, ?_⟩) hHeld ?_
              rotate_left
              · intro u hSw
                go_simp
                try with_reducible rfl
              try simp only [Act.put, List.setIfInBounds_toArray, List.set_cons_zero, List.set_cons_succ]
              refine wpAnyH_ready (rs := [28]) (by kernel_rfl) (by simp) ?_
              refine (AllReadyH.cons (o := { dst := none, op := Op.store 5 (Operand.tmp 73) (Operand.tmp 72), type := 0, pos := "ref.go:26", after := #[{ on := 27, ground := Ground.data }, { on := 26, ground := Ground.data }, { on := 25, ground := Ground.chain }, { on := 0, ground := Ground.phase }, { on := 1, ground := Ground.phase }, { on := 2, ground := Ground.phase }, { on := 3, ground := Ground.phase }, { on := 4, ground := Ground.phase }, { on := 5, ground := Ground.phase }, { on := 6, ground := Ground.phase }, { on := 7, ground := Ground.phase }, { on := 8, ground := Ground.phase }, { on := 9, ground := Ground.phase }, { on := 10, ground := Ground.phase }, { on := 11, ground := Ground.phase }, { on := 12, ground := Ground.phase }, { on := 13, ground := Ground.phase }, { on := 14, ground := Ground.phase }, { on := 15, ground := Ground.phase }, { on := 16, ground := Ground.phase }, { on := 17, ground := Ground.phase }, { on := 18, ground := Ground.phase }, { on := 19, ground := Ground.phase }, { on := 20, ground := Ground.phase }, { on := 21, ground := Ground.phase }, { on := 22, ground := Ground.phase }, { on := 23, ground := Ground.phase }, { on := 24, ground := Ground.phase }, { on := 25, ground := Ground.phase }, { on := 26, ground := Ground.phase }], guard := none }) rfl (fun K hK => ?_) AllReadyH.nil)
              go_simp
              refine hK.out _ _ ?_ (fun hHeld => ?_)
              · exact grownBy_setCell hS0 _
              clear hK K
              try simp only [Act.put, List.setIfInBounds_toArray, List.set_cons_zero, List.set_cons_succ]
              refine wpAnyH_done (by kernel_rfl) ?_ _
              refine NoPanic.normal ?_
              go_wp2
              go_meet
              exact ⟨grownBy_setCell hS0 _, HT.out⟩
          case rest =>
          obtain ⟨hc1, hc2⟩ := hcut
          generalize wc = wa at *
          have HGA : Hid _ := hc1
          have HSA : Hid _ := hc2
          have hBA : Below w.heap.size w wa := below_grown (by rw [HG0.out]; exact B4.out) hc1 (by rw [HG0.out]; exact Nat.le_refl _)
          have HBA : Hid _ := hBA
          obtain ⟨m1, hm1⟩ : ∃ m1, m1 = gm (cyN (k + i) j) (bytesD L v b) := ⟨_, rfl⟩
          rw [← hm1] at HSA
          have HM1 : Hid _ := hm1
          clear hc1 hc2 hBA hm1 c0 d0 ex hS0 HT C1 C2 C3 C4 t2 t3 t4 w2' w3 w4 w5
          go_upto_region 14 with fail
          go_cut [85] (fun s wx => (s = .bool true ∧ (p = 1 ∧ car j = i) ∨ s = .bool false ∧ ¬ (p = 1 ∧ car j = i)) ∧ wa = wx)
          case first =>
            as_aux_lemma =>
            by_cases hp1 : p = 1
            · have hp1' : ((p : Int) == 1) = true := by rw [hp1]; rfl
              go_wp2_with fail
              refine Calls.mono (HC7.out _ j (by omega)) ?_
              rintro e wi ⟨rfl, rfl⟩
              by_cases hci : car j = i
              · have hci' : ((car j : Int) == (i : Int)) = true := by simp [hci]
                have HCI : Hid (p = 1 ∧ car j = i) := ⟨hp1, hci⟩
                clear hci hp1
                go_wp2
                go_meet
                exact ⟨.inl ⟨rfl, HCI.out⟩, rfl⟩
              · have hci' : ((car j : Int) == (i : Int)) = false := by
                  simp only [beq_eq_false_iff_ne, ne_eq]; omega
                have HCI : Hid (¬ (p = 1 ∧ car j = i)) := fun h => hci h.2
                clear hci hp1
                go_wp2
                go_meet
                exact ⟨.inr ⟨rfl, HCI.out⟩, rfl⟩
            · have hp1' : ((p : Int) == 1) = false := by
                simp only [beq_eq_false_iff_ne, ne_eq]; omega
              have HCI : Hid (¬ (p = 1 ∧ car j = i)) := fun h => hp1 h.1
              clear hp1
              go_wp2
              go_meet
              exact ⟨.inr ⟨rfl, HCI.out⟩, rfl⟩
          case rest =>
          obtain ⟨hcc, rfl⟩ := hcut
          have HCC : Hid _ := hcc
          clear hcc
          rcases HCC.out with ⟨rfl, hpc⟩ | ⟨rfl, hpc⟩
          rotate_left
          · have hst := parS_step (k := k) (i := i) (p := p) (b := b) (j := j) (car := car) (D := bytesD L) (s := sj)
            rw [if_neg hpc, F.add_zero, ← HV.out, ← HM1.out, HSJ.out] at hst
            rw [HSJ.out, hst] at HSA
            clear hpc t1 w1 hst
            go_wp2
            exact ⟨⟨j + 1, by omega, by go_num, HGA.out, HSA.out⟩, by simp [intOf]; omega⟩
          have hst := parS_step (k := k) (i := i) (p := p) (b := b) (j := j) (car := car) (D := bytesD L) (s := sj)
          rw [if_pos hpc, ← HV.out, ← HM1.out] at hst
          clear hpc
          have hBw : ∀ u, wa.grownBy u (some g0) → Below w.heap.size w u := fun u hu => below_grown HBA.out hu (by rw [HG0.out]; exact Nat.le_refl _)
          obtain ⟨v2, hv2⟩ : ∃ v2, v2 = 2 * j := ⟨_, rfl⟩
          have hvl2 : v2 < L.length := by rw [← HLL.out]; omega
          obtain ⟨bL2, off2, ebl, hbL2, hcl2⟩ := rows8_at HR.out hvl2
          cases ebl
          obtain ⟨ys, hys⟩ : ∃ ys, L[v2]? = some ys := ⟨_, List.getElem?_eq_getElem hvl2⟩
          obtain ⟨a2, cap2, f1, f2⟩ := hcl2 v2 ys hys
          have hyl : ys.length = H := HL.out ys (List.mem_of_getElem? hys)
          obtain ⟨b2, o2, rfl, hb2, hf2⟩ := row8_cell f2 (show b < ys.length by rw [hyl]; exact hltb)
          have hDv2 : bytesD L v2 b = at8 ys b := by simp [bytesD, List.getD_eq_getElem?_getD, hys]
          have C5 : ∀ u, wa.grownBy u (some g0) → u.cell? ⟨bL, off + v2, none⟩ = some (.slice (some ⟨b2, o2, none⟩) H cap2) := fun u hu => by rw [← hyl]; exact cell_later (hBw u hu) f1
          have C6 : ∀ u, wa.grownBy u (some g0) → u.cell? ⟨b2, o2 + b, none⟩ = some (.int .u8 ((bytesD L v2 b).toNat : Int)) := fun u hu => by rw [hDv2]; exact cell_later (hBw u hu) (hf2 b (by rw [hyl]; exact hltb))
          have t4 : (2 : Int) * (j : Int) = (v2 : Int) := by omega
          have w5 : IntKind.i64.wrap (v2 : Int) = (v2 : Int) := by rw [IntKind.wrap_i64]; omega
          have hvl3 : v2 < l := by rw [HLL.out]; exact hvl2
          rw [← hv2] at hst
          have c0 : wa.drew.cell? ⟨g0, b, none⟩ = some (.int .u8 ((ga sj m1).toNat : Int)) := by
            rw [cellAt (w := wa.drew) HSA.out b _ (vfs_get _ _ (by rw [imP_len]; exact hltb)), imP_at hltb]
          have d0 : wa.drew.frozen? ⟨g0, b, none⟩ = false := frozen_of_row _ _ _ _ _ (show wa.drew.heap[g0]? = _ from HSA.out)
          have HT : Hid ((wa.drew.setCell ⟨g0, b, none⟩ (.int .u8 ((ga (ga sj m1) (bytesD L v2 b)).toNat : Int))).heap[g0]? = some (.cells (vfs (imP H f b (ga (ga sj m1) (bytesD L v2 b)))) 5 (0, 0))) := by
            show _ = _
            rw [heap_setCell_same _ _ _ _ _ _ (show wa.drew.heap[g0]? = _ from HSA.out), vfs_set, imP_set hltb]
          have ex := xor_val (ga sj m1) (bytesD L v2 b)
          have HG3 : Hid (W3.grownBy (wa.drew.setCell ⟨g0, b, none⟩ (.int .u8 ((ga (ga sj m1) (bytesD L v2 b)).toNat : Int))) (some g0)) := grownBy_trans HGA.out (grownBy_setCell (grownBy_drew (World.grownBy.refl _ _)) _) (fun _ _ h => h)
          have HT9 : Hid ((wa.drew.setCell ⟨g0, b, none⟩ (.int .u8 ((ga (ga sj m1) (bytesD L v2 b)).toNat : Int))).heap[g0]? = some (.cells (vfs (imP H f b (sumF (parS k i p car (bytesD L) b) (j + 1)))) 5 (0, 0))) := by
            show _ = _
            rw [HT.out, hst, HSJ.out]; rfl
          clear hst
          have hS0 : wa.grownBy wa.drew (some g0) := grownBy_drew (World.grownBy.refl _ _)
          clear hcl2 hys f1 f2 hf2 hDv2 hv2 hBw
          go_upto_region 15 with fail
          refine wp_region_noPanic ?_
          refine wp_region_held_drew (S := fun u => wa.grownBy u (some g0)) (by kernel_rfl) ?_ (fun hHeld => ?_)
          · exact hS0
          refine wpAnyH_take (i := 0) (oi := { dst := some 86, op := Op.move (Operand.tmp 11), type := 22, pos := "ref.go:28", after := #[], guard := none }) (v := ?_) rfl (by kernel_rfl) (by kernel_rfl) (by kernel_rfl) (fun _ _ _ h => h) (Or.inl ⟨by rfl, ?_⟩) hHeld ?_
          rotate_left
          · intro u hSw
            go_simp
            try with_reducible rfl
          try simp only [Act.put, List.setIfInBounds_toArray, List.set_cons_zero, List.set_cons_succ]
          refine wpAnyH_take (i := 1) (oi := { dst := some 87, op := Op.move (Operand.tmp 15), type := 3, pos := "ref.go:28", after := #[], guard := none }) (v := ?_) rfl (by kernel_rfl) (by kernel_rfl) (by kernel_rfl) (fun _ _ _ h => h) (Or.inl ⟨by rfl, ?_⟩) hHeld ?_
          rotate_left
          · intro u hSw
            go_simp
            try with_reducible rfl
          try simp only [Act.put, List.setIfInBounds_toArray, List.set_cons_zero, List.set_cons_succ]
          refine wpAnyH_take (i := 2) (oi := { dst := some 88, op := Op.indexAddr 22 (Operand.tmp 86) (Operand.tmp 87), type := 0, pos := "ref.go:28", after := #[{ on := 0, ground := Ground.data }, { on := 1, ground := Ground.data }], guard := none }) (v := ?_) rfl (by kernel_rfl) (by kernel_rfl) (by kernel_rfl) (fun _ _ _ h => h) (Or.inl ⟨by rfl, ?_⟩) hHeld ?_
          rotate_left
          · intro u hSw
            go_simp
            try with_reducible rfl
          try simp only [Act.put, List.setIfInBounds_toArray, List.set_cons_zero, List.set_cons_succ]
          refine wpAnyH_take (i := 4) (oi := { dst := some 90, op := Op.move (Operand.tmp 3), type := 25, pos := "ref.go:28", after := #[], guard := none }) (v := ?_) rfl (by kernel_rfl) (by kernel_rfl) (by kernel_rfl) (fun _ _ _ h => h) (Or.inl ⟨by rfl, ?_⟩) hHeld ?_
          rotate_left
          · intro u hSw
            go_simp
            try with_reducible rfl
          try simp only [Act.put, List.setIfInBounds_toArray, List.set_cons_zero, List.set_cons_succ]
          refine wpAnyH_take (i := 5) (oi := { dst := some 91, op := Op.move (Operand.tmp 16), type := 3, pos := "ref.go:28", after := #[], guard := none }) (v := ?_) rfl (by kernel_rfl) (by kernel_rfl) (by kernel_rfl) (fun _ _ _ h => h) (Or.inl ⟨by rfl, ?_⟩) hHeld ?_
          rotate_left
          · intro u hSw
            go_simp
            try with_reducible rfl
          try simp only [Act.put, List.setIfInBounds_toArray, List.set_cons_zero, List.set_cons_succ]
          refine wpAnyH_take (i := 6) (oi := { dst := some 92, op := Op.binOp BinOp.mul 3 (Operand.const (Value.int IntKind.i64 2)) (Operand.tmp 91) 3, type := 3, pos := "ref.go:28", after := #[{ on := 5, ground := Ground.data }], guard := none }) (v := ?_) rfl (by kernel_rfl) (by kernel_rfl) (by kernel_rfl) (fun _ _ _ h => h) (Or.inl ⟨by rfl, ?_⟩) hHeld ?_
          rotate_left
          · intro u hSw
            go_simp
            try with_reducible rfl
          try simp only [Act.put, List.setIfInBounds_toArray, List.set_cons_zero, List.set_cons_succ]
          refine wpAnyH_take (i := 7) (oi := { dst := some 93, op := Op.indexAddr 25 (Operand.tmp 90) (Operand.tmp 92), type := 0, pos := "ref.go:28", after := #[{ on := 4, ground := Ground.data }, { on := 6, ground := Ground.data }], guard := none }) (v := ?_) rfl (by kernel_rfl) (by kernel_rfl) (by kernel_rfl) (fun _ _ _ h => h) (Or.inl ⟨by rfl, ?_⟩) hHeld ?_
          rotate_left
          · intro u hSw
            go_simp
            try with_reducible rfl
          try simp only [Act.put, List.setIfInBounds_toArray, List.set_cons_zero, List.set_cons_succ]
          refine wpAnyH_take (i := 8) (oi := { dst := some 94, op := Op.load 22 (Operand.tmp 93), type := 22, pos := "ref.go:28", after := #[{ on := 7, ground := Ground.data }], guard := none }) (v := ?_) rfl (by kernel_rfl) (by kernel_rfl) (by kernel_rfl) (fun _ _ _ h => h) (Or.inl ⟨by rfl, ?_⟩) hHeld ?_
          rotate_left
          · intro u hSw
            have q0 := C5 u hSw
            go_simp
            try with_reducible rfl
          try simp only [Act.put, List.setIfInBounds_toArray, List.set_cons_zero, List.set_cons_succ]
          refine wpAnyH_take (i := 9) (oi := { dst := some 95, op := Op.move (Operand.tmp 15), type := 3, pos := "ref.go:28", after := #[], guard := none }) (v := ?_) rfl (by kernel_rfl) (by kernel_rfl) (by kernel_rfl) (fun _ _ _ h => h) (Or.inl ⟨by rfl, ?_⟩) hHeld ?_
          rotate_left
          · intro u hSw
            go_simp
            try with_reducible rfl
          try simp only [Act.put, List.setIfInBounds_toArray, List.set_cons_zero, List.set_cons_succ]
          refine wpAnyH_take (i := 10) (oi := { dst := some 96, op := Op.indexAddr 22 (Operand.tmp 94) (Operand.tmp 95), type := 0, pos := "ref.go:28", after := #[{ on := 8, ground := Ground.data }, { on := 9, ground := Ground.data }], guard := none }) (v := ?_) rfl (by kernel_rfl) (by kernel_rfl) (by kernel_rfl) (fun _ _ _ h => h) (Or.inl ⟨by rfl, ?_⟩) hHeld ?_
          rotate_left
          · intro u hSw
            go_simp
            try with_reducible rfl
          try simp only [Act.put, List.setIfInBounds_toArray, List.set_cons_zero, List.set_cons_succ]
          refine wpAnyH_take (i := 11) (oi := { dst := some 97, op := Op.load 5 (Operand.tmp 96), type := 5, pos := "ref.go:28", after := #[{ on := 10, ground := Ground.data }], guard := none }) (v := ?_) rfl (by kernel_rfl) (by kernel_rfl) (by kernel_rfl) (fun _ _ _ h => h) (Or.inl ⟨by rfl, ?_⟩) hHeld ?_
          rotate_left
          · intro u hSw
            have q0 := C6 u hSw
            go_simp
            try with_reducible rfl
          try simp only [Act.put, List.setIfInBounds_toArray, List.set_cons_zero, List.set_cons_succ]
          refine wpAnyH_ready (rs := [3]) (by kernel_rfl) (by simp) ?_
          refine (AllReadyH.cons (o := { dst := some 89, op := Op.load 5 (Operand.tmp 88), type := 5, pos := "ref.go:28", after := #[{ on := 2, ground := Ground.data }], guard := none }) rfl (fun K hK => ?_) AllReadyH.nil)
          go_simp
          refine hK.out _ _ ?_ (fun hHeld => ?_)
          · exact hS0
          clear hK K
          try simp only [Act.put, List.setIfInBounds_toArray, List.set_cons_zero, List.set_cons_succ]
          refine wpAnyH_take (i := 12) (oi := { dst := some 98, op := Op.binOp BinOp.xor 5 (Operand.tmp 89) (Operand.tmp 97) 5, type := 5, pos := "ref.go:28", after := #[{ on := 3, ground := Ground.data }, { on := 11, ground := Ground.data }], guard := none }) (v := ?_) rfl (by kernel_rfl) (by kernel_rfl) (by kernel_rfl) (fun _ _ _ h => h) (Or.inl ⟨by rfl, ?_⟩) hHeld ?_
          rotate_left
          · intro u hSw
            go_simp
            try with_reducible rfl
          try simp only [Act.put, List.setIfInBounds_toArray, List.set_cons_zero, List.set_cons_succ]
          refine wpAnyH_take (i := 13) (oi := { dst := some 99, op := Op.indexAddr 22 (Operand.tmp 86) (Operand.tmp 87), type := 0, pos := "ref.go:28", after := #[{ on := 0, ground := Ground.data }, { on := 1, ground := Ground.data }, { on := 0, ground := Ground.phase }, { on := 1, ground := Ground.phase }, { on := 2, ground := Ground.phase }, { on := 3, ground := Ground.phase }, { on := 4, ground := Ground.phase }, { on := 5, ground := Ground.phase }, { on := 6, ground := Ground.phase }, { on := 7, ground := Ground.phase }, { on := 8, ground := Ground.phase }, { on := 9, ground := Ground.phase }, { on := 10, ground := Ground.phase }, { on := 11, ground := Ground.phase }, { on := 12, ground := Ground.phase }], guard := none }) (v := ?_) rfl (by kernel_rfl) (by kernel_rfl) (by kernel_rfl) (fun _ _ _ h => h) (Or.inl ⟨by rfl, ?_⟩) hHeld ?_
          rotate_left
          · intro u hSw
            go_simp
            try with_reducible rfl
          try simp only [Act.put, List.setIfInBounds_toArray, List.set_cons_zero, List.set_cons_succ]
          refine wpAnyH_ready (rs := [14]) (by kernel_rfl) (by simp) ?_
          refine (AllReadyH.cons (o := { dst := none, op := Op.store 5 (Operand.tmp 99) (Operand.tmp 98), type := 0, pos := "ref.go:28", after := #[{ on := 13, ground := Ground.data }, { on := 12, ground := Ground.data }, { on := 0, ground := Ground.phase }, { on := 1, ground := Ground.phase }, { on := 2, ground := Ground.phase }, { on := 3, ground := Ground.phase }, { on := 4, ground := Ground.phase }, { on := 5, ground := Ground.phase }, { on := 6, ground := Ground.phase }, { on := 7, ground := Ground.phase }, { on := 8, ground := Ground.phase }, { on := 9, ground := Ground.phase }, { on := 10, ground := Ground.phase }, { on := 11, ground := Ground.phase }, { on := 12, ground := Ground.phase }], guard := none }) rfl (fun K hK => ?_) AllReadyH.nil)
          go_simp
          refine hK.out _ _ ?_ (fun hHeld => ?_)
          · exact grownBy_setCell hS0 _
          clear hK K
          try simp only [Act.put, List.setIfInBounds_toArray, List.set_cons_zero, List.set_cons_succ]
          refine wpAnyH_done (by kernel_rfl) ?_ _
          refine NoPanic.normal ?_
          go_wp2
          exact ⟨⟨j + 1, by omega, by go_num, HG3.out, HT9.out⟩, by simp [intOf]; omega⟩
        · obtain rfl : j = k := by omega
          have hfb : sumF (parS j i p car (bytesD L) b) j = f b := by rw [HF.out]
          rw [hfb, imP_next] at hs
          have HS3 : Hid _ := hs
          clear hgb hs hfb
          go_wp2
          exact ⟨⟨b + 1, by omega, by go_num, HG2.out, HS3.out⟩, by simp [intOf]; omega⟩
    · obtain rfl : b = H := by omega
      rw [imP_done] at HS
      go_wp2
      go_ret
      exact ⟨g0, rfl, by rw [HG0.out]; exact Nat.le_refl _, HS.out, below_grown (by rw [HG0.out]; exact B4.out) HG.out (by rw [HG0.out]; exact Nat.le_refl _)⟩
end Go.Proofs.YtmlpijlcpeoeaaaDoor

/- What the document's own Split answers, and SameLists of two lists that are the same; nothing that was there turns. -/
namespace Go.Proofs.YtmlpijlcpeoeaaaDoor
open Go.RowKit Gf
set_option linter.unusedVariables false
set_option maxRecDepth 20000
/-- half v, made as far as byte i -/
def hfP (H : Nat) (xs : List F) (v i : Nat) : List F := rowF H (fun j => if j < i then at8 xs (v * H + j) else 0)
theorem hfP_len (H : Nat) (xs : List F) (v i : Nat) : (hfP H xs v i).length = H := rowF_len _ _
theorem hfP_zero (H : Nat) (xs : List F) (v : Nat) : zeros H = hfP H xs v 0 := rowF_eq (zeros_len H) fun j hj => by rw [at8_zeros, if_neg (by omega)]
theorem hfP_done (H : Nat) (xs : List F) (v : Nat) : hfP H xs v H = hf H xs v := rowF_congr fun j hj => by rw [if_pos hj]
theorem hfP_step {H : Nat} {xs : List F} {v i : Nat} (hi : i < H) : (hfP H xs v i).set i (at8 xs (v * H + i)) = hfP H xs v (i + 1) := by
  refine rowF_eq (by rw [List.length_set, hfP_len]) fun j hj => ?_
  by_cases h : j = i
  · subst h
    rw [if_pos (by omega)]
    simp [at8, hfP_len, hj]
  · have e : at8 ((hfP H xs v i).set i (at8 xs (v * H + i))) j = at8 (hfP H xs v i) j := by simp [at8, Ne.symm h]
    rw [e, hfP, at8_rowF hj]
    by_cases h2 : j < i
    · rw [if_pos h2, if_pos (by omega)]
    · rw [if_neg h2, if_neg (by omega)]
theorem hfP_over {H : Nat} {xs : List F} {v i : Nat} (h : xs.length ≤ v * H + i) : hfP H xs v i = hfP H xs v (i + 1) := rowF_congr fun j hj => by
  by_cases h1 : j < i
  · rw [if_pos h1, if_pos (by omega)]
  · rw [if_neg h1]
    by_cases h2 : j < i + 1
    · rw [if_pos h2, at8_over (by omega)]
    · rw [if_neg h2]
/-- lists as values: whole blocks -/
def slsV (H : Nat) (gs : List Nat) : List Value := gs.map fun g => .slice (some ⟨g, 0, none⟩) H H
theorem slsV_snoc (H : Nat) (gs : List Nat) (g : Nat) : slsV H gs ++ [.slice (some ⟨g, 0, none⟩) H H] = slsV H (gs ++ [g]) := by simp [slsV]
theorem rsplit_bad (k : Int) (a : Option Addr) (la ca : Nat) (w : World) (h : halfE k la ≠ 0) :
    Calls Tryd.prog 31 #[.int .i64 k, .slice a la ca] w fun e w' => e = .returned (.tuple #[.slice none 0 0, .int .i64 (halfE k la)]) ∧ w = w' := by
  have HF : Hid _ := fun w => rhalf_F k la w
  rw [halfV_no h] at HF
  have h' : ¬ ((halfE k la : Nat) : Int) = 0 := by omega
  generalize halfE k la = x at *
  clear h
  go_enter Tryd.func31, Tryd.ntmps31
  go_wp2_with fail
  refine Calls.mono (HF.out _) ?_
  rintro e w1 ⟨rfl, rfl⟩
  go_wp2_with fail
  go_ret2
  exact ⟨rfl, rfl⟩
set_option maxHeartbeats 2000000 in
theorem rsplit_ok (k n ca : Nat) (a : Option Addr) (xs : List F) (w : World) (h1 : 1 ≤ k) (h2 : k ≤ 14) (h3 : 1 ≤ n) (h4 : n ≤ 128 * k) (hn : n = xs.length) (hx : Row8 w a xs) :
    Calls Tryd.prog 31 #[.int .i64 k, .slice a n ca] w fun e w' => ∃ b c cap H, e = .returned (.tuple #[.slice b c cap, .int .i64 0]) ∧ c = 2 * k ∧ H = cntN (2 * k) n ∧ Rows8 w' b ((List.range c).map (hf H xs)) ∧ Below w.heap.size w w' := by
  have HF : Hid _ := fun w => rhalf_F k n w
  rw [halfV_ok h1 h2 h3 h4, halfE_ok h1 h2 h3 h4] at HF
  obtain ⟨k1, k2, k3, k4⟩ := cnt_half h1 h2 h3 h4
  obtain ⟨c, hc⟩ : ∃ c, c = 2 * k := ⟨_, rfl⟩
  rw [← hc] at HF k1 k2 k3 k4
  generalize hH : cntN c n = H at *
  have HCC : Hid _ := hc
  have HHH : Hid _ := hH
  have HKC : Hid ((2 : Int) * k = c) := by show _ = _; omega
  have hc28 : c ≤ 28 := by omega
  have HXL : Hid _ := hn
  have HX : Hid _ := hx
  have H8 : Hid _ := fun w => run_make8 H (by omega) w
  clear k3 k4 h3 h4 hc hH hn hx
  go_enter Tryd.func31, Tryd.ntmps31
  go_wp2_with fail
  refine Calls.mono (HF.out _) ?_
  rintro e w1 ⟨rfl, rfl⟩
  go_wp2
  have hown : (w.alloc (.cells #[] 22)).ownsRow w.heap.size 22 1 (.slice (some ⟨w.heap.size, 0, none⟩) 0 0) 0 (slsV H []) := ⟨rfl, .inr ⟨w.heap.size, 0, #[], rfl, Nat.le_refl _, heap_alloc_last _ _, by simp, by simp [maxLen], rfl, rfl⟩⟩
  go_loopw [8, 9] (fun s t wr => ∃ v : Nat, ∃ gs : List Nat, v ≤ c ∧ t = .int .i64 v ∧ gs.length = v ∧ Below w.heap.size w wr ∧ wr.ownsRow w.heap.size 22 1 s v (slsV H gs) ∧ ∀ (j g : Nat), gs[j]? = some g → wr.heap[g]? = some (.cells (vfs (hf H xs j)) 5 (0, 0))) (fun _ t _ => c - (intOf t).toNat)
  case atStart => exact ⟨0, [], by omega, rfl, rfl, (Below.refl _ _).alloc (Nat.le_refl _) _, hown, fun j g h => by simp at h⟩
  case round =>
    obtain ⟨v, gs, hv, rfl, hgs, hb, ho, hrows⟩ := hrel
    have HGS : Hid _ := hgs
    have HB : Hid _ := hb
    have HO : Hid _ := ho
    have HRO : Hid _ := hrows
    have hkc := HKC.out
    clear hgs hb hrows hown
    by_cases hlt : v < c
    · have m1 := H8.out wr
      have B1 : Hid _ := heap_alloc_last wr (.cells (vfs (zeros H)) 5)
      have HBW : Hid (Below wr.heap.size wr (wr.alloc (.cells (vfs (zeros H)) 5))) := (Below.refl _ _).alloc (Nat.le_refl _) _
      obtain ⟨p, hp⟩ : ∃ p, p = v * H := ⟨_, rfl⟩
      have hpm : p ≤ 1792 := by
        rw [hp]; exact Nat.le_trans (Nat.mul_le_mul (show v ≤ 28 by omega) k2) (by decide)
      have m4 : (v : Int) * (H : Int) = (p : Int) := by rw [hp]; simp
      have HP : Hid _ := hp
      have HM4 : Hid _ := m4
      clear ho hp m4
      go_wp2
      clear m1
      generalize hN : wr.heap.size = N at *
      generalize (wr.alloc (.cells (vfs (zeros H)) 5)) = W3 at *
      have HN : Hid _ := hN
      clear hN hkc
      generalize wr = wo at *
      go_loopw [11] (fun t wr => ∃ i : Nat, i ≤ H ∧ t = .int .i64 i ∧ W3.grownBy wr (some N) ∧ wr.heap[N]? = some (.cells (vfs (hfP H xs v i)) 5 (0, 0))) (fun t _ => H - (intOf t).toNat)
      case atStart => exact ⟨0, by omega, rfl, World.grownBy.refl _ _, by rw [← hfP_zero]; exact B1.out⟩
      case round =>
        obtain ⟨i, hi, rfl, hgb, hs⟩ := hrel
        have HG : Hid _ := hgb
        have HS : Hid _ := hs
        have hBWx : Below wo.heap.size wo W3 := by rw [HN.out]; exact HBW.out
        have HBR : Hid (Below N wo wr) := by
          show Below N wo wr
          have := below_grown hBWx hgb (by rw [HN.out]; exact Nat.le_refl _)
          rwa [HN.out] at this
        have hBw : Below w.heap.size w wr := HB.out.trans (HBR.out.mono (by rw [← HN.out]; exact HB.out.size))
        have HBw : Hid _ := hBw
        by_cases hlti : i < H
        · have hm4 := HM4.out
          obtain ⟨q, hq⟩ : ∃ q, q = p + i := ⟨_, rfl⟩
          have hq' : (p : Int) + (i : Int) = (q : Int) := by omega
          have HQ : Hid (q = v * H + i) := by show _ = _; rw [hq, HP.out]
          have hqm : q ≤ 4096 := by omega
          clear hq
          by_cases hqn : q < n
          · obtain ⟨b', off, rfl, hbl, hcl⟩ := row8_cell HX.out (show q < xs.length by rw [← HXL.out]; exact hqn)
            have c1 := cell_later hBw (hcl q (by rw [← HXL.out]; exact hqn))
            have c2 : wr.cell? ⟨N, i, none⟩ = some (.int .u8 ((at8 (hfP H xs v i) i).toNat : Int)) := cellAt hs i _ (vfs_get _ _ (by rw [hfP_len]; exact hlti))
            have c3 : wr.frozen? ⟨N, i, none⟩ = false := frozen_of_row _ _ _ _ _ hs
            have HT : Hid ((wr.setCell ⟨N, i, none⟩ (.int .u8 ((at8 xs q).toNat : Int))).heap[N]? = some (.cells (vfs (hfP H xs v (i + 1))) 5 (0, 0))) := by
              show _ = _
              rw [heap_setCell_same _ _ _ _ _ _ hs, vfs_set, HQ.out, hfP_step hlti]
            clear hgb hs hBw hcl
            go_wp2
            exact ⟨⟨i + 1, by omega, by go_num, grownBy_setCell HG.out _, HT.out⟩, by simp [intOf]; omega⟩
          · have ho9 : hfP H xs v i = hfP H xs v (i + 1) := hfP_over (by rw [← HQ.out, ← HXL.out]; omega)
            rw [ho9] at HS
            clear hgb hs hBw ho9
            go_wp2
            exact ⟨⟨i + 1, by omega, by go_num, HG.out, HS.out⟩, by simp [intOf]; omega⟩
        · obtain rfl : i = H := by omega
          have ho4 := World.ownsRow.alloc (own_below HO.out (by rw [HN.out]; exact HBR.out)) (.cells #[.slice (some ⟨N, 0, none⟩) i i] 22)
          obtain ⟨g2, cap2, w2, hrun, ho2, hgr, hor, hlt2⟩ := appendS (b := wr.heap.size) (c := 1) (x := .slice (some ⟨N, 0, none⟩) i i) 25 ho4 (cellAt (heap_alloc_last wr (.cells #[.slice (some ⟨N, 0, none⟩) i i] 22)) 0 _ rfl) rfl (by omega) (by have := hBw.size; simp; omega)
          rw [slsV_snoc] at ho2
          have hb6 := below_own (B := w.heap.size) (hBw.alloc hBw.size (.cells #[.slice (some ⟨N, 0, none⟩) i i] 22)) ho4 hgr (by have := hBw.size; simp; omega)
          have hkeep : ∀ (g : Nat) (ys : List F), wr.heap[g]? = some (.cells (vfs ys) 5 (0, 0)) → w2.heap[g]? = some (.cells (vfs ys) 5 (0, 0)) := fun g ys h =>
            own_other ho4 hgr ((Below.heap_alloc _ _ _ (ltHeap h)).trans h) (by decide)
          have HROW : Hid (∀ (j g : Nat), (gs ++ [N])[j]? = some g → w2.heap[g]? = some (.cells (vfs (hf i xs j)) 5 (0, 0))) := fun j g hj => by
            by_cases hjv : j < v
            · rw [List.getElem?_append_left (by rw [HGS.out]; exact hjv)] at hj
              exact hkeep g _ (heap_later (HRO.out j g hj) (by rw [HN.out]; exact HBR.out))
            · have hj2 : j = v := by
                have := (List.getElem?_eq_some_iff.1 hj).1
                rw [List.length_append, HGS.out, List.length_singleton] at this
                omega
              subst hj2
              rw [List.getElem?_append_right (by rw [HGS.out]; exact Nat.le_refl _), HGS.out, Nat.sub_self] at hj
              obtain rfl := Option.some.inj hj
              exact hkeep _ _ (by rw [← hfP_done]; exact hs)
          have HLEN : Hid ((gs ++ [N]).length = v + 1) := by show _ = _; rw [List.length_append, HGS.out]; rfl
          have HRun : Hid _ := hrun
          have HO2 : Hid _ := ho2
          have HB6 : Hid _ := hb6
          clear hgb hs hBw ho4 hrun ho2 hb6 hgr hor hlt2 hkeep
          go_wp2_with (at_builtin; refine wpList_append_run rfl _ _ 25 rfl _ _ _ _ rfl rfl HRun.out ?_)
          exact ⟨⟨v + 1, gs ++ [N], by omega, by go_num, HLEN.out, HB6.out, HO2.out, HROW.out⟩, by simp [intOf]; omega⟩
    · obtain rfl : v = c := by omega
      have hfin : ∃ b cap, u8 = .slice b v cap ∧ Rows8 wr b ((List.range v).map (hf H xs)) := by
        rcases ho.2 with ⟨_, h0⟩ | ⟨g, cap, cur, e, hg⟩
        · omega
        · refine ⟨some ⟨g, 0, none⟩, cap, e, .inr ⟨g, 0, rfl, fun j ys hj => ?_⟩⟩
          have hjv : j < v := by have := (List.getElem?_eq_some_iff.1 hj).1; simpa using this
          rw [List.getElem?_map, List.getElem?_range hjv] at hj
          obtain rfl := Option.some.inj hj
          obtain ⟨g', hg'⟩ : ∃ g', gs[j]? = some g' := ⟨_, List.getElem?_eq_getElem (by rw [HGS.out]; exact hjv)⟩
          have hrow := HRO.out j g' hg'
          have hoe := ho
          rw [e] at hoe
          refine ⟨some ⟨g', 0, none⟩, H, ?_, row8_own hrow⟩
          rw [Nat.zero_add, hoe.cellAt j (by rw [Nat.mul_one]; exact hjv), hf_len]
          simp [slsV, hg']
      obtain ⟨b9, cap9, rfl, hr9⟩ := hfin
      have HR9 : Hid _ := hr9
      clear hr9 ho
      go_wp2
      go_ret2
      exact ⟨b9, v, cap9, H, rfl, HCC.out, by rw [← HCC.out]; exact HHH.out.symm, HR9.out, HB.out⟩
end Go.Proofs.YtmlpijlcpeoeaaaDoor

/- What the document's own Encode answers, of all numbers and lists of bytes; nothing that was there turns. -/
namespace Go.Proofs.YtmlpijlcpeoeaaaDoor
open Go.RowKit Gf
set_option linter.unusedVariables false
set_option maxRecDepth 20000
theorem rimage_F (k r h H l cap : Nat) (a : Option Addr) (L : List (List F)) (w : World) (h1 : 1 ≤ k) (h2 : 2 ≤ r) (h3 : k + r ≤ 16) (hh : h < 2 * (k + r)) (hH : H ≤ 64) (hl : 2 * k ≤ L.length) (hll : l = L.length) (hl9 : l ≤ 140737488355328) (hL : ∀ xs ∈ L, xs.length = H) (hR : Rows8 w a L) :
    Calls Tryd.prog 23 #[.int .i64 k, .int .i64 r, .int .i64 h, .slice a l cap, .int .i64 H] w fun e w' => ∃ g, e = .returned (.slice (some ⟨g, 0, none⟩) H H) ∧ w.heap.size ≤ g ∧
      w'.heap[g]? = some (.cells (vfs (imgL k (carN (groupN k r)) H (bytesD L) h)) 5 (0, 0)) ∧ Below w.heap.size w w' := by
  by_cases hk : h < 2 * k
  · have e : imgL k (carN (groupN k r)) H (bytesD L) h = rowF H (bytesD L h) := rowF_congr fun b _ => img_data hk b
    rw [e]
    exact rimage_data k r h H l cap a L w (by omega) hk hH hl hll hL hR
  · obtain ⟨i, p, hi, hp, e⟩ : ∃ i p, i < r ∧ p < 2 ∧ h = 2 * (k + i) + p := ⟨h / 2 - k, h % 2, by omega, by omega, by omega⟩
    rw [e]
    exact rimage_par k r i p H l cap a L w h1 h2 h3 hi hp hH hl hll hl9 hL hR
/-- a stripe's data halves' bytes -/
def strD (H : Nat) (xs : List F) : Nat → Nat → F := fun v b => at8 xs (v * H + b)
theorem img_stripe {k H h c : Nat} {car : Nat → Nat} {xs : List F} (hc : 2 * k ≤ c) : imgL k car H (bytesD ((List.range c).map (hf H xs))) h = imgL k car H (strD H xs) h :=
  img_congr fun v b hv hb => by
    simp only [bytesD, List.getD_eq_getElem?_getD, List.getElem?_map]
    rw [List.getElem?_range (by omega)]
    exact at8_rowF hb
/-- all halves of a stripe -/
def encL (k r H : Nat) (xs : List F) : List (List F) := (List.range (2 * (k + r))).map (imgL k (carN (groupN k r)) H (strD H xs))
theorem encL_len (k r H : Nat) (xs : List F) : (encL k r H xs).length = 2 * (k + r) := by simp [encL]
theorem encL_all {k r H : Nat} {xs ys : List F} (h : ys ∈ encL k r H xs) : ys.length = H := by
  obtain ⟨v, _, rfl⟩ := List.mem_map.1 h
  exact imgL_len _ _ _ _ _
theorem encL_at {k r H h : Nat} {xs : List F} (hh : h < 2 * (k + r)) : (encL k r H xs)[h]? = some (imgL k (carN (groupN k r)) H (strD H xs) h) := by simp [encL, hh]
theorem rencode_illegal (k r : Int) (a : Option Addr) (la ca : Nat) (w : World) (hk0 : -9223372036854775808 ≤ k) (hk1 : k ≤ 9223372036854775807) (hr0 : -9223372036854775808 ≤ r) (hr1 : r ≤ 9223372036854775807) (h : ¬ LegalP k r) :
    Calls Tryd.prog 13 #[.int .i64 k, .int .i64 r, .slice a la ca] w fun e w' => e = .returned (.tuple #[.slice none 0 0, .int .i64 1]) ∧ w = w' := by
  have H : Hid _ := h
  clear h
  go_enter Tryd.func13, Tryd.ntmps13
  go_wp2_with fail
  refine Calls.mono (legal_no k r _ hk0 hk1 hr0 hr1 H.out) ?_
  rintro e w1 ⟨rfl, rfl⟩
  go_wp2_with fail
  go_ret2
  exact ⟨rfl, rfl⟩
theorem rencode_bad (k r : Nat) (a : Option Addr) (la ca : Nat) (w : World) (h1 : 1 ≤ k) (h2 : 2 ≤ r) (h3 : k + r ≤ 16) (h : halfE k la ≠ 0) :
    Calls Tryd.prog 13 #[.int .i64 k, .int .i64 r, .slice a la ca] w fun e w' => e = .returned (.tuple #[.slice none 0 0, .int .i64 (halfE k la)]) ∧ w = w' := by
  have HS : Hid _ := fun u => rsplit_bad k a la ca u h
  have h' : ((halfE k la : Int) != 0) = true := by simp only [bne_iff_ne, ne_eq]; omega
  generalize halfE k la = x at *
  clear h
  go_enter Tryd.func13, Tryd.ntmps13
  go_wp2_with fail
  refine Calls.mono (legal_yes k r _ h1 h2 h3) ?_
  rintro e w1 ⟨rfl, rfl⟩
  go_wp2_with fail
  refine Calls.mono (HS.out _) ?_
  rintro e w1 ⟨rfl, rfl⟩
  go_wp2_with fail
  go_ret2
  exact ⟨rfl, rfl⟩
set_option maxHeartbeats 4000000 in
theorem rencode_ok (k r n ca : Nat) (a : Option Addr) (xs : List F) (w : World) (h1 : 1 ≤ k) (h2 : 2 ≤ r) (h3 : k + r ≤ 16) (h4 : 1 ≤ n) (h5 : n ≤ 128 * k) (hn : n = xs.length) (hx : Row8 w a xs) :
    Calls Tryd.prog 13 #[.int .i64 k, .int .i64 r, .slice a n ca] w fun e w' => ∃ b c cap H, e = .returned (.tuple #[.slice b c cap, .int .i64 0]) ∧ c = 2 * (k + r) ∧ H = cntN (2 * k) n ∧ Rows8 w' b (encL k r H xs) ∧ Below w.heap.size w w' := by
  have HS : Hid _ := rsplit_ok k n ca a xs w h1 (by omega) h4 h5 hn hx
  obtain ⟨k1, k2, _, _⟩ := cnt_half h1 (show k ≤ 14 by omega) h4 h5
  obtain ⟨c, hc⟩ : ∃ c, c = 2 * (k + r) := ⟨_, rfl⟩
  have HKC : Hid ((2 : Int) * ((k : Int) + r) = c) := by show _ = _; omega
  have HCC : Hid _ := hc
  have hc32 : c ≤ 32 := by omega
  clear hn hx hc h5
  go_enter Tryd.func13, Tryd.ntmps13
  go_wp2_with fail
  refine Calls.mono (legal_yes k r _ h1 h2 h3) ?_
  rintro e w1 ⟨rfl, rfl⟩
  go_wp2_with fail
  refine Calls.mono HS.out ?_
  rintro e w2 ⟨b2, c2, cap2, H, rfl, hc2, hH, hr2, hb⟩
  have HC2 : Hid _ := hc2
  have HHH : Hid _ := hH
  have HB2 : Hid _ := hb
  have HR2 : Hid _ := hr2
  have kH : H ≤ 64 := by rw [hH]; exact k2
  have hc20 : 0 < c2 := by omega
  have HIM : Hid (∀ (h : Nat) (u : World), h < c → Below w2.heap.size w2 u → Calls Tryd.prog 23 #[.int .i64 k, .int .i64 r, .int .i64 h, .slice b2 c2 cap2, .int .i64 H] u fun e w' => ∃ g, e = .returned (.slice (some ⟨g, 0, none⟩) H H) ∧ u.heap.size ≤ g ∧
      w'.heap[g]? = some (.cells (vfs (imgL k (carN (groupN k r)) H (strD H xs) h)) 5 (0, 0)) ∧ Below u.heap.size u w') := fun h u hh hu => by
    have := rimage_F k r h H c2 cap2 b2 ((List.range c2).map (hf H xs)) u h1 h2 h3 (by rw [← HCC.out]; exact hh) kH (by simp; omega) (by simp) (by omega) (fun ys hy => by obtain ⟨v, _, rfl⟩ := List.mem_map.1 hy; exact hf_len _ _ _) (rows8_below hr2 hu)
    rwa [img_stripe (by omega)] at this
  obtain ⟨bL, off, rfl, hbL, hcl⟩ := rows8_at hr2 (show 0 < ((List.range c2).map (hf H xs)).length by simp; omega)
  obtain ⟨a0, cap0, e0, _⟩ := hcl 0 (hf H xs 0) (by rw [List.getElem?_map, List.getElem?_range hc20]; rfl)
  rw [hf_len, Nat.add_zero] at e0
  have HE0 : Hid _ := e0
  clear hc2 hH hb hr2 hcl e0
  go_wp2
  have hown : (w2.alloc (.cells #[] 22)).ownsRow w2.heap.size 22 1 (.slice (some ⟨w2.heap.size, 0, none⟩) 0 0) 0 (slsV H []) := ⟨rfl, .inr ⟨w2.heap.size, 0, #[], rfl, Nat.le_refl _, heap_alloc_last _ _, by simp, by simp [maxLen], rfl, rfl⟩⟩
  go_loopw [10, 11] (fun s t wr => ∃ v : Nat, ∃ gs : List Nat, v ≤ c ∧ t = .int .i64 v ∧ gs.length = v ∧ Below w2.heap.size w2 wr ∧ wr.ownsRow w2.heap.size 22 1 s v (slsV H gs) ∧ ∀ (j g : Nat), gs[j]? = some g → wr.heap[g]? = some (.cells (vfs (imgL k (carN (groupN k r)) H (strD H xs) j)) 5 (0, 0))) (fun _ t _ => c - (intOf t).toNat)
  case atStart => exact ⟨0, [], by omega, rfl, rfl, (Below.refl _ _).alloc (Nat.le_refl _) _, hown, fun j g h => by simp at h⟩
  case round =>
    obtain ⟨v, gs, hv, rfl, hgs, hb2, ho, hrows⟩ := hrel
    have HGS : Hid _ := hgs
    have HBR : Hid _ := hb2
    have HO : Hid _ := ho
    have HRO : Hid _ := hrows
    have hkc := HKC.out
    have c1 := cell_later hb2 HE0.out
    clear hgs hb2 hrows hown
    by_cases hlt : v < c
    · clear ho
      go_wp2_with fail
      refine Calls.mono (HIM.out v _ hlt HBR.out) ?_
      rintro e w3 ⟨N, rfl, hN, hh3, hb3⟩
      have hbR : Below w2.heap.size w2 w3 := HBR.out.trans (hb3.mono HBR.out.size)
      have ho4 := World.ownsRow.alloc (own_below HO.out hb3) (.cells #[.slice (some ⟨N, 0, none⟩) H H] 22)
      obtain ⟨g2, capG, w4, hrun, ho2, hgr, hor, hlt2⟩ := appendS (b := w3.heap.size) (c := 1) (x := .slice (some ⟨N, 0, none⟩) H H) 25 ho4 (cellAt (heap_alloc_last w3 (.cells #[.slice (some ⟨N, 0, none⟩) H H] 22)) 0 _ rfl) rfl (by omega) (by have := hbR.size; simp; omega)
      rw [slsV_snoc] at ho2
      have hb6 := below_own (B := w2.heap.size) (hbR.alloc hbR.size (.cells #[.slice (some ⟨N, 0, none⟩) H H] 22)) ho4 hgr (by have := hbR.size; simp; omega)
      have hkeep : ∀ (g : Nat) (ys : List F), w3.heap[g]? = some (.cells (vfs ys) 5 (0, 0)) → w4.heap[g]? = some (.cells (vfs ys) 5 (0, 0)) := fun g ys h =>
        own_other ho4 hgr ((Below.heap_alloc _ _ _ (ltHeap h)).trans h) (by decide)
      have HROW : Hid (∀ (j g : Nat), (gs ++ [N])[j]? = some g → w4.heap[g]? = some (.cells (vfs (imgL k (carN (groupN k r)) H (strD H xs) j)) 5 (0, 0))) := fun j g hj => by
        by_cases hjv : j < v
        · rw [List.getElem?_append_left (by rw [HGS.out]; exact hjv)] at hj
          exact hkeep g _ (heap_later (HRO.out j g hj) hb3)
        · have hj2 : j = v := by
            have := (List.getElem?_eq_some_iff.1 hj).1
            rw [List.length_append, HGS.out, List.length_singleton] at this
            omega
          subst hj2
          rw [List.getElem?_append_right (by rw [HGS.out]; exact Nat.le_refl _), HGS.out, Nat.sub_self] at hj
          obtain rfl := Option.some.inj hj
          exact hkeep _ _ hh3
      have HLEN : Hid ((gs ++ [N]).length = v + 1) := by show _ = _; rw [List.length_append, HGS.out]; rfl
      have HRun : Hid _ := hrun
      have HO2 : Hid _ := ho2
      have HB6 : Hid _ := hb6
      clear hbR ho4 hrun ho2 hb6 hgr hor hlt2 hkeep hb3 hh3 c1
      go_wp2_with (at_builtin; refine wpList_append_run rfl _ _ 25 rfl _ _ _ _ rfl rfl HRun.out ?_)
      exact ⟨⟨v + 1, gs ++ [N], by omega, by go_num, HLEN.out, HB6.out, HO2.out, HROW.out⟩, by simp [intOf]; omega⟩
    · obtain rfl : v = c := by omega
      have hfin : ∃ b cap, u10 = .slice b v cap ∧ Rows8 wr b (encL k r H xs) := by
        rcases ho.2 with ⟨_, h0⟩ | ⟨g, cap, cur, e, hg⟩
        · have := HCC.out; omega
        · refine ⟨some ⟨g, 0, none⟩, cap, e, .inr ⟨g, 0, rfl, fun j ys hj => ?_⟩⟩
          have hjv : j < v := by have := (List.getElem?_eq_some_iff.1 hj).1; rw [encL_len] at this; rw [HCC.out]; exact this
          rw [encL_at (by rw [← HCC.out]; exact hjv)] at hj
          obtain rfl := Option.some.inj hj
          obtain ⟨g', hg'⟩ : ∃ g', gs[j]? = some g' := ⟨_, List.getElem?_eq_getElem (by rw [HGS.out]; exact hjv)⟩
          have hrow := HRO.out j g' hg'
          have hoe := ho
          rw [e] at hoe
          refine ⟨some ⟨g', 0, none⟩, H, ?_, row8_own hrow⟩
          rw [Nat.zero_add, hoe.cellAt j (by rw [Nat.mul_one]; exact hjv), imgL_len]
          simp [slsV, hg']
      obtain ⟨b9, cap9, rfl, hr9⟩ := hfin
      have HR9 : Hid _ := hr9
      clear hr9 ho c1
      go_wp2
      go_ret2
      exact ⟨b9, v, cap9, H, rfl, HCC.out, HHH.out, HR9.out, HB2.out.trans (HBR.out.mono HB2.out.size)⟩
end Go.Proofs.YtmlpijlcpeoeaaaDoor

/- Facts for the statement MatPlaces: refusals of Take, two lists apart, the document's own Row, an append in a drawn region. -/
namespace Go.Proofs.YtmlpijlcpeoeaaaDoor
open Go.RowKit Gf
set_option linter.unusedVariables false
set_option maxRecDepth 20000
set_option maxHeartbeats 1000000 in
theorem take_bad (r c : Int) (a an : Option Addr) (l cap ln cn : Nat) (w : World) (s : Addr) (hs : w.cell? ⟨2, 0, none⟩ = some (errAt s)) (h : ¬ (0 ≤ r ∧ r ≤ 64 ∧ 0 ≤ c ∧ c ≤ 64 ∧ (l : Int) = r * c)) :
    Calls Tryd.prog 59 #[.agg #[.int .i64 r, .int .i64 c, .slice a l cap], .slice an ln cn] w fun e w' => e = .returned (.tuple #[.agg #[.int .i64 0, .int .i64 0, .slice none 0 0], errAt s]) ∧ Below w.heap.size w w' := by
  have hlt := World.block_lt_of_cell? w _ hs
  simp at hlt
  have H : Hid _ := h
  clear h
  have HS : Hid _ := cell?_alloc_old (.cells #[.int .i64 0, .int .i64 0, .slice none 0 0] 65) (cell?_alloc_old (.cells #[.int .i64 r, .int .i64 c, .slice a l cap] 65) hs)
  unfold errAt at *
  go_enter Tryd.func59, Tryd.ntmps59
  go_wp2_with fail
  refine Calls.mono (check_bad r c a l cap _ _ HS.out H.out) ?_
  rintro e w1 ⟨rfl, hb1⟩
  have k1 := heap_later (heap_alloc2_new w (.cells #[.int .i64 r, .int .i64 c, .slice a l cap] 65) (.cells #[.int .i64 0, .int .i64 0, .slice none 0 0] 65)) hb1
  have c4 := cellAt k1 0 _ rfl
  have c5 := cellAt k1 1 _ rfl
  have c6 := cellAt k1 2 _ rfl
  have d4 : w1.frozen? ⟨w.heap.size + 1, 0, none⟩ = false := frozen_of_row _ _ _ _ _ k1
  have d5 : w1.frozen? ⟨w.heap.size + 1, 1, none⟩ = false := frozen_of_row _ _ _ _ _ k1
  have d6 : w1.frozen? ⟨w.heap.size + 1, 2, none⟩ = false := frozen_of_row _ _ _ _ _ k1
  have c9 := cell_later hb1 HS.out
  have HB1 : Hid (Below w.heap.size w w1) := (((Below.refl w.heap.size w).alloc (Nat.le_refl _) _).alloc (by simp) _).trans (hb1.mono (by simp; omega))
  clear hb1 k1
  go_wp2
  go_region
  go_wp2
  refine bodyPost_ret (v := .tuple #[.agg #[.int .i64 0, .int .i64 0, .slice none 0 0], .iface 140 (.pointer (some s))]) (by simp [results, Tryd.results59, go_sem, c4, c5, c6]) rfl ⟨rfl, ?_⟩
  exact (((HB1.out.setCell (by simp) _).setCell (by simp) _).setCell (by simp) _).drew
set_option maxHeartbeats 1000000 in
theorem take_long (r c : Nat) (a an : Option Addr) (l cap ln cn : Nat) (w : World) (s : Addr) (hs : w.cell? ⟨2, 0, none⟩ = some (errAt s)) (hr : r ≤ 64) (hc : c ≤ 64) (hl : l = r * c) (hn : 64 < ln) :
    Calls Tryd.prog 59 #[.agg #[.int .i64 r, .int .i64 c, .slice a l cap], .slice an ln cn] w fun e w' => e = .returned (.tuple #[.agg #[.int .i64 0, .int .i64 0, .slice none 0 0], errAt s]) ∧ Below w.heap.size w w' := by
  have hlt := World.block_lt_of_cell? w _ hs
  simp at hlt
  have HL : Hid _ := hl
  clear hl
  have HS : Hid _ := cell?_alloc_old (.cells #[.int .i64 0, .int .i64 0, .slice none 0 0] 65) (cell?_alloc_old (.cells #[.int .i64 r, .int .i64 c, .slice a l cap] 65) hs)
  unfold errAt at *
  go_enter Tryd.func59, Tryd.ntmps59
  go_wp2_with fail
  refine Calls.mono (check_ok r c a l cap _ hr hc HL.out) ?_
  rintro e w1 ⟨rfl, hb1⟩
  have k1 := heap_later (heap_alloc2_new w (.cells #[.int .i64 r, .int .i64 c, .slice a l cap] 65) (.cells #[.int .i64 0, .int .i64 0, .slice none 0 0] 65)) hb1
  have c4 := cellAt k1 0 _ rfl
  have c5 := cellAt k1 1 _ rfl
  have c6 := cellAt k1 2 _ rfl
  have d4 : w1.frozen? ⟨w.heap.size + 1, 0, none⟩ = false := frozen_of_row _ _ _ _ _ k1
  have d5 : w1.frozen? ⟨w.heap.size + 1, 1, none⟩ = false := frozen_of_row _ _ _ _ _ k1
  have d6 : w1.frozen? ⟨w.heap.size + 1, 2, none⟩ = false := frozen_of_row _ _ _ _ _ k1
  have c9 := cell_later hb1 HS.out
  have HB1 : Hid (Below w.heap.size w w1) := (((Below.refl w.heap.size w).alloc (Nat.le_refl _) _).alloc (by simp) _).trans (hb1.mono (by simp; omega))
  clear hb1 k1
  go_wp2
  go_region
  go_wp2
  refine bodyPost_ret (v := .tuple #[.agg #[.int .i64 0, .int .i64 0, .slice none 0 0], .iface 140 (.pointer (some s))]) (by simp [results, Tryd.results59, go_sem, c4, c5, c6]) rfl ⟨rfl, ?_⟩
  exact (((HB1.out.setCell (by simp) _).setCell (by simp) _).setCell (by simp) _).drew

theorem wanted_append_run {P : Program} {w : World} {o : Oper} {a : Act} {K : Act → World → Prop} {Q : Exit → Act → World → Prop} {ys : Nat → Option Bool} {L : Prop} (hgd : o.guard = none) (s x : Operand) (t : TypeId)
    (ho : o.op = .call { callee := .builtin .append, args := #[s, x], argTypes := #[t, t] }) (v u r : Value) (w' : World) (hs : a.eval s = v) (hx : a.eval x = u)
    (hr : (Builtin.append_ #[t, t] o.type #[v, u]).run P w = .ok r w') (h : K (a.put o.dst r) w') : if Region.wanted o ys = true then Oper.wp P o a w K Q else L := by
  rw [if_pos (by simp [Region.wanted, hgd])]
  unfold Oper.wp execOp
  simp only [ho, resolve, invoke, builtin, Sem.run_bind, Sem.run_pure, Result.andThen_ok, List.map_toArray, List.map_cons, List.map_nil, hs, hx, hr]
  exact h
theorem kind_ne {w : World} {a b : Nat} {cs ds : Array Value} {t u : TypeId} {f1 f2 : Nat × Nat} (h1 : w.heap[a]? = some (.cells cs t f1)) (h2 : w.heap[b]? = some (.cells ds u f2)) (h : t ≠ u) : a ≠ b := fun e => by
  subst e; rw [h1] at h2; cases h2; exact h rfl
theorem grown_some {w w' : World} (g : Nat) (h : w.grownBy w' none) : w.grownBy w' (some g) := ⟨h.os, h.tape, h.output, h.size, fun k hk _ => h.block k hk (by simp)⟩
theorem grown_keep {w w' : World} {r : Option Nat} {k : Nat} {o : Obj} (h : w.grownBy w' r) (hk : w.heap[k]? = some o) (hne : some k ≠ r) : w'.heap[k]? = some o := (h.block k (Array.getElem?_eq_some_iff.1 hk).1 hne).trans hk

theorem has8_take {w : World} {g cap : Nat} {xs : List F} (h : Has8 w g xs cap) (m : Nat) : Has8 w g (xs.take m) cap := by
  obtain ⟨cur, hg, hs, hl, hm, ht⟩ := h
  refine ⟨cur, hg, hs, by rw [List.length_take]; omega, hm, ?_⟩
  rw [List.map_take, ← ht, List.take_take, List.length_take]
theorem row8_grown {w w' : World} {r : Option Nat} {g : Nat} {xs : List F} (h : Row8 w (some ⟨g, 0, none⟩) xs) (hb : w.grownBy w' r) (hg : g < w.heap.size) (hne : some g ≠ r) : Row8 w' (some ⟨g, 0, none⟩) xs := by
  rcases h with e | ⟨b, off, e, h⟩
  · exact .inl e
  · cases e
    refine .inr ⟨g, 0, rfl, fun j hj => ?_⟩
    rw [← h j hj]
    simp only [World.cell?, hb.block g hg hne]
theorem append8_both {w : World} {g n cap : Nat} {xs ys : List F} {ad : Addr} {m c : Nat} (ty : TypeId) (h : Has8 w g xs cap) (hn : n = xs.length) (hm : m = ys.length) (hb : n + m ≤ 140737488355328)
    (hy : ∀ j, j < ys.length → w.cell? (ad.add j) = some (.int .u8 ((at8 ys j).toNat : Int))) :
    ∃ g' cap' w', (Builtin.append_ #[22, 22] ty #[.slice (some ⟨g, 0, none⟩) n cap, .slice (some ad) m c]).run Tryd.prog w = .ok (.slice (some ⟨g', 0, none⟩) (n + m) cap') w' ∧
      Has8 w' g' (xs ++ ys) cap' ∧ w.grownBy w' (some g) ∧ (g' = g ∨ w.heap.size ≤ g' ∧ w.grownBy w' none) := by
  by_cases hroom : n + m ≤ cap
  · subst hn hm
    obtain ⟨i, hi, h1, h2, h3⟩ := info8
    obtain ⟨cur, hg, hs, hl, hmx, ht⟩ := h
    have hown : w.ownsRow 0 5 1 (.slice (some ⟨g, 0, none⟩) xs.length cap) xs.length (xs.map vf) :=
      ⟨by simp, .inr ⟨g, cap, cur, rfl, Nat.zero_le _, hg, hl, hmx, by omega, by rw [Nat.mul_one]; exact ht⟩⟩
    obtain ⟨w', hrun, ho, hgr⟩ := run_append_fits (P := Tryd.prog) w 0 22 ty 5 i 1 Tryd.underlying22 hi h1 g xs.length cap _ hown ad ys.length c (ys.map vf) (by simp) (fun j v hv => by
        simp only [List.getElem?_map, Option.map_eq_some_iff] at hv
        obtain ⟨x, hx1, rfl⟩ := hv
        have hj : j < ys.length := (List.getElem?_eq_some_iff.1 hx1).1
        have e : at8 ys j = x := by simp [at8, hx1]
        rw [hy j hj, e]; rfl) (fun v hv => by
        simp only [List.mem_map] at hv
        obtain ⟨x, _, rfl⟩ := hv
        rfl) hroom
    rcases ho.2 with ⟨hv, _⟩ | ⟨g', cap', cur', hv, _, hg', hl', hm', hs', ht'⟩
    · cases hv
    · cases hv
      exact ⟨g, cap, w', hrun, ⟨cur', hg', by omega, by simpa using hl', hm', by rw [List.length_append, List.map_append, ← ht', Nat.mul_one]⟩, hgr, .inl rfl⟩
  · obtain ⟨g', cap', w', h1, h2, h3, h4⟩ := append8_grows (cap := cap) (m := m) (c := c) ty (row8_has h) hn hm (by omega) hb hy
    exact ⟨g', cap', w', h1, h2, ⟨h3.os, h3.tape, h3.output, h3.size, fun k hk _ => h3.block k hk (by simp)⟩, .inr ⟨h4, h3⟩⟩
set_option maxHeartbeats 4000000 in
theorem apart_H (a : Option Addr) (n ca gb m cb : Nat) (xs ys : List F) (w : World) (hn : n = xs.length) (hm : m = ys.length) (hb : m ≤ 140737488351232)
    (hx : ∀ w', w.grownBy w' (some gb) → Row8 w' a xs) (hy : Has8 w gb ys cb) :
    Calls Tryd.prog 16 #[.slice a n ca, .slice (some ⟨gb, 0, none⟩) m cb] w fun e w' => e = .returned (.bool true) ∧ w.grownBy w' (some gb) ∧ Row8 w' (some ⟨gb, 0, none⟩) (ys.map fl) := by
  have k0 := conv8 (ca := ca) hn (hx w (grownBy_refl _ _))
  have hgb : gb < w.heap.size := by obtain ⟨cur, hg, _⟩ := hy; exact (Array.getElem?_eq_some_iff.1 hg).1
  have HX : Hid _ := hx
  have HY : Hid _ := hy
  have HN : Hid _ := hn
  have HM : Hid _ := hm
  clear hx hy hn hm
  go_enter Tryd.func16, Tryd.ntmps16
  go_wp2
  clear k0
  go_loopw [13] (fun i wr => ∃ k : Nat, k ≤ m ∧ i = .int .i64 k ∧ w.grownBy wr (some gb) ∧ Has8 wr gb (flTo ys k) cb) (fun i _ => m - (intOf i).toNat)
  case atStart => exact ⟨0, by omega, rfl, grownBy_refl _ _, by rw [flTo_zero]; exact HY.out⟩
  case round =>
    obtain ⟨k, hk, rfl, hg1, hh1⟩ := hrel
    by_cases hlt : k < m
    · have hky : k < ys.length := by have := HM.out; omega
      obtain ⟨c1, c2⟩ := has8_cell (j := k) hh1 (by rw [flTo_len]; exact hky)
      rw [flTo_at] at c1
      have ex := fl_val (at8 ys k)
      have HG : Hid _ := hg1
      have HH : Hid _ := hh1
      have HS : Hid _ := flTo_succ ys k hky
      have HK : Hid _ := has8_set (j := k) hh1 (by rw [flTo_len]; exact hky) (fl (at8 ys k))
      clear hg1 hh1
      go_wp2
      exact ⟨⟨k + 1, by omega, by go_num, grownBy_setCell HG.out _, by rw [← HS.out]; exact HK.out⟩, by simp [intOf]; omega⟩
    · have hk' : k = ys.length := by have := HM.out; omega
      have hh2 : Has8 wr gb (ys.map fl) cb := by rw [hk', flTo_all] at hh1; exact hh1
      have k1 := conv8 (ca := ca) HN.out (HX.out wr hg1)
      have hsz := hg1.size
      have hh2' : Has8 (wr.alloc (.cells (vfs sevens) 5)) gb (ys.map fl) cb := has8_grown hh2 (World.grownBy_alloc wr _ none) (by simp)
      obtain ⟨g2, cap2, w2, hrun, hs2, hgr2, hge2⟩ := append8_both (n := m) (ys := sevens) (ad := ⟨wr.heap.size, 0, none⟩) (m := 8) (c := 8) 22
        hh2' (by have := HM.out; simpa using this) rfl (by omega) (fun j hj => by
          have hadd : (⟨wr.heap.size, 0, none⟩ : Addr).add j = ⟨wr.heap.size, j, none⟩ := by unfold Addr.add; split <;> simp_all
          rw [hadd, World.cell?_alloc_at _ _ _ _ rfl, vfs_get _ _ hj])
      have hgr3 : w.grownBy w2 (some gb) := grownBy_trans (grownBy_trans hg1 (World.grownBy_alloc wr (.cells (vfs sevens) 5) none) (by simp)) hgr2 (fun j _ h => h)
      have hge : g2 = gb ∨ wr.heap.size + 1 ≤ g2 ∧ Has8 w2 gb (ys.map fl) cb := by
        rcases hge2 with e | ⟨e1, e2⟩
        · exact .inl e
        · simp only [World.size_alloc] at e1
          exact .inr ⟨e1, has8_grown hh2' e2 (by simp)⟩
      have HSV : Hid (vfs sevens = #[.int .u8 7, .int .u8 7, .int .u8 7, .int .u8 7, .int .u8 7, .int .u8 7, .int .u8 7, .int .u8 7]) := rfl
      have HR : Hid _ := hrun
      have HS2 : Hid _ := hs2
      have HG3 : Hid _ := hgr3
      have HGE : Hid _ := hge
      have HL : Hid ((ys.map fl).length = m) := by have := HM.out; show _ = _; rw [List.length_map]; exact this.symm
      have HLS : Hid ((ys.map fl ++ sevens).length = m + 8) := by show _ = _; rw [List.length_append, HL.out]; rfl
      have HK : Hid _ := hk'
      clear hg1 hh1 hh2 hh2' hrun hs2 hgr3 hgr2 hge2 hge hk'
      go_wp2_with (at_builtin; rw [← HSV.out]; refine wpList_append_run rfl _ _ 22 rfl _ _ _ _ rfl rfl HR.out ?_)
      clear k1
      go_loopw [8] (fun i wv => ∃ j : Nat, ∃ zs : List F, j ≤ 8 ∧ i = .int .i64 ((m + j : Nat) : Int) ∧ zs.length = m + 8 ∧ zs.take m = ys.map fl ∧ w2.grownBy wv (some g2) ∧ Has8 wv g2 zs cap2) (fun i _ => m + 8 - (intOf i).toNat)
      case atStart => exact ⟨0, _, by omega, rfl, HLS.out, by rw [← HL.out, List.take_left'] ; rfl, grownBy_refl _ _, HS2.out⟩
      case round =>
        obtain ⟨j, zs, hj, rfl, hz, hzt, hgv, hhv⟩ := hrel
        by_cases hlt2 : j < 8
        · obtain ⟨c1, c2⟩ := has8_cell (j := m + j) hhv (by omega)
          have ex := fl_val (at8 zs (m + j))
          have HG : Hid _ := hgv
          have HS : Hid _ := has8_set (j := m + j) hhv (by omega) (fl (at8 zs (m + j)))
          have HZ : Hid _ := hz
          have HZT : Hid _ := hzt
          clear hgv hhv hz hzt
          go_wp2
          exact ⟨⟨j + 1, zs.set (m + j) (fl (at8 zs (m + j))), by omega, by go_num, by rw [List.length_set]; exact HZ.out, by rw [List.take_set_of_le (by omega)]; exact HZT.out, grownBy_setCell HG.out _, HS.out⟩, by simp [intOf]; omega⟩
        · have hj8 : j = 8 := by omega
          have hfin : w.grownBy wr (some gb) := grownBy_trans HG3.out hgv (fun q hq hne => by
            rcases HGE.out with e | e
            · rw [e]; exact hne
            · simp; omega)
          have hhb : Row8 wr (some ⟨gb, 0, none⟩) (ys.map fl) := by
            rcases HGE.out with e | ⟨e, h⟩
            · subst e
              have := has8_take hhv m
              rw [hzt] at this
              exact row8_has this
            · exact row8_has (has8_grown h hgv (by simp; omega))
          have k2 := conv8 (ca := ca) HN.out (HX.out wr hfin)
          have HF : Hid _ := hfin
          have HB : Hid _ := hhb
          clear hgv hhv hfin hhb hz hzt
          subst hj8
          go_wp2
          go_ret
          exact ⟨rfl, HF.out, HB.out⟩
/-- the second list nil -/
theorem append8_nil (w : World) {ys : List F} {ad : Addr} {m c : Nat} (ty : TypeId) (hm : m = ys.length) (h0 : 0 < m) (hb : m ≤ 140737488355328)
    (hy : ∀ j, j < ys.length → w.cell? (ad.add j) = some (.int .u8 ((at8 ys j).toNat : Int))) :
    ∃ g' cap' w', (Builtin.append_ #[22, 22] ty #[.slice none 0 0, .slice (some ad) m c]).run Tryd.prog w = .ok (.slice (some ⟨g', 0, none⟩) m cap') w' ∧
      Has8 w' g' ys cap' ∧ w.grownBy w' none ∧ w.heap.size ≤ g' := by
  subst hm
  obtain ⟨i, hi, h1, h2, h3⟩ := info8
  obtain ⟨v', w', hrun, ho, hgr, hnil, hat⟩ := run_append_own_at (P := Tryd.prog) w w.heap.size 22 ty 5 i _ 1 1 Tryd.underlying22 hi h3 h1 h2 rfl (by decide)
    (.slice none 0 0) 0 [] ⟨rfl, .inl ⟨rfl, rfl⟩⟩ ad ys.length c (ys.map vf) (by simp) (fun j v hv => by
      simp only [List.getElem?_map, Option.map_eq_some_iff] at hv
      obtain ⟨x, hx1, rfl⟩ := hv
      have hj : j < ys.length := (List.getElem?_eq_some_iff.1 hx1).1
      have e : at8 ys j = x := by simp [at8, hx1]
      rw [hy j hj, e]; rfl) (fun v hv => by
      simp only [List.mem_map] at hv
      obtain ⟨x, _, rfl⟩ := hv
      rfl) (by simp only [maxLen]; omega) (by omega) (Nat.le_refl _)
  rcases ho.2 with ⟨hv, hn⟩ | ⟨g', cap', cur', hv, hg, hg', hl', hm', hs', ht'⟩
  · have := (hnil.1 hv).2
    omega
  · subst hv
    refine ⟨g', cap', w', by rw [hrun, Nat.zero_add], ⟨cur', hg', by omega, by simpa using hl', hm', ?_⟩, hgr, hg⟩
    rw [← List.nil_append (ys.map vf), ← ht', Nat.mul_one, Nat.zero_add]
set_option maxHeartbeats 4000000 in
theorem apart_nil (a : Option Addr) (n ca : Nat) (xs : List F) (w : World) (hn : n = xs.length) (hx : ∀ w', w.grownBy w' none → Row8 w' a xs) :
    Calls Tryd.prog 16 #[.slice a n ca, .slice none 0 0] w fun e w' => e = .returned (.bool true) ∧ w.grownBy w' none := by
  have k0 := conv8 (ca := ca) hn (hx w (grownBy_refl _ _))
  have HX : Hid _ := hx
  have HN : Hid _ := hn
  clear hx hn
  go_enter Tryd.func16, Tryd.ntmps16
  go_wp2
  go_loopw [13] (fun i wr => i = .int .i64 0 ∧ w = wr) (fun i _ => 0)
  case atStart => exact ⟨rfl, rfl⟩
  case round =>
    obtain ⟨rfl, rfl⟩ := hrel
    obtain ⟨g2, cap2, w2, hrun, hs2, hgr2, hge2⟩ := append8_nil (w.alloc (.cells (vfs sevens) 5)) (ys := sevens) (ad := ⟨w.heap.size, 0, none⟩) (m := 8) (c := 8) 22 rfl (by omega) (by omega) (fun j hj => by
          have hadd : (⟨w.heap.size, 0, none⟩ : Addr).add j = ⟨w.heap.size, j, none⟩ := by unfold Addr.add; split <;> simp_all
          rw [hadd, World.cell?_alloc_at _ _ _ _ rfl, vfs_get _ _ hj])
    have hgr3 : w.grownBy w2 none := grownBy_trans (World.grownBy_alloc w (.cells (vfs sevens) 5) none) hgr2 (by simp)
    have HSV : Hid (vfs sevens = #[.int .u8 7, .int .u8 7, .int .u8 7, .int .u8 7, .int .u8 7, .int .u8 7, .int .u8 7, .int .u8 7]) := rfl
    have HR : Hid _ := hrun
    have HS2 : Hid _ := hs2
    have HG3 : Hid _ := hgr3
    have HGE : Hid (w.heap.size ≤ g2) := by simp only [World.size_alloc] at hge2; show _ ≤ _; omega
    clear hrun hs2 hgr3 hgr2 hge2
    go_wp2_with (at_builtin; rw [← HSV.out]; refine wpList_append_run rfl _ _ 22 rfl _ _ _ _ rfl rfl HR.out ?_)
    clear k0
    go_loopw [8] (fun i wv => ∃ j : Nat, ∃ zs : List F, j ≤ 8 ∧ i = .int .i64 (j : Int) ∧ zs.length = 8 ∧ w2.grownBy wv (some g2) ∧ Has8 wv g2 zs cap2) (fun i _ => 8 - (intOf i).toNat)
    case atStart => exact ⟨0, _, by omega, rfl, rfl, grownBy_refl _ _, HS2.out⟩
    case round =>
      obtain ⟨j, zs, hj, rfl, hz, hgv, hhv⟩ := hrel
      by_cases hlt2 : j < 8
      · obtain ⟨c1, c2⟩ := has8_cell (j := j) hhv (by omega)
        have ex := fl_val (at8 zs j)
        have HG : Hid _ := hgv
        have HS : Hid _ := has8_set (j := j) hhv (by omega) (fl (at8 zs j))
        have HZ : Hid _ := hz
        clear hgv hhv hz
        go_wp2
        exact ⟨⟨j + 1, zs.set j (fl (at8 zs j)), by omega, by go_num, by rw [List.length_set]; exact HZ.out, grownBy_setCell HG.out _, HS.out⟩, by simp [intOf]; omega⟩
      · have hj8 : j = 8 := by omega
        have hfin : w.grownBy wr none := grownBy_trans HG3.out hgv (fun q hq _ => by have := HGE.out; simp; omega)
        have k2 := conv8 (ca := ca) HN.out (HX.out wr hfin)
        have HF : Hid _ := hfin
        clear hgv hhv hfin hz
        subst hj8
        go_wp2
        go_ret
        exact ⟨rfl, HF.out⟩

set_option maxHeartbeats 1000000 in
theorem rrow_some (r c i b off l cap : Nat) (xs : List F) (w : World) (hr : r ≤ 64) (hc : c ≤ 64) (hi : i < r) (hl : l = r * c) (hx : xs.length = r * c) (hcap : l ≤ cap) (hX : Row8 w (some ⟨b, off, none⟩) xs) :
    Calls Tryd.prog 65 #[.agg #[.int .i64 r, .int .i64 c, .slice (some ⟨b, off, none⟩) l cap], .int .i64 i] w fun e w' => ∃ g cap', e = .returned (.slice (some ⟨g, 0, none⟩) c cap') ∧ w.heap.size ≤ g ∧ Has8 w' g (rowAt c xs i) cap' ∧ Below w.heap.size w w' := by
  obtain ⟨m0, m1⟩ := mul_small (r := i) (c := c) (by omega) hc
  have m5 : i * c + c ≤ l := by
    have := Nat.mul_le_mul_right c (show i + 1 ≤ r from hi)
    rw [Nat.succ_mul] at this; omega
  have hl6 : l ≤ 4096 := by have := mul_small hr hc; have e : (r : Int) * (c : Int) = ((r * c : Nat) : Int) := by simp
                            omega
  have m4 : (i : Int) * (c : Int) = ((i * c : Nat) : Int) := by simp
  have m3 : ((i : Int) + 1) * (c : Int) = ((i * c : Nat) : Int) + (c : Int) := by rw [Int.add_mul, Int.one_mul, m4]
  have hrow : Row8 w (some ⟨b, rof off (i * c) cap, none⟩) (rowAt c xs i) := by
    rcases hX with e | ⟨b2, off2, e, h⟩
    · left
      rw [e]; simp [rowAt]
    · cases e
      exact row8_rowAt hx hi (by omega) h
  have hlen := rowAt_len hx hi
  generalize hp : i * c = p at m3 m4 m5 hrow ⊢
  rw [m4] at m0 m1
  have hh := heap_alloc_last (w.alloc (.cells #[.int .i64 r, .int .i64 c, .slice (some ⟨b, off, none⟩) l cap] 65)) (.cells #[] 5)
  obtain ⟨g', cap', w2, h1, h2, h3, h4⟩ := append8_new (g := w.heap.size + 1) (m := c) (c := cap - p) (a := some ⟨b, rof off p cap, none⟩) (ys := rowAt c xs i) 22 (by simpa using hh) hlen.symm (by omega) (row8_alloc (row8_alloc hrow _) _) (fun h => by cases h)
  have HR : Hid _ := h1
  have H2 : Hid _ := h2
  have HB : Hid (Below w.heap.size w w2) := grownBy_below (g := w.heap.size + 1) ((((Below.refl _ _).alloc (Nat.le_refl _) _).alloc (by simp) _)) ⟨h3.os, h3.tape, h3.output, h3.size, fun k hk _ => h3.block k hk (by simp)⟩ (by omega) (by simp; omega)
  have hg : w.heap.size ≤ g' := by
    rcases h4 with rfl | h4
    · omega
    · simp at h4; omega
  clear h1 h2 h3 h4 hh hX hrow hlen hp hl hx
  by_cases h : cap = p
  · subst h
    rw [rof_same] at HR
    have h0 : cap - cap = 0 := Nat.sub_self _
    rw [h0] at HR
    go_enter Tryd.func65, Tryd.ntmps65
    go_wp2_with (at_builtin; refine wpList_append_run rfl _ _ 22 rfl _ _ _ _ rfl ?_ HR.out ?_)
    · simp only [Nat.add_sub_cancel_left]
      rfl
    · go_wp2
      go_ret
      exact ⟨g', cap', rfl, hg, H2.out, HB.out⟩
  · rw [rof_room h] at HR
    go_enter Tryd.func65, Tryd.ntmps65
    go_wp2_with (at_builtin; refine wpList_append_run rfl _ _ 22 rfl _ _ _ _ rfl ?_ HR.out ?_)
    · simp only [Nat.add_sub_cancel_left]
      rfl
    · go_wp2
      go_ret
      exact ⟨g', cap', rfl, hg, H2.out, HB.out⟩

set_option maxHeartbeats 1000000 in
theorem rrow_nil (r i cap : Nat) (a : Option Addr) (w : World) (hi : i < 64) (hnil : a = none → cap = 0) :
    Calls Tryd.prog 65 #[.agg #[.int .i64 r, .int .i64 0, .slice a 0 cap], .int .i64 i] w fun e w' => ∃ g cap', e = .returned (.slice (some ⟨g, 0, none⟩) 0 cap') ∧ w.heap.size ≤ g ∧ Has8 w' g [] cap' ∧ Below w.heap.size w w' := by
  have hh := heap_alloc_last (w.alloc (.cells #[.int .i64 r, .int .i64 0, .slice a 0 cap] 65)) (.cells #[] 5)
  rw [World.size_alloc] at hh
  obtain ⟨g', cap', w2, h1, h2, h3, h4⟩ := append8_new (m := 0) (c := cap) (a := a) (ys := []) 22 hh rfl (by omega) (.inl rfl) hnil
  have HR : Hid _ := h1
  have H2 : Hid _ := h2
  have HB : Hid (Below w.heap.size w w2) := grownBy_below (g := w.heap.size + 1) ((((Below.refl _ _).alloc (Nat.le_refl _) _).alloc (by simp) _)) ⟨h3.os, h3.tape, h3.output, h3.size, fun k hk _ => h3.block k hk (by simp)⟩ (by omega) (by simp; omega)
  have hg : w.heap.size ≤ g' := by
    rcases h4 with rfl | h4
    · omega
    · simp at h4; omega
  have HN : Hid _ := hnil
  clear h1 h2 h3 h4 hh hnil
  by_cases h : cap = 0
  · subst h
    go_enter Tryd.func65, Tryd.ntmps65
    go_wp2_with (at_builtin; refine wpList_append_run rfl _ _ 22 rfl _ _ _ _ rfl rfl HR.out ?_)
    go_wp2
    go_ret
    exact ⟨g', cap', rfl, hg, H2.out, HB.out⟩
  · cases a with
    | none => exact absurd (HN.out rfl) h
    | some ad =>
      obtain ⟨b, off, tg⟩ := ad
      go_enter Tryd.func65, Tryd.ntmps65
      go_wp2_with (at_builtin; refine wpList_append_run rfl _ _ 22 rfl _ _ _ _ rfl rfl HR.out ?_)
      go_wp2
      go_ret
      exact ⟨g', cap', rfl, hg, H2.out, HB.out⟩
/-- of every matrix in form, every row that is there -/
theorem rrow_F (r c i l cap : Nat) (a : Option Addr) (xs : List F) (w : World) (hr : r ≤ 64) (hc : c ≤ 64) (hi : i < r) (hl : l = r * c) (hx : xs.length = r * c) (hcap : l ≤ cap) (hX : Row8 w a xs) (hnil : a = none → cap = 0) :
    Calls Tryd.prog 65 #[.agg #[.int .i64 r, .int .i64 c, .slice a l cap], .int .i64 i] w fun e w' => ∃ g cap', e = .returned (.slice (some ⟨g, 0, none⟩) c cap') ∧ w.heap.size ≤ g ∧ Has8 w' g (rowAt c xs i) cap' ∧ Below w.heap.size w w' := by
  rcases hX with e | ⟨b, off, rfl, h⟩
  · have h0 : r * c = 0 := by rw [← hx, e]; rfl
    have hc0 : c = 0 := by
      rcases Nat.mul_eq_zero.1 h0 with h | h
      · omega
      · exact h
    subst hc0
    obtain rfl : l = 0 := by omega
    refine (rrow_nil r i cap a w (by omega) hnil).mono fun e' w' ⟨g, cap', h⟩ => ⟨g, cap', ?_⟩
    have e0 : rowAt 0 xs i = [] := List.eq_nil_of_length_eq_zero (rowAt_len hx hi)
    rw [e0]
    exact h
  · exact rrow_some r c i b off l cap xs w hr hc hi hl hx hcap (.inr ⟨b, off, rfl, h⟩)
end Go.Proofs.YtmlpijlcpeoeaaaDoor

/- What combine of package code answers, of all matrices in form and as many lists of one size as columns; nothing that was there turns. -/
namespace Go.Proofs.YtmlpijlcpeoeaaaDoor
open Go.RowKit Gf
set_option linter.unusedVariables false
set_option maxRecDepth 20000
/-- lists as values, each in a block of its own -/
def rowsP (H : Nat) (gs : List (Nat × Nat)) : List Value := gs.map fun p => .slice (some ⟨p.1, 0, none⟩) H p.2
theorem rowsP_len (H : Nat) (gs : List (Nat × Nat)) : (rowsP H gs).length = gs.length := by simp [rowsP]
theorem rowsP_snoc (H : Nat) (gs : List (Nat × Nat)) (g cap : Nat) : rowsP H gs ++ [.slice (some ⟨g, 0, none⟩) H cap] = rowsP H (gs ++ [(g, cap)]) := by simp [rowsP]
theorem rowsP_at {H i : Nat} {gs : List (Nat × Nat)} {p : Nat × Nat} (h : gs[i]? = some p) : (rowsP H gs)[i]? = some (.slice (some ⟨p.1, 0, none⟩) H p.2) := by simp [rowsP, h]
/-- what row i of a combination is, byte by byte -/
def combL (c H : Nat) (xs : List F) (L : List (List F)) (i : Nat) : List F := rowF H (fun b => sumF (fun v => gm (at8 xs (i * c + v)) (bytesD L v b)) c)
theorem combL_len (c H : Nat) (xs : List F) (L : List (List F)) (i : Nat) : (combL c H xs L i).length = H := rowF_len _ _
/-- rows in blocks of their own, the later the higher -/
def RowsP (w : World) (B : Nat) (gs : List (Nat × Nat)) (f : Nat → List F) : Prop :=
  (∀ (i : Nat) (p : Nat × Nat), gs[i]? = some p → B ≤ p.1 ∧ Has8 w p.1 (f i) p.2) ∧ ∀ (i j : Nat) (p q : Nat × Nat), i < j → gs[i]? = some p → gs[j]? = some q → p.1 < q.1
theorem rowsP_nil (w : World) (B : Nat) (f : Nat → List F) : RowsP w B [] f := ⟨fun i p h => by simp at h, fun i j p q _ h => by simp at h⟩
theorem has8_later {w w' : World} {g cap : Nat} {xs : List F} (h : Has8 w g xs cap) (hb : Below w.heap.size w w') : Has8 w' g xs cap := by
  obtain ⟨cur, h1, h2⟩ := h
  exact ⟨cur, heap_later h1 hb, h2⟩
theorem has8_set_other {w : World} {g cap M j : Nat} {xs : List F} {v : Value} (h : Has8 w g xs cap) (hne : g ≠ M) : Has8 (w.setCell ⟨M, j, none⟩ v) g xs cap := by
  obtain ⟨cur, h1, h2⟩ := h
  exact ⟨cur, (heap_setCell_other _ _ _ _ hne).trans h1, h2⟩
theorem has8_lt {w : World} {g cap : Nat} {xs : List F} (h : Has8 w g xs cap) : g < w.heap.size := by
  obtain ⟨cur, h1, _⟩ := h
  exact ltHeap h1
theorem rowsP_below {w w' : World} {B : Nat} {gs : List (Nat × Nat)} {f : Nat → List F} (h : RowsP w B gs f) (hb : Below w.heap.size w w') : RowsP w' B gs f :=
  ⟨fun i p hp => ⟨(h.1 i p hp).1, has8_later (h.1 i p hp).2 hb⟩, h.2⟩
theorem rowsP_step {w w' : World} {B M g cap : Nat} {v : Value} {gs : List (Nat × Nat)} {f : Nat → List F} (h : RowsP w B gs f) (hb : Below w.heap.size w w') (hg : w.heap.size ≤ g) (hB : B ≤ g) (hM : M < w.heap.size) (hMg : ∀ (i : Nat) (p : Nat × Nat), gs[i]? = some p → p.1 ≠ M) (hr : Has8 w' g (f gs.length) cap) :
    RowsP (w'.setCell ⟨M, gs.length, none⟩ v) B (gs ++ [(g, cap)]) f := by
  refine ⟨fun i p hp => ?_, fun i j p q hij hp hq => ?_⟩
  · by_cases hi : i < gs.length
    · rw [List.getElem?_append_left hi] at hp
      exact ⟨(h.1 i p hp).1, has8_set_other (has8_later (h.1 i p hp).2 hb) (hMg i p hp)⟩
    · have e := (List.getElem?_eq_some_iff.1 hp).1
      simp at e
      obtain rfl : i = gs.length := by omega
      rw [List.getElem?_append_right (Nat.le_refl _), Nat.sub_self] at hp
      obtain rfl := Option.some.inj hp
      exact ⟨hB, has8_set_other hr (by show g ≠ M; omega)⟩
  · have ej := (List.getElem?_eq_some_iff.1 hq).1
    simp at ej
    rw [List.getElem?_append_left (by omega)] at hp
    by_cases hj : j < gs.length
    · rw [List.getElem?_append_left hj] at hq
      exact h.2 i j p q hij hp hq
    · obtain rfl : j = gs.length := by omega
      rw [List.getElem?_append_right (Nat.le_refl _), Nat.sub_self] at hq
      obtain rfl := Option.some.inj hq
      have := has8_lt (h.1 i p hp).2
      show p.1 < g
      omega
theorem rowsP_rows {w : World} {B M H R : Nat} {gs : List (Nat × Nat)} {f : Nat → List F} (h : RowsP w B gs f) (hl : gs.length = R) (hf : ∀ i, (f i).length = H) (hM : w.heap[M]? = some (.cells (slW (rowsP H gs) R) 22 (0, 0))) : Rows8 w (some ⟨M, 0, none⟩) ((List.range R).map f) := by
  refine .inr ⟨M, 0, rfl, fun j xs hj => ?_⟩
  have hjR : j < R := by have := (List.getElem?_eq_some_iff.1 hj).1; simpa using this
  rw [List.getElem?_map, List.getElem?_range hjR] at hj
  obtain rfl := Option.some.inj hj
  have hg : gs[j]? = some gs[j] := List.getElem?_eq_getElem (by omega)
  refine ⟨some ⟨gs[j].1, 0, none⟩, gs[j].2, ?_, row8_has (h.1 j _ hg).2⟩
  rw [Nat.zero_add, hf]
  exact cellAt hM j _ (slW_at (rowsP_at hg))
theorem comb_row {R c H i : Nat} {xs : List F} {L : List (List F)} (hi : i < R) (hL : L.length = c) (hLH : ∀ ys ∈ L, ys.length = H) : rowAt H (mulM c H xs L.flatten R) i = combL c H xs L i := by
  rw [mulM, rowAt_grid hi]
  refine rowF_congr fun b hb => sumF_congr fun v hv => ?_
  rw [bytesD, flat_at hLH (by omega) hb]
set_option maxHeartbeats 4000000 in
theorem ccomb_F (R c H l cap lh ch : Nat) (a ah : Option Addr) (xs : List F) (L : List (List F)) (w : World) (hR : R ≤ 64) (hc1 : 1 ≤ c) (hc : c ≤ 64) (hH : H ≤ 64) (hl : l = R * c) (hx : xs.length = R * c) (hcap : l ≤ cap) (hX : Row8 w a xs)
    (hlh : lh = c) (hL : L.length = c) (hLH : ∀ ys ∈ L, ys.length = H) (hLX : Rows8 w ah L) :
    Calls Tryd.prog 30 #[.agg #[.int .i64 R, .int .i64 c, .slice a l cap], .slice ah lh ch] w fun e w' => ∃ M gs, e = .returned (.tuple #[.slice (some ⟨M, 0, none⟩) R R, .nilIface]) ∧ w.heap.size ≤ M ∧ gs.length = R ∧
      w'.heap[M]? = some (.cells (slW (rowsP H gs) R) 22 (0, 0)) ∧ RowsP w' w.heap.size gs (combL c H xs L) ∧ Below w.heap.size w w' := by
  have HL : Hid (l = R * c) := hl
  have HX : Hid (xs.length = R * c) := hx
  have HRX : Hid (Row8 w a xs) := hX
  have HLL : Hid (L.length = c) := hL
  have HLH : Hid (∀ ys ∈ L, ys.length = H) := hLH
  have HLX : Hid (Rows8 w ah L) := hLX
  have HLc : Hid (lh = c) := hlh
  obtain ⟨b, off, rfl, hb0, hcl⟩ := rows8_at hLX (show 0 < L.length by omega)
  obtain ⟨a0, cap0, e0, -⟩ := hcl 0 _ (List.getElem?_eq_getElem (by omega))
  rw [hLH _ (List.getElem_mem _), Nat.add_zero] at e0
  have hlh0 : 0 < lh := by omega
  have hmk := run_makeS R hR
  rw [slW_nil] at hmk
  have hA := holds_new (holds_nil w) #[.int .i64 R, .int .i64 c, .slice a l cap] 65
  have HB1 : Hid (Below w.heap.size w (w.alloc (.cells #[.int .i64 R, .int .i64 c, .slice a l cap] 65))) := (Below.refl w.heap.size w).alloc (Nat.le_refl _) _
  have e1 := cell_later HB1.out e0
  have HA : Hid _ := hA
  clear hl hx hX hL hLH hLX hcl e0 hA hlh
  go_enter Tryd.func30, Tryd.ntmps30
  go_wp2_with fail
  refine Calls.mono (of_F H lh ch _ L _ hH (by have h1 := HLL.out; have h2 := HLc.out; omega) (by have := HLc.out; omega) HLH.out (rows8_below HLX.out HB1.out)) ?_
  rintro e w2 ⟨g2, n2, rfl, hn2, hg2, hh2, hb2⟩
  have HB2 : Hid (Below w.heap.size w w2) := HB1.out.trans (hb2.mono HB1.out.size)
  have HA2 : Hid _ := holds_cons (holds_later HA.out hb2) hh2
  have HN2 : Hid (n2 = lh * H) := hn2
  clear hb2 hh2 hn2 e1 HA HB1
  have c0 := cellAt (holds_at HA2.out 1 rfl) 0 _ rfl
  have c1 := cellAt (holds_at HA2.out 1 rfl) 1 _ rfl
  have c2 := cellAt (holds_at HA2.out 1 rfl) 2 _ rfl
  have HA3 : Hid _ := holds_new HA2.out #[.int .i64 lh, .int .i64 H, .slice (some ⟨g2, 0, none⟩) n2 n2] 65
  have HB3 : Hid _ := HB2.out.alloc HB2.out.size (.cells #[.int .i64 lh, .int .i64 H, .slice (some ⟨g2, 0, none⟩) n2 n2] 65)
  have z2 := ltHeap (holds_at HA2.out 1 rfl)
  have HFL : Hid (L.flatten.length = c * H) := by show _ = _; rw [flat_len HLH.out, HLL.out]
  clear HA2 HB2
  go_wp2_with fail
  obtain rfl : lh = c := HLc.out
  refine Calls.mono (product_F R lh H l cap n2 n2 a (some ⟨g2, 0, none⟩) xs L.flatten _ hR hc hH HL.out HX.out hcap (row8_below HRX.out HB3.out) HN2.out HFL.out (Nat.le_refl _) (holds_row HA3.out 1 rfl)) ?_
  rintro e w4 ⟨g4, n4, rfl, hn4, hg4, hh4, hb4⟩
  have HB4 : Hid (Below w.heap.size w w4) := HB3.out.trans (hb4.mono HB3.out.size)
  have HH4 : Hid (w4.heap[g4]? = some (.cells (vfs (mulM lh H xs L.flatten R)) 5 (0, 0))) := hh4
  have HN4 : Hid (n4 = R * H) := hn4
  clear hb4 hh4 hn4 c0 c1 c2 z2 HA3 HB3 hg2 hg4 HN2 HFL
  go_wp2
  have hz4 := HB4.out.size
  have hA5 := holds_new (holds_new (holds_cons (holds_nil w4) HH4.out) #[.int .i64 R, .int .i64 H, .slice (some ⟨g4, 0, none⟩) n4 n4] 65) (slW [] R) 22
  rw [World.size_alloc] at hA5
  have HB5 : Hid (Below w.heap.size w ((w4.alloc (.cells #[.int .i64 R, .int .i64 H, .slice (some ⟨g4, 0, none⟩) n4 n4] 65)).alloc (.cells (slW [] R) 22))) := (HB4.out.alloc hz4 _).alloc (by simp; omega) _
  have HA5 : Hid _ := hA5
  clear hA5 HB4 HH4 hmk
  generalize ((w4.alloc (.cells #[.int .i64 R, .int .i64 H, .slice (some ⟨g4, 0, none⟩) n4 n4] 65)).alloc (.cells (slW [] R) 22)) = W5 at *
  generalize hP : w4.heap.size = P at *
  generalize hM : P + 1 = M at *
  have hM0 : w.heap.size ≤ M := by omega
  have hPM : P ≠ M := by omega
  have hgM : g4 ≠ M := kind_ne (holds_at HA5.out 2 rfl) (holds_at HA5.out 0 rfl) (by decide)
  clear hP hM
  go_loopw [37] (fun i wr => ∃ j : Nat, ∃ gs : List (Nat × Nat), j ≤ R ∧ i = .int .i64 j ∧ gs.length = j ∧ Below w.heap.size w wr ∧
    Holds wr [(M, .cells (slW (rowsP H gs) R) 22 (0, 0)), (P, .cells #[.int .i64 R, .int .i64 H, .slice (some ⟨g4, 0, none⟩) n4 n4] 65 (0, 0)), (g4, .cells (vfs (mulM lh H xs L.flatten R)) 5 (0, 0))] ∧
    RowsP wr w.heap.size gs (combL lh H xs L)) (fun i _ => R - (intOf i).toNat)
  case atStart => exact ⟨0, [], by omega, rfl, rfl, HB5.out, HA5.out, rowsP_nil _ _ _⟩
  case round =>
    obtain ⟨j, gs, hj, rfl, hgs, hb, hh, hrows⟩ := hrel
    have HB : Hid _ := hb
    have HH : Hid _ := hh
    have HR : Hid (RowsP wr w.heap.size gs (combL lh H xs L)) := hrows
    have HGS : Hid (gs.length = j) := hgs
    clear hb hh hrows hgs
    by_cases hlt : j < R
    · have c0 := cellAt (holds_at HH.out 1 rfl) 0 _ rfl
      have c1 := cellAt (holds_at HH.out 1 rfl) 1 _ rfl
      have c2 := cellAt (holds_at HH.out 1 rfl) 2 _ rfl
      go_wp2_with fail
      refine Calls.mono (row_F R H n4 n4 j (some ⟨g4, 0, none⟩) (mulM lh H xs L.flatten R) _ hR hH HN4.out (mulM_len _ _ _ _ _) (Nat.le_refl _) (holds_row HH.out 2 rfl) (fun h => by cases h) hlt) ?_
      rintro e w6 ⟨a6, cap6, rfl, _, _, hg6, hb6⟩
      obtain ⟨g6, rfl, hg6, hr6⟩ := hg6 (by simp)
      rw [comb_row hlt HLL.out HLH.out] at hr6
      have hz := HB.out.size
      have hlM := ltHeap (holds_at HH.out 0 rfl)
      have hs6 := heap_later (holds_at HH.out 0 rfl) hb6
      have hg6M : g6 ≠ M := by omega
      have hS := HGS.out
      have c7 : w6.cell? ⟨M, j, none⟩ = some (.slice none 0 0) := cellAt hs6 j _ (by have e := slW_next (vs := rowsP H gs) (r := R) (by rw [rowsP_len, hS]; exact hlt); rwa [rowsP_len, hS] at e)
      have c8 : w6.frozen? ⟨M, j, none⟩ = false := frozen_of_row _ _ _ _ _ hs6
      have HRX' : Hid (RowsP (w6.setCell ⟨M, j, none⟩ (.slice (some ⟨g6, 0, none⟩) H cap6)) w.heap.size (gs ++ [(g6, cap6)]) (combL lh H xs L)) := by
        have := rowsP_step (v := .slice (some ⟨g6, 0, none⟩) H cap6) (M := M) (cap := cap6) HR.out hb6 hg6 (by omega) hlM (fun i p hp => by
          obtain ⟨cur, h1, _⟩ := (HR.out.1 i p hp).2
          exact kind_ne h1 (holds_at HH.out 0 rfl) (by decide)) (by rw [hS]; exact hr6)
        rwa [hS] at this
      have HT6 : Hid ((w6.setCell ⟨M, j, none⟩ (.slice (some ⟨g6, 0, none⟩) H cap6)).heap[M]? = some (.cells (slW (rowsP H (gs ++ [(g6, cap6)])) R) 22 (0, 0))) := by
        show _ = _
        have e := slW_set (.slice (some ⟨g6, 0, none⟩) H cap6) (vs := rowsP H gs) (r := R) (by rw [rowsP_len, hS]; exact hlt)
        rw [rowsP_len, hS, rowsP_snoc] at e
        rw [heap_setCell_same _ _ _ _ _ _ hs6, e]
      have hX0 := holds_later HH.out hb6
      have HHX : Hid (Holds (w6.setCell ⟨M, j, none⟩ (.slice (some ⟨g6, 0, none⟩) H cap6)) [(M, .cells (slW (rowsP H (gs ++ [(g6, cap6)])) R) 22 (0, 0)), (P, .cells #[.int .i64 R, .int .i64 H, .slice (some ⟨g4, 0, none⟩) n4 n4] 65 (0, 0)), (g4, .cells (vfs (mulM lh H xs L.flatten R)) 5 (0, 0))]) :=
        holds_cons (holds_cons (holds_cons (holds_nil _) ((heap_setCell_other _ _ _ _ hgM).trans (holds_at hX0 2 rfl))) ((heap_setCell_other _ _ _ _ hPM).trans (holds_at hX0 1 rfl))) HT6.out
      have HBX : Hid (Below w.heap.size w (w6.setCell ⟨M, j, none⟩ (.slice (some ⟨g6, 0, none⟩) H cap6))) := (HB.out.trans (hb6.mono HB.out.size)).setCell (by show w.heap.size ≤ M; omega) _
      clear hs6 hb6 hr6 hX0 c0 c1 c2 hS
      go_wp2
      exact ⟨⟨j + 1, gs ++ [(g6, cap6)], by omega, by go_num, by simp [HGS.out], HBX.out, HHX.out, HRX'.out⟩, by simp [intOf]; omega⟩
    · obtain rfl : j = R := by omega
      go_wp2
      go_ret2
      exact ⟨M, gs, rfl, hM0, HGS.out, holds_at HH.out 0 rfl, HR.out, HB.out⟩
end Go.Proofs.YtmlpijlcpeoeaaaDoor

/- What small numbers in decimal, and names of halves, answer: the library's Itoa, nameOf, Name, Parse of package half, the document's own Number and Name; nothing that was there turns. -/
namespace Go.Proofs.YtmlpijlcpeoeaaaDoor
open Go.RowKit Gf
set_option linter.unusedVariables false
set_option maxRecDepth 20000
/-- a number below a hundred in decimal -/
def numB (n : Nat) : List UInt8 := if n < 10 then [UInt8.ofNat (48 + n)] else [UInt8.ofNat (48 + n / 10), UInt8.ofNat (48 + n % 10)]
/-- bytes as a string -/
def strB (l : List UInt8) : ByteArray := ⟨l.toArray⟩
theorem numB_dec {n : Nat} (h : n < 100) : Lib.decDigits n = numB n := by
  by_cases h1 : n < 10
  · rw [Lib.decDigits_one h1, numB, if_pos h1]
  · rw [Lib.decDigits_two h1 h, numB, if_neg h1]
theorem small_ba (x : ByteArray) (l : List UInt8) (h : x.data.toList = l) : x = strB l := by
  subst h
  cases x
  simp [strB]
theorem extr_data (x : ByteArray) (i j : Nat) : (x.extract i j).data.toList = (x.data.toList.drop i).take (j - i) := by
  simp [ByteArray.data_extract]
/-- a half's name -/
def nameB (k h : Nat) : List UInt8 := (if h / 2 < k then 100 :: numB (h / 2) else 112 :: numB (h / 2 - k)) ++ [if h % 2 = 0 then 97 else 98]
theorem ab0 : (⟨#[97, 98]⟩ : ByteArray).extract 0 1 = strB [97] := by decide +kernel
theorem ab1 : (⟨#[97, 98]⟩ : ByteArray).extract 1 2 = strB [98] := by decide +kernel
theorem strB_app (a b : List UInt8) : strB a ++ strB b = strB (a ++ b) := by
  apply ByteArray.ext
  simp [strB]
theorem strB_size (l : List UInt8) : (strB l).size = l.length := by simp [strB, ByteArray.size]
theorem numB_size (n : Nat) : (strB (numB n)).size ≤ 2 := by
  rw [strB_size, numB]
  split <;> simp
theorem strB_one (c : UInt8) : (⟨#[c]⟩ : ByteArray) = strB [c] := rfl
theorem strB_nil : (⟨#[]⟩ : ByteArray) = strB [] := rfl
theorem strB_inj {a b : List UInt8} (h : strB a = strB b) : a = b := by
  have := congrArg (fun x => x.data.toList) h
  simpa [strB] using this
def dig (d : Nat) : UInt8 := UInt8.ofNat (48 + d)
theorem numB_one {n : Nat} (h : n < 10) : numB n = [dig n] := if_pos h
theorem numB_two {n : Nat} (h : ¬ n < 10) : numB n = [dig (n / 10), dig (n % 10)] := if_neg h
theorem strB_list (l : List UInt8) : (strB l).toList = l := by simp [strB]
theorem strB_some {l : List UInt8} (h : l ≠ []) : (strB l).toList.isEmpty = false := by rw [strB_list]; cases l with | nil => exact absurd rfl h | cons => rfl
theorem numB_ne (n : Nat) : numB n ≠ [] := by rw [numB]; split <;> simp
def emptyN : Value → Nat | .string b => if b.size = 0 then 1 else 0 | _ => 0
theorem vf_digit {d : Nat} (h : d < 10) : Value.int .u8 (48 + (d : Int)) = vf (dig d) := by
  have : (UInt8.ofNat (48 + d)).toNat = 48 + d := by rw [UInt8.toNat_ofNat']; omega
  simp only [vf, dig, this]
  simp
theorem conv_digit {d : Nat} (h : d < 10) (w : World) : (convert 22 9 (.slice (some ⟨w.heap.size, 0, none⟩) 1 1)).run Tryd.prog (w.alloc (.cells #[.int .u8 (48 + (d : Int))] 5)) = .ok (.string (strB [dig d])) (w.alloc (.cells #[.int .u8 (48 + (d : Int))] 5)) := by
  rw [vf_digit h]
  exact conv8 (xs := [dig d]) rfl (row8_own (heap_alloc_last w (.cells (vfs [dig d]) 5)))
end Go.Proofs.YtmlpijlcpeoeaaaDoor

/- What Name and Parse of package half answer, at all numbers and texts; unlike halves have unlike names; nothing that was there turns. -/
namespace Go.Proofs.YtmlpijlcpeoeaaaDoor
open Go.RowKit Gf
set_option linter.unusedVariables false
set_option maxRecDepth 20000
theorem strB_eq {a b : List UInt8} (h : a = b) : ((strB a).toList == (strB b).toList) = true := by rw [h]; exact beq_self_eq_true _
theorem strB_ne {a b : List UInt8} (h : ¬ a = b) : ((strB a).toList == (strB b).toList) = false := by rw [strB_list, strB_list]; exact beq_eq_false_iff_ne.2 h
theorem nameB_inj : ∀ k < 15, ∀ h < 32, ∀ j < 32, nameB k h = nameB k j → h = j := by decide +kernel
theorem nameB_len : ∀ k < 15, ∀ h < 32, 3 ≤ (nameB k h).length ∧ (nameB k h).length ≤ 4 := by decide +kernel
/-- which half a name is -/
def ParsedAs (k n : Nat) (l : List UInt8) (s : Addr) (v : Value) : Prop :=
  (∃ h : Nat, h < n ∧ nameB k h = l ∧ v = .tuple #[.int .i64 h, .nilIface]) ∨ (∀ h, h < n → nameB k h ≠ l) ∧ v = .tuple #[.int .i64 0, errAt s]
end Go.Proofs.YtmlpijlcpeoeaaaDoor

/- What Row of package half answers, and Rows of numbers that aren't legal; alive of stage 5; nothing that was there turns. -/
namespace Go.Proofs.YtmlpijlcpeoeaaaDoor
open Go.RowKit Gf
set_option linter.unusedVariables false
set_option maxRecDepth 20000
set_option maxHeartbeats 1000000 in
theorem hrows_bad (k r : Int) (w : World) (s : Addr) (hs : w.cell? ⟨0, 0, none⟩ = some (errAt s)) (hk0 : -9223372036854775808 ≤ k) (hk1 : k ≤ 9223372036854775807) (hr0 : -9223372036854775808 ≤ r) (hr1 : r ≤ 9223372036854775807) (h : ¬ LegalP k r) :
    Calls Tryd.prog 28 #[.int .i64 k, .int .i64 r] w fun e w' => e = .returned (.tuple #[.agg #[.int .i64 0, .int .i64 0, .slice none 0 0], errAt s]) ∧ Below w.heap.size w w' := by
  have HB0 : Hid _ := (Below.refl w.heap.size w).alloc (Nat.le_refl _) (.cells #[.int .i64 0, .int .i64 0, .slice none 0 0] 65)
  have HA0 : Hid _ := holds_new (holds_nil w) #[.int .i64 0, .int .i64 0, .slice none 0 0] 65
  have HS : Hid _ := cell_later HB0.out hs
  have H : Hid _ := h
  clear h hs
  unfold errAt at *
  go_enter Tryd.func28, Tryd.ntmps28
  go_wp2_with fail
  refine Calls.mono (generator_bad k r _ s HS.out hk0 hk1 hr0 hr1 H.out) ?_
  unfold errAt
  rintro e w1 ⟨rfl, hb1⟩
  have HA1 : Hid _ := holds_alloc (holds_later HA0.out hb1) (.cells #[.int .i64 0, .int .i64 0, .slice none 0 0] 65)
  have hB1 := HB0.out.trans (hb1.mono HB0.out.size)
  have HB1 : Hid _ := hB1.alloc hB1.size (.cells #[.int .i64 0, .int .i64 0, .slice none 0 0] 65)
  have zz := hb1.size
  have k2 := holds_at (holds_later HA0.out hb1) 0 rfl
  have d4 : w1.frozen? ⟨w.heap.size, 0, none⟩ = false := frozen_of_row _ _ _ _ _ k2
  have d5 : w1.frozen? ⟨w.heap.size, 1, none⟩ = false := frozen_of_row _ _ _ _ _ k2
  have d6 : w1.frozen? ⟨w.heap.size, 2, none⟩ = false := frozen_of_row _ _ _ _ _ k2
  have c4 := cellAt k2 0 _ rfl
  have c5 := cellAt k2 1 _ rfl
  have c6 := cellAt k2 2 _ rfl
  have z4 := ltHeap k2
  have hbX : Hid _ := hb1
  clear hb1 hB1 k2
  go_wp2
  refine bodyPost_ret (v := .tuple #[.agg #[.int .i64 0, .int .i64 0, .slice none 0 0], .iface 140 (.pointer (some s))]) (by simp [results, Tryd.results28, go_sem, c4, c5, c6, z4]) rfl ⟨rfl, ?_⟩
  have hX := (((HB0.out.trans (hbX.out.mono HB0.out.size)).setCell (p := ⟨w.heap.size, 0, none⟩) (Nat.le_refl _) (.int .i64 0)).setCell (p := ⟨w.heap.size, 1, none⟩) (Nat.le_refl _) (.int .i64 0)).setCell (p := ⟨w.heap.size, 2, none⟩) (Nat.le_refl _) (.slice none 0 0)
  exact hX.alloc hX.size _
theorem rowAt_half {k r h : Nat} (hh : h < 2 * (k + r)) : rowAt (2 * k) (halfM k r) h = rowF (2 * k) (halfF k (carN (groupN k r)) h) := rowAt_grid hh
theorem alive5_row : rowF (2 * 1) (halfF 1 (carN (groupN 1 2)) 5) = [1, 142] := by decide +kernel
theorem alive5_name : strB (nameB 4 9) = ⟨#[112, 48, 98]⟩ := by decide +kernel
end Go.Proofs.YtmlpijlcpeoeaaaDoor

/- What SameLists answers of two lists that are the same, and what Apart answers of two pieces of memory that lie apart: the second one is written over. -/
namespace Go.Proofs.YtmlpijlcpeoeaaaDoor
open Go.RowKit Gf
set_option linter.unusedVariables false
set_option maxRecDepth 20000
set_option maxHeartbeats 1000000 in
theorem sameLists_F (l ca cb : Nat) (a b : Option Addr) (L : List (List F)) (w : World) (hl : l = L.length) (hl9 : l ≤ 140737488355328) (ha : Rows8 w a L) (hb : Rows8 w b L) :
    Calls Tryd.prog 15 #[.slice a l ca, .slice b l cb] w fun e w' => e = .returned (.bool true) ∧ Below w.heap.size w w' := by
  have HL : Hid _ := hl
  have HA : Hid _ := ha
  have HB : Hid _ := hb
  clear hl ha hb
  go_enter Tryd.func15, Tryd.ntmps15
  go_wp2
  go_loopw [13] (fun t wr => ∃ j : Nat, j ≤ l ∧ t = .int .i64 j ∧ Below w.heap.size w wr) (fun t _ => l - (intOf t).toNat)
  case atStart => exact ⟨0, by omega, rfl, Below.refl _ _⟩
  case round =>
    obtain ⟨j, hj, rfl, hbw⟩ := hrel
    have HBW : Hid _ := hbw
    by_cases hlt : j < l
    · obtain ⟨b1, o1, rfl, _, h1⟩ := rows8_at (rows8_below HA.out hbw) (show j < L.length by rw [← HL.out]; exact hlt)
      obtain ⟨b2, o2, rfl, _, h2⟩ := rows8_at (rows8_below HB.out hbw) (show j < L.length by rw [← HL.out]; exact hlt)
      obtain ⟨xs, hxs⟩ : ∃ xs, L[j]? = some xs := ⟨_, List.getElem?_eq_getElem (by rw [← HL.out]; exact hlt)⟩
      obtain ⟨a1, q1, e1, r1⟩ := h1 j xs hxs
      obtain ⟨a2, q2, e2, r2⟩ := h2 j xs hxs
      have c1 : ∀ w', Below wr.heap.size wr w' → w'.cell? ⟨b1, o1 + j, none⟩ = some (.slice a1 xs.length q1) := fun w' hb => cell_later hb e1
      have c2 : ∀ w', Below wr.heap.size wr w' → w'.cell? ⟨b2, o2 + j, none⟩ = some (.slice a2 xs.length q2) := fun w' hb => cell_later hb e2
      have kA := conv_keep8 (ca := q1) (show xs.length = xs.length from rfl) (row_keep r1)
      have kB := conv_keep8 (ca := q2) (show xs.length = xs.length from rfl) (row_keep r2)
      clear hbw h1 h2 hxs e1 e2 r1 r2
      go_upto_region 6 with fail
      have hR2 : Below wr.heap.size wr wr.drew := (Below.refl _ _).drew
      go_region_held3 (fun w' => Below wr.heap.size wr w') (first | assumption | (refine Below.drew ?_; assumption)) (fail)
      clear kA kB c1 c2 hR2
      go_wp2
      exact ⟨⟨j + 1, by omega, by go_num, HBW.out.drew⟩, by simp [intOf]; omega⟩
    · obtain rfl : j = l := by omega
      clear hbw
      go_wp2
      go_ret
      exact ⟨rfl, HBW.out⟩
/-- turned as far as byte o + k -/
theorem flTo_len' (xs : List F) (k : Nat) : (flTo xs k).length = xs.length := flTo_len xs k
theorem append8_growsAt {w : World} {g o n cap : Nat} {xs ys : List F} {ad : Addr} {m c : Nat} (ty : TypeId) (hx : Row8 w (some ⟨g, o, none⟩) xs) (hn : n = xs.length) (hm : m = ys.length) (hcap : cap < n + m) (hb : n + m ≤ 140737488355328)
    (hy : ∀ j, j < ys.length → w.cell? (ad.add j) = some (.int .u8 ((at8 ys j).toNat : Int))) :
    ∃ g' cap' w', (Builtin.append_ #[22, 22] ty #[.slice (some ⟨g, o, none⟩) n cap, .slice (some ad) m c]).run Tryd.prog w = .ok (.slice (some ⟨g', 0, none⟩) (n + m) cap') w' ∧
      Has8 w' g' (xs ++ ys) cap' ∧ w.grownBy w' none ∧ w.heap.size ≤ g' := by
  subst hn hm
  obtain ⟨i, hi, h1, h2, h3⟩ := info8
  obtain ⟨v', w', hrun, ho, hgr⟩ := run_append_arg_grows (P := Tryd.prog) w 22 ty 5 i _ 1 1 Tryd.underlying22 hi h3 h1 h2 rfl (by decide)
    ⟨g, o, none⟩ xs.length cap (xs.map vf) (by simp) (fun j v hv => by
      simp only [List.getElem?_map, Option.map_eq_some_iff] at hv
      obtain ⟨x, hx1, rfl⟩ := hv
      have hj : j < xs.length := (List.getElem?_eq_some_iff.1 hx1).1
      have e : at8 xs j = x := by simp [at8, hx1]
      rcases hx with e' | ⟨b, off, e', hx⟩
      · rw [e'] at hj; simp at hj
      · cases e'
        have hadd : (⟨g, o, none⟩ : Addr).add j = ⟨g, o + j, none⟩ := by unfold Addr.add; split <;> simp_all
        rw [hadd, hx j hj, e]; rfl)
    ad ys.length c (ys.map vf) (by simp) (fun j v hv => by
      simp only [List.getElem?_map, Option.map_eq_some_iff] at hv
      obtain ⟨x, hx1, rfl⟩ := hv
      have hj : j < ys.length := (List.getElem?_eq_some_iff.1 hx1).1
      have e : at8 ys j = x := by simp [at8, hx1]
      rw [hy j hj, e]; rfl) hcap (by simp only [maxLen]; omega) (by omega)
  rcases ho.2 with ⟨hv, h0⟩ | ⟨g', cap', cur', hv, hge, hg', hl', hm', hs', ht'⟩
  · omega
  · subst hv
    refine ⟨g', cap', w', hrun, ⟨cur', hg', by omega, by simpa using hl', hm', ?_⟩, hgr, hge⟩
    rw [List.length_append, List.map_append, ← ht', Nat.mul_one]
theorem add_zero_at (g j : Nat) : (⟨g, 0, none⟩ : Addr).add j = ⟨g, j, none⟩ := by unfold Addr.add; split <;> simp_all
theorem row8_piece {w : World} {g o m : Nat} {xs : List F} {t : TypeId} {fr : Nat × Nat} (h : w.heap[g]? = some (.cells (vfs xs) t fr)) (ho : o + m ≤ xs.length) : Row8 w (some ⟨g, o, none⟩) ((xs.drop o).take m) :=
  .inr ⟨g, o, rfl, fun j hj => by
    rw [List.length_take, List.length_drop] at hj
    rw [cell_of_row _ _ _ _ _ _ h, vfs_get _ _ (by omega), at8_take (by omega), at8_drop]⟩
/-- Apart, where the second list is a piece of a block, full, and the first one doesn't meet it -/
theorem apart_S (gb o m n ca : Nat) (aa : Option Addr) (xs ys : List F) (w : World) (hn : n = xs.length) (ho : o + m ≤ ys.length) (hm : m ≤ 140737488351232)
    (hy : w.heap[gb]? = some (.cells (vfs (flTo ys o)) 5 (0, 0)))
    (hx : ∀ k, k ≤ m → ∀ w', w.grownBy w' (some gb) → w'.heap[gb]? = some (.cells (vfs (flTo ys (o + k))) 5 (0, 0)) → Row8 w' aa xs) :
    Calls Tryd.prog 16 #[.slice aa n ca, .slice (some ⟨gb, o, none⟩) m m] w fun e w' => e = .returned (.bool true) ∧ w.grownBy w' (some gb) ∧
      w'.heap[gb]? = some (.cells (vfs (flTo ys (o + m))) 5 (0, 0)) := by
  have k0 := conv8 (ca := ca) hn (hx 0 (Nat.zero_le _) w (World.grownBy.refl _ _) hy)
  have hgb : gb < w.heap.size := ltHeap hy
  have HX : Hid _ := hx
  have HY : Hid _ := hy
  have HN : Hid _ := hn
  have HO : Hid _ := ho
  clear hx hy hn
  go_enter Tryd.func16, Tryd.ntmps16
  go_wp2
  clear k0
  go_loopw [13] (fun i wr => ∃ k : Nat, k ≤ m ∧ i = .int .i64 k ∧ w.grownBy wr (some gb) ∧ wr.heap[gb]? = some (.cells (vfs (flTo ys (o + k))) 5 (0, 0))) (fun i _ => m - (intOf i).toNat)
  case atStart => exact ⟨0, by omega, rfl, World.grownBy.refl _ _, HY.out⟩
  case round =>
    obtain ⟨k, hk, rfl, hg1, hh1⟩ := hrel
    by_cases hlt : k < m
    · have hky : o + k < ys.length := by have := HO.out; omega
      have c1 : wr.cell? ⟨gb, o + k, none⟩ = some (.int .u8 ((at8 ys (o + k)).toNat : Int)) := by
        rw [cell_of_row _ _ _ _ _ _ hh1, vfs_get _ _ (by rw [flTo_len]; exact hky), flTo_at]
      have c2 : wr.frozen? ⟨gb, o + k, none⟩ = false := frozen_of_row _ _ _ _ _ hh1
      have ex := fl_val (at8 ys (o + k))
      have HG : Hid _ := hg1
      have HH : Hid _ := hh1
      have HS : Hid _ := flTo_succ ys (o + k) hky
      clear hg1 hh1
      go_wp2
      exact ⟨⟨k + 1, by omega, by go_num, grownBy_setCell HG.out _, by rw [heap_setCell_same _ _ _ _ _ _ HH.out, vfs_set, HS.out]; rfl⟩, by simp [intOf]; omega⟩
    · obtain rfl : k = m := by omega
      obtain ⟨zs, hzs⟩ : ∃ zs, zs = ((flTo ys (o + k)).drop o).take k := ⟨_, rfl⟩
      have hzl : k = zs.length := by
        rw [hzs, List.length_take, List.length_drop, flTo_len]
        have := HO.out
        omega
      have hzr : Row8 wr (some ⟨gb, o, none⟩) zs := by
        rw [hzs]
        exact row8_piece hh1 (by rw [flTo_len]; exact HO.out)
      have k1 := conv8 (ca := ca) HN.out (HX.out k (Nat.le_refl _) wr hg1 hh1)
      have hsz := hg1.size
      obtain ⟨g2, cap2, w2, hrun, hs2, hgr2, hge2⟩ := append8_growsAt (w := wr.alloc (.cells (vfs sevens) 5)) (g := gb) (o := o) (n := k) (cap := k) (xs := zs) (ys := sevens) (ad := ⟨wr.heap.size, 0, none⟩) (m := 8) (c := 8) 22
        (row8_alloc hzr _) hzl rfl (by omega) (by omega) (fun j hj => by
          rw [add_zero_at, World.cell?_alloc_at _ _ _ _ rfl, vfs_get _ _ hj])
      have hge : wr.heap.size + 1 ≤ g2 := by simpa using hge2
      have hgr3 : w.grownBy w2 (some gb) := grownBy_trans (grownBy_trans hg1 (World.grownBy_alloc wr (.cells (vfs sevens) 5) none) (by simp)) hgr2 (by simp)
      have hh3 : w2.heap[gb]? = some (.cells (vfs (flTo ys (o + k))) 5 (0, 0)) := (hgr2.block gb (by simp; omega) (by simp)).trans (((World.grownBy_alloc wr _ none).block gb (by omega) (by simp)).trans hh1)
      have HSV : Hid (vfs sevens = #[.int .u8 7, .int .u8 7, .int .u8 7, .int .u8 7, .int .u8 7, .int .u8 7, .int .u8 7, .int .u8 7]) := rfl
      have HR : Hid _ := hrun
      have HS2 : Hid _ := hs2
      have HG3 : Hid _ := hgr3
      have HH3 : Hid _ := hh3
      have HLS : Hid ((zs ++ sevens).length = k + 8) := by show _ = _; rw [List.length_append, ← hzl]; rfl
      clear hg1 hh1 hzr hzs hzl hrun hs2 hgr3 hh3 hgr2 hge2
      go_wp2_with (at_builtin; rw [← HSV.out]; refine wpList_append_run rfl _ _ 22 rfl _ _ _ _ rfl rfl HR.out ?_)
      clear k1
      have hg2b : g2 ≠ gb := by omega
      have hg2w : w.heap.size ≤ g2 := by omega
      go_loopw [8] (fun i wv => ∃ j : Nat, ∃ zs : List F, j ≤ 8 ∧ i = .int .i64 ((k + j : Nat) : Int) ∧ zs.length = k + 8 ∧ w2.grownBy wv (some g2) ∧ Has8 wv g2 zs cap2) (fun i _ => k + 8 - (intOf i).toNat)
      case atStart => exact ⟨0, _, by omega, rfl, HLS.out, World.grownBy.refl _ _, HS2.out⟩
      case round =>
        obtain ⟨j, zs, hj, rfl, hz, hgv, hhv⟩ := hrel
        by_cases hlt2 : j < 8
        · obtain ⟨c1, c2⟩ := has8_cell (j := k + j) hhv (by omega)
          have ex := fl_val (at8 zs (k + j))
          have HG : Hid _ := hgv
          have HS : Hid _ := has8_set (j := k + j) hhv (by omega) (fl (at8 zs (k + j)))
          have HZ : Hid _ := hz
          clear hgv hhv hz
          go_wp2
          exact ⟨⟨j + 1, zs.set (k + j) (fl (at8 zs (k + j))), by omega, by go_num, by rw [List.length_set]; exact HZ.out, grownBy_setCell HG.out _, HS.out⟩, by simp [intOf]; omega⟩
        · have hj8 : j = 8 := by omega
          have hfin : w.grownBy wr (some gb) := grownBy_trans HG3.out hgv (fun q hq _ => by simp; omega)
          have hhb : wr.heap[gb]? = some (.cells (vfs (flTo ys (o + k))) 5 (0, 0)) := (hgv.block gb (Array.getElem?_eq_some_iff.1 HH3.out).1 (fun e => hg2b (Option.some.inj e).symm)).trans HH3.out
          have k2 := conv8 (ca := ca) HN.out (HX.out k (Nat.le_refl _) wr hfin hhb)
          have HF : Hid _ := hfin
          have HB : Hid _ := hhb
          clear hgv hhv hfin hhb hz
          subst hj8
          go_wp2
          go_ret
          exact ⟨rfl, HF.out, HB.out⟩
end Go.Proofs.YtmlpijlcpeoeaaaDoor

/- What Encode of package code answers, of all numbers and lists of bytes; nothing that was there turns. -/
namespace Go.Proofs.YtmlpijlcpeoeaaaDoor
open Go.RowKit Gf
set_option linter.unusedVariables false
set_option maxRecDepth 20000
/-- which error Encode tells -/
def encE (k r n : Int) : Nat := if LegalP k r then halfE k n else 1
theorem encE_ok {k r n : Int} (h : encE k r n = 0) : ∃ a b m : Nat, k = a ∧ r = b ∧ n = m ∧ 1 ≤ a ∧ 2 ≤ b ∧ a + b ≤ 16 ∧ 1 ≤ m ∧ m ≤ 128 * a := by
  unfold encE at h
  split at h
  · rename_i hL
    obtain ⟨a, b, rfl, rfl, h1, h2, h3⟩ := legal_nat hL
    obtain ⟨c, m, hc, rfl, _, _, h4, h5⟩ := half_ok h
    exact ⟨a, b, m, rfl, rfl, rfl, h1, h2, h3, h4, by omega⟩
  · omega
theorem encE_of {k r n : Nat} (h1 : 1 ≤ k) (h2 : 2 ≤ r) (h3 : k + r ≤ 16) (h4 : 1 ≤ n) (h5 : n ≤ 128 * k) : encE k r n = 0 := by
  unfold encE; rw [if_pos (show LegalP k r from ⟨by omega, by omega, by omega⟩), halfE_ok h1 (by omega) h4 h5]
theorem halfE_25 (k n : Int) : halfE k n ≤ 25 := by unfold halfE; split <;> (try split) <;> (try split) <;> omega
theorem encE_le (k r n : Int) : encE k r n ≤ 25 := by unfold encE; split; exact halfE_25 _ _; omega
/-- the errors that Encode and Fits name -/
def ErrsF (w : World) (E : Nat → Addr) : Prop := ErrsE w E ∧ w.cell? ⟨2, 0, none⟩ = some (errAt (E 1))
theorem errsF_below {w w' : World} {E : Nat → Addr} (h : ErrsF w E) (hb : Below w.heap.size w w') : ErrsF w' E := ⟨errsE_below h.1 hb, cell_later hb h.2⟩
theorem comb_half {k r H : Nat} {L : List (List F)} {i : Nat} (hi : i < 2 * (k + r)) : combL (2 * k) H (halfM k r) L i = imgL k (carN (groupN k r)) H (bytesD L) i :=
  rowF_congr fun b _ => sumF_congr fun v hv => by rw [halfM, at8_grid hi hv]
theorem rowsP_congr {w : World} {B : Nat} {gs : List (Nat × Nat)} {f g : Nat → List F} (h : RowsP w B gs f) (e : ∀ i, i < gs.length → f i = g i) : RowsP w B gs g :=
  ⟨fun i p hp => ⟨(h.1 i p hp).1, by rw [← e i (List.getElem?_eq_some_iff.1 hp).1]; exact (h.1 i p hp).2⟩, h.2⟩
/-- all halves of a stripe in memory, each in a block of its own -/
def EncAt (w : World) (B M : Nat) (k r n : Nat) (xs : List F) (gs : List (Nat × Nat)) : Prop :=
  B ≤ M ∧ gs.length = 2 * (k + r) ∧ w.heap[M]? = some (.cells (slW (rowsP (cntN (2 * k) n) gs) (2 * (k + r))) 22 (0, 0)) ∧ RowsP w B gs (imgL k (carN (groupN k r)) (cntN (2 * k) n) (strD (cntN (2 * k) n) xs))
theorem encAt_below {w w' : World} {B M k r n : Nat} {xs : List F} {gs : List (Nat × Nat)} (h : EncAt w B M k r n xs gs) (hb : Below w.heap.size w w') : EncAt w' B M k r n xs gs := ⟨h.1, h.2.1, heap_later h.2.2.1 hb, rowsP_below h.2.2.2 hb⟩
theorem encAt_rows {w : World} {B M k r n : Nat} {xs : List F} {gs : List (Nat × Nat)} (h : EncAt w B M k r n xs gs) : Rows8 w (some ⟨M, 0, none⟩) (encL k r (cntN (2 * k) n) xs) :=
  rowsP_rows h.2.2.2 h.2.1 (fun i => imgL_len _ _ _ _ _) h.2.2.1
set_option maxHeartbeats 4000000 in
theorem encode_ok (k r n ca : Nat) (a : Option Addr) (xs : List F) (w : World) (E : Nat → Addr) (hE : ErrsF w E) (h1 : 1 ≤ k) (h2 : 2 ≤ r) (h3 : k + r ≤ 16) (h4 : 1 ≤ n) (h5 : n ≤ 128 * k) (hn : n = xs.length) (hx : Row8 w a xs) :
    Calls Tryd.prog 11 #[.int .i64 k, .int .i64 r, .slice a n ca] w fun e w' => ∃ (M c : Nat) (gs : List (Nat × Nat)), e = .returned (.tuple #[.slice (some ⟨M, 0, none⟩) c c, .nilIface]) ∧ c = 2 * (k + r) ∧
      EncAt w' w.heap.size M k r n xs gs ∧ Below w.heap.size w w' := by
  obtain ⟨k1, k2, _, _⟩ := cnt_half h1 (show k ≤ 14 by omega) h4 h5
  have HE : Hid (ErrsF w E) := hE
  have HX : Hid (Row8 w a xs) := hx
  have HN : Hid (n = xs.length) := hn
  clear hE hx hn
  obtain ⟨c2, hc2⟩ : ∃ c2, c2 = 2 * k := ⟨_, rfl⟩
  obtain ⟨cR, hcR⟩ : ∃ cR, cR = 2 * (k + r) := ⟨_, rfl⟩
  have HC2 : Hid (c2 = 2 * k) := hc2
  have HCR : Hid (cR = 2 * (k + r)) := hcR
  have HR : Hid _ := fun w s h => hrows_F k r w s h h1 h2 h3
  rw [← hc2, ← hcR] at HR
  have hcl : c2 ≤ 28 := by omega
  have hcl1 : 1 ≤ c2 := by omega
  have hRl : cR ≤ 32 := by omega
  clear hc2 hcR
  go_enter Tryd.func11, Tryd.ntmps11
  go_wp2_with fail
  refine Calls.mono (HR.out _ (E 1) HE.out.2) ?_
  rintro e w1 ⟨g1, m1, rfl, hm1, hg1, hh1, hb1⟩
  have HA1 : Hid _ := holds_new (holds_cons (holds_nil w1) hh1) #[.int .i64 cR, .int .i64 c2, .slice (some ⟨g1, 0, none⟩) m1 m1] 65
  have HB1 : Hid (Below w.heap.size w (w1.alloc (.cells #[.int .i64 cR, .int .i64 c2, .slice (some ⟨g1, 0, none⟩) m1 m1] 65))) := hb1.alloc hb1.size _
  have HM1 : Hid (m1 = cR * c2) := hm1
  clear hm1 hg1 hh1 hb1
  go_wp2_with fail
  refine Calls.mono (split_ok k n ca a xs _ E (errsE_below HE.out.1 HB1.out) h1 (by omega) h4 h5 HN.out (row8_below HX.out HB1.out)) ?_
  rintro e w2 ⟨hb2, g2, c, H, rfl, hc, hH, hz1, hz2, hne, hB2, hG2, hbl⟩
  obtain rfl : c = c2 := by rw [hc, HC2.out]
  have HH : Hid (H = cntN (2 * k) n) := hH
  have HR2 : Hid (Rows8 w2 (some ⟨hb2, 0, none⟩) ((List.range c).map (hf H xs))) := .inr ⟨hb2, 0, rfl, fun j ys hj => by
    have hjc : j < c := by have := (List.getElem?_eq_some_iff.1 hj).1; simpa using this
    rw [List.getElem?_map, List.getElem?_range hjc] at hj
    obtain rfl := Option.some.inj hj
    refine ⟨some ⟨g2, j * H, none⟩, H, ?_, row8_half hG2 hjc⟩
    rw [Nat.zero_add, hf_len]
    exact cellAt hB2 j _ (hvV_at hjc (Nat.le_refl _))⟩
  have HA2 : Hid _ := holds_later HA1.out hbl
  have HB2 : Hid (Below w.heap.size w w2) := HB1.out.trans (hbl.mono HB1.out.size)
  have hHl : H ≤ 64 := by rw [hH]; exact k2
  clear hc hH hz1 hz2 hne hB2 hG2 hbl HA1 HB1
  have c0 := cellAt (holds_at HA2.out 0 rfl) 0 _ rfl
  have c1 := cellAt (holds_at HA2.out 0 rfl) 1 _ rfl
  have c3 := cellAt (holds_at HA2.out 0 rfl) 2 _ rfl
  go_wp2_with fail
  refine Calls.mono (ccomb_F cR c H m1 m1 c c (some ⟨g1, 0, none⟩) (some ⟨hb2, 0, none⟩) (halfM k r) ((List.range c).map (hf H xs)) _ (by omega) hcl1 (by omega) hHl HM1.out (by rw [halfM_len, HCR.out, HC2.out]) (Nat.le_refl _) (holds_row HA2.out 1 rfl)
    rfl (by simp) (fun ys hy => by obtain ⟨v, _, rfl⟩ := List.mem_map.1 hy; exact hf_len _ _ _) HR2.out) ?_
  rintro e w3 ⟨M, gs, rfl, hM, hgs, hT, hrs, hb3⟩
  have HB3 : Hid (Below w.heap.size w w3) := HB2.out.trans (hb3.mono HB2.out.size)
  have HEnc : Hid (EncAt w3 w.heap.size M k r n xs gs) := by
    have hz := HB2.out.size
    refine ⟨by omega, by rw [hgs, HCR.out], by rw [← HH.out, ← HCR.out]; exact hT, ?_⟩
    have hr2 : RowsP w3 w.heap.size gs (combL c H (halfM k r) ((List.range c).map (hf H xs))) := ⟨fun i p hp => ⟨by have := (hrs.1 i p hp).1; omega, (hrs.1 i p hp).2⟩, hrs.2⟩
    refine rowsP_congr hr2 fun i hi => ?_
    rw [HC2.out, comb_half (by rw [← HCR.out, ← hgs]; exact hi), img_stripe (by omega), ← HH.out]
  clear hM hgs hT hrs hb3 c0 c1 c3
  go_wp2
  go_ret2
  exact ⟨M, cR, gs, rfl, HCR.out, HEnc.out, HB3.out⟩
set_option maxHeartbeats 2000000 in
theorem encode_bad (k r : Int) (n ca : Nat) (a : Option Addr) (w : World) (E : Nat → Addr) (hE : ErrsF w E) (hk0 : -9223372036854775808 ≤ k) (hk1 : k ≤ 9223372036854775807) (hr0 : -9223372036854775808 ≤ r) (hr1 : r ≤ 9223372036854775807) (hla : n ≤ 140737488355328) (h : encE k r n ≠ 0) :
    Calls Tryd.prog 11 #[.int .i64 k, .int .i64 r, .slice a n ca] w fun e w' => e = .returned (.tuple #[.slice none 0 0, evV E (encE k r n)]) ∧ Below w.heap.size w w' := by
  have HE : Hid (ErrsF w E) := hE
  clear hE
  by_cases hL : LegalP k r
  · obtain ⟨p, q, rfl, rfl, h1, h2, h3⟩ := legal_nat hL
    have he : encE p q n = halfE p n := by unfold encE; rw [if_pos hL]
    rw [he] at h ⊢
    have HS : Hid _ := fun u hu => split_bad p a n ca u E hu hla h
    obtain ⟨s, hs⟩ : ∃ s, evV E (halfE p n) = errAt s := ⟨E (halfE p n - 1), by unfold evV; rw [if_neg h]⟩
    rw [hs] at HS ⊢
    have HR : Hid _ := fun w s h => hrows_F p q w s h h1 h2 h3
    clear hs he h hL
    unfold errAt at HS ⊢
    go_enter Tryd.func11, Tryd.ntmps11
    go_wp2_with fail
    refine Calls.mono (HR.out _ (E 1) HE.out.2) ?_
    rintro e w1 ⟨g1, m1, rfl, hm1, hg1, hh1, hb1⟩
    have HB1 : Hid (Below w.heap.size w (w1.alloc (.cells #[.int .i64 (2 * (p + q) : Nat), .int .i64 (2 * p : Nat), .slice (some ⟨g1, 0, none⟩) m1 m1] 65))) := hb1.alloc hb1.size _
    clear hm1 hg1 hh1 hb1
    go_wp2_with fail
    refine Calls.mono (HS.out _ (errsE_below HE.out.1 HB1.out)) ?_
    rintro e w2 ⟨rfl, hb2⟩
    have HB2 : Hid (Below w.heap.size w w2) := HB1.out.trans (hb2.mono HB1.out.size)
    clear hb2
    go_wp2_with fail
    go_ret2
    exact ⟨rfl, HB2.out⟩
  · have he : encE k r n = 1 := by unfold encE; rw [if_neg hL]
    rw [he, evV_succ]
    have HR : Hid _ := fun u hu => hrows_bad k r u (E 0) hu hk0 hk1 hr0 hr1 hL
    clear he h hL
    unfold errAt at HR ⊢
    go_enter Tryd.func11, Tryd.ntmps11
    go_wp2_with fail
    refine Calls.mono (HR.out _ HE.out.1.1) ?_
    rintro e w1 ⟨rfl, hb1⟩
    have HB1 : Hid (Below w.heap.size w w1) := hb1
    clear hb1
    go_wp2_with fail
    go_ret2
    exact ⟨rfl, HB1.out.alloc HB1.out.size _⟩
end Go.Proofs.YtmlpijlcpeoeaaaDoor

/- The chapter's worked answer of package code holds: the function 'alive' of the statements returns true. -/
namespace Go.Proofs.YtmlpijlcpeoeaaaDoor
open Go.RowKit Gf
set_option linter.unusedVariables false
set_option maxRecDepth 20000
theorem alive7_1 : imgL 1 (carN (groupN 1 2)) (cntN (2 * 1) 2) (strD (cntN (2 * 1) 2) [5, 7]) 4 = [140] := by decide +kernel
theorem alive7_2 : imgL 1 (carN (groupN 1 2)) (cntN (2 * 1) 2) (strD (cntN (2 * 1) 2) [5, 7]) 5 = [136] := by decide +kernel
set_option maxHeartbeats 2000000 in
theorem alive7_ok (w : World) (E : Nat → Addr) (hE : ErrsF w E) : Calls Tryd.prog 9 #[] w fun e w' => e = .returned (.bool true) ∧ Below w.heap.size w w' := by
  have HE : Hid (ErrsF w E) := hE
  clear hE
  have HB0 : Hid (Below w.heap.size w (w.alloc (.cells #[.int .u8 5, .int .u8 7] 5))) := (Below.refl _ _).alloc (Nat.le_refl _) _
  have HL : Hid (Row8 (w.alloc (.cells #[.int .u8 5, .int .u8 7] 5)) (some ⟨w.heap.size, 0, none⟩) [5, 7]) := row8_own (show (w.alloc (.cells #[.int .u8 5, .int .u8 7] 5)).heap[w.heap.size]? = some (.cells (vfs [5, 7]) 5 (0, 0)) from heap_alloc_last _ _)
  go_enter Tryd.func9, Tryd.ntmps9
  go_wp2_with fail
  refine Calls.mono (encode_ok 1 2 2 2 _ [5, 7] _ E (errsF_below HE.out HB0.out) (by decide) (by decide) (by decide) (by decide) (by decide) rfl HL.out) ?_
  rintro e w2 ⟨M, c, gs, rfl, rfl, hE2, hb2⟩
  have HB2 : Hid (Below w.heap.size w w2) := HB0.out.trans (hb2.mono HB0.out.size)
  obtain ⟨_, hl, hT, hR, _⟩ := hE2
  have hl6 : gs.length = 6 := hl
  obtain ⟨⟨g4, c4⟩, h4⟩ : ∃ p, gs[4]? = some p := ⟨_, List.getElem?_eq_getElem (by omega)⟩
  obtain ⟨⟨g5, c5⟩, h5⟩ : ∃ p, gs[5]? = some p := ⟨_, List.getElem?_eq_getElem (by omega)⟩
  have r4 := row8_has (hR 4 _ h4).2
  have r5 := row8_has (hR 5 _ h5).2
  rw [alive7_1] at r4
  rw [alive7_2] at r5
  have d4 := cellAt hT 4 _ (slW_at (rowsP_at h4))
  have d5 := cellAt hT 5 _ (slW_at (rowsP_at h5))
  rw [show cntN (2 * 1) 2 = 1 from by decide] at d4 d5
  have kC4 : ∀ u, Below w2.heap.size w2 u → (convert 22 9 (.slice (some ⟨g4, 0, none⟩) 1 c4)).run Tryd.prog u = .ok (.string ⟨#[140]⟩) u := fun u hu => by
    have := conv8 (la := 1) (ca := c4) rfl (row8_below r4 hu)
    rwa [show str8 [140] = { data := #[140] } by decide +kernel] at this
  have kC5 : ∀ u, Below w2.heap.size w2 u → (convert 22 9 (.slice (some ⟨g5, 0, none⟩) 1 c5)).run Tryd.prog u = .ok (.string ⟨#[136]⟩) u := fun u hu => by
    have := conv8 (la := 1) (ca := c5) rfl (row8_below r5 hu)
    rwa [show str8 [136] = { data := #[136] } by decide +kernel] at this
  have kB : ∀ (b : Nat) (u : World) (x : F) (s : ByteArray), u.heap[b]? = some (.cells #[.int .u8 (x.toNat : Int)] 5 (0, 0)) → str8 [x] = s → (convert 22 9 (.slice (some ⟨b, 0, none⟩) 1 1)).run Tryd.prog u = .ok (.string s) u := fun b u x s h e => by
    have := conv8 (la := 1) (ca := 1) (show 1 = ([x] : List F).length from rfl) (row8_own (xs := [x]) h)
    rwa [e] at this
  have b0 : Below w2.heap.size w2 w2.drew := (Below.refl _ _).drew
  have b1 : Below w2.heap.size w2 (w2.alloc (.cells #[.int .u8 140] 5)) := (Below.refl _ _).alloc (Nat.le_refl _) _
  have b2 : Below w2.heap.size w2 ((w2.alloc (.cells #[.int .u8 140] 5)).alloc (.cells #[.int .u8 136] 5)) := b1.alloc (by simp) _
  have f1 := kC4 _ b0
  have f2 := kC4 _ b1.drew
  have f3 := kC5 _ b1.drew
  have f4 := kC5 _ b2.drew
  have f5 := kB w2.heap.size (w2.alloc (.cells #[.int .u8 140] 5)).drew 140 ⟨#[140]⟩ (heap_alloc_last _ _) (by decide +kernel)
  have f6 := kB (w2.alloc (.cells #[.int .u8 140] 5)).heap.size ((w2.alloc (.cells #[.int .u8 140] 5)).alloc (.cells #[.int .u8 136] 5)).drew 136 ⟨#[136]⟩ (heap_alloc_last _ _) (by decide +kernel)
  rw [World.size_alloc] at f6
  have e140 : ((ByteArray.mk #[140]).toList == (ByteArray.mk #[140]).toList) = true := by decide +kernel
  have e136 : ((ByteArray.mk #[136]).toList == (ByteArray.mk #[136]).toList) = true := by decide +kernel
  have lM := ltHeap hT
  clear hl hT hR h4 h5 hb2 kC4 kC5 kB b0 b1 b2 r4 r5
  go_wp2
  go_region
  go_wp2
  go_ret
  have z := HB2.out.size
  exact ⟨rfl, ((HB2.out.alloc z _).alloc (by simp; omega) _).drew⟩
end Go.Proofs.YtmlpijlcpeoeaaaDoor

/- Shards in a block of one's own: three cells each. What Shards of package code answers, of all numbers and lists of bytes. -/
namespace Go.Proofs.YtmlpijlcpeoeaaaDoor
open Go.RowKit Gf
set_option linter.unusedVariables false
set_option maxRecDepth 20000
abbrev Tri := Value × Value × Value
/-- three values to an element -/
def triL (T : List Tri) : List Value := T.flatMap fun t => [t.1, t.2.1, t.2.2]
def triC (T : List Tri) : Array Value := (triL T).toArray
def tri3 (t : Tri) : Nat → Value
  | 0 => t.1
  | 1 => t.2.1
  | _ => t.2.2
theorem triL_at : ∀ (T : List Tri) (j q : Nat), q < 3 → (triL T)[j * 3 + q]? = T[j]?.map fun t => tri3 t q
  | [], j, q, _ => by simp [triL]
  | t :: T, 0, q, h => by
    match q, h with
    | 0, _ => rfl
    | 1, _ => rfl
    | 2, _ => rfl
  | t :: T, j + 1, q, h => by
    have := triL_at T j q h
    rw [show (j + 1) * 3 + q = (j * 3 + q) + 3 by omega]
    exact this
theorem triL_set : ∀ (T : List Tri) (j : Nat) (a b c : Value), (((triL T).set (j * 3) a).set (j * 3 + 1) b).set (j * 3 + 2) c = triL (T.set j (a, b, c))
  | [], j, a, b, c => by simp [triL]
  | t :: T, 0, a, b, c => rfl
  | t :: T, j + 1, a, b, c => by
    have := triL_set T j a b c
    rw [show (j + 1) * 3 + 1 = (j * 3 + 1) + 3 by omega, show (j + 1) * 3 + 2 = (j * 3 + 2) + 3 by omega, show (j + 1) * 3 = (j * 3) + 3 by omega]
    show t.1 :: t.2.1 :: t.2.2 :: (((triL T).set (j * 3) a).set (j * 3 + 1) b).set (j * 3 + 2) c = _
    rw [this]; rfl
theorem triC_at {T : List Tri} {j q : Nat} {t : Tri} (h : T[j]? = some t) (hq : q < 3) : (triC T)[j * 3 + q]? = some (tri3 t q) := by
  show (triL T).toArray[j * 3 + q]? = _
  rw [List.getElem?_toArray, triL_at T j q hq, h]; rfl
theorem triC_set (T : List Tri) (j : Nat) (a b c : Value) : (((triC T).setIfInBounds (j * 3) a).setIfInBounds (j * 3 + 1) b).setIfInBounds (j * 3 + 2) c = triC (T.set j (a, b, c)) := by
  apply Array.toList_inj.1
  simp only [Array.toList_setIfInBounds, triC]
  exact triL_set T j a b c
/-- the zero of a shard -/
def zeroT : Tri := (.int .i64 0, .slice none 0 0, .slice none 0 0)
theorem infoT : ∃ i, Tryd.prog.info? 38 = some i ∧ i.size = 3 ∧ i.bytes = 56 ∧ i.zero = some (.agg #[.int .i64 0, .slice none 0 0, .slice none 0 0]) := by
  have hi : (Tryd.prog.info? 38).map (fun i => (i.size, i.bytes, i.zero)) = some (3, 56, some (.agg #[.int .i64 0, .slice none 0 0, .slice none 0 0])) := by kernel_rfl
  cases hq : Tryd.prog.info? 38 with
  | none => simp [hq] at hi
  | some i =>
    simp only [hq, Option.map_some, Option.some.injEq, Prod.mk.injEq] at hi
    exact ⟨i, rfl, hi.1, hi.2.1, hi.2.2⟩
theorem run_makeT (n : Nat) (hn : n ≤ 64) (w : World) :
    (Instr.makeSlice 30 (.int .i64 (n : Int)) (.int .i64 (n : Int))).run Tryd.prog w = .ok (.slice (some ⟨w.heap.size, 0, none⟩) n n) (w.alloc (.cells (triC (List.replicate n zeroT)) 38)) := by
  obtain ⟨i, hi, h1, h2, h3⟩ := infoT
  have := run_make (P := Tryd.prog) w 30 38 i _ Tryd.underlying30 hi h3 .i64 .i64 n n (by omega) (by omega) (by rw [h2]; omega) (by omega)
  rw [this, h1]
  have e : madeCells (Value.agg #[.int .i64 0, .slice none 0 0, .slice none 0 0]).cells (n * 3) = triC (List.replicate n zeroT) := by
    apply Array.ext_getElem?
    intro i
    have hz : (Value.agg #[.int .i64 0, .slice none 0 0, .slice none 0 0]).cells = #[.int .i64 0, .slice none 0 0, .slice none 0 0] := by rfl
    rw [hz]
    obtain ⟨j, q, rfl, hq⟩ : ∃ j q, i = j * 3 + q ∧ q < 3 := ⟨i / 3, i % 3, by omega, by omega⟩
    by_cases h : j < n
    · rw [triC_at (t := zeroT) (by rw [List.getElem?_replicate, if_pos h]) hq]
      simp only [madeCells, Array.getElem?_map]
      rw [Array.getElem?_range]
      rw [if_pos (by omega)]
      simp only [Option.map_some]
      rw [show (j * 3 + q) % (#[Value.int .i64 0, .slice none 0 0, .slice none 0 0] : Array Value).size = q by show (j * 3 + q) % 3 = q; omega]
      match q, hq with
      | 0, _ => rfl
      | 1, _ => rfl
      | 2, _ => rfl
    · have e9 : (triC (List.replicate n zeroT))[j * 3 + q]? = none := by
        show (triL _).toArray[j * 3 + q]? = _
        rw [List.getElem?_toArray, triL_at _ _ _ hq, List.getElem?_replicate, if_neg h]; rfl
      rw [e9]
      simp only [madeCells, Array.getElem?_map]
      rw [Array.getElem?_range, if_neg (by omega)]
      rfl
  simp only [Int.toNat_natCast, e]
/-- shard j of a list of halves -/
def shV (vs : List Value) (j : Nat) : Tri := (.int .i64 (j : Int), vs.getD (2 * j) (.slice none 0 0), vs.getD (2 * j + 1) (.slice none 0 0))
/-- the shards made as far as j -/
def shP (vs : List Value) (m j : Nat) : List Tri := (List.range m).map fun i => if i < j then shV vs i else zeroT
theorem shP_zero (vs : List Value) (m : Nat) : List.replicate m zeroT = shP vs m 0 := by
  apply List.ext_getElem?
  intro i
  simp only [shP, List.getElem?_map, List.getElem?_replicate]
  by_cases h : i < m
  · rw [if_pos h, List.getElem?_range h]; rfl
  · rw [if_neg h, List.getElem?_eq_none (by simp; omega)]; rfl
theorem shP_full (vs : List Value) (m : Nat) : shP vs m m = (List.range m).map (shV vs) := by
  apply List.map_congr_left
  intro i hi
  rw [if_pos (by simpa using hi)]
theorem shP_set {vs : List Value} {m j : Nat} (h : j < m) : (shP vs m j).set j (shV vs j) = shP vs m (j + 1) := by
  apply List.ext_getElem?
  intro i
  rw [List.getElem?_set]
  simp only [shP, List.getElem?_map, List.length_map, List.length_range]
  by_cases hi : j = i
  · subst hi
    rw [if_pos rfl, if_pos h, List.getElem?_range h]
    simp
  · rw [if_neg hi]
    by_cases hm : i < m
    · rw [List.getElem?_range hm]
      simp only [Option.map_some]
      by_cases h2 : i < j
      · rw [if_pos h2, if_pos (by omega)]
      · rw [if_neg h2, if_neg (by omega)]
    · rw [List.getElem?_eq_none (by simp; omega)]; rfl
/-- a stripe's shards in memory, each half in a block of its own -/
def ShAt (w : World) (B S : Nat) (k r n : Nat) (xs : List F) (gs : List (Nat × Nat)) : Prop :=
  B ≤ S ∧ gs.length = 2 * (k + r) ∧ w.heap[S]? = some (.cells (triC ((List.range (k + r)).map (shV (rowsP (cntN (2 * k) n) gs)))) 38 (0, 0)) ∧ RowsP w B gs (imgL k (carN (groupN k r)) (cntN (2 * k) n) (strD (cntN (2 * k) n) xs))
theorem shAt_below {w w' : World} {B S k r n : Nat} {xs : List F} {gs : List (Nat × Nat)} (h : ShAt w B S k r n xs gs) (hb : Below w.heap.size w w') : ShAt w' B S k r n xs gs := ⟨h.1, h.2.1, heap_later h.2.2.1 hb, rowsP_below h.2.2.2 hb⟩
theorem has8_grownT {w w' : World} {S g cap : Nat} {cs : Array Value} {fr : Nat × Nat} {xs : List F} (hg : w.grownBy w' (some S)) (h : Has8 w g xs cap) (hS : w.heap[S]? = some (.cells cs 38 fr)) : Has8 w' g xs cap := by
  obtain ⟨cur, h1, h2⟩ := h
  exact ⟨cur, grown_keep hg h1 (fun e => kind_ne h1 hS (by decide) (Option.some.inj e)), h2⟩
theorem tri_store {w : World} {S j : Nat} {T : List Tri} {a b c : Value} (h : w.heap[S]? = some (.cells (triC T) 38 (0, 0))) :
    (((w.setCell ⟨S, j * 3, none⟩ a).setCell ⟨S, j * 3 + 1, none⟩ b).setCell ⟨S, j * 3 + 2, none⟩ c).heap[S]? = some (.cells (triC (T.set j (a, b, c))) 38 (0, 0)) := by
  rw [heap_setCell_same _ _ _ _ _ _ (heap_setCell_same _ _ _ _ _ _ (heap_setCell_same _ _ _ _ _ _ h)), triC_set]
theorem tri_store_other {w : World} {S g j : Nat} {a b c : Value} {o : Obj} (hne : g ≠ S) (h : w.heap[g]? = some o) :
    (((w.setCell ⟨S, j * 3, none⟩ a).setCell ⟨S, j * 3 + 1, none⟩ b).setCell ⟨S, j * 3 + 2, none⟩ c).heap[g]? = some o :=
  (heap_setCell_other _ _ _ _ hne).trans ((heap_setCell_other _ _ _ _ hne).trans ((heap_setCell_other _ _ _ _ hne).trans h))
set_option maxHeartbeats 4000000 in
theorem shards_ok (k r n ca : Nat) (a : Option Addr) (xs : List F) (w : World) (E : Nat → Addr) (hE : ErrsF w E) (h1 : 1 ≤ k) (h2 : 2 ≤ r) (h3 : k + r ≤ 16) (h4 : 1 ≤ n) (h5 : n ≤ 128 * k) (hn : n = xs.length) (hx : Row8 w a xs) :
    Calls Tryd.prog 12 #[.int .i64 k, .int .i64 r, .slice a n ca] w fun e w' => ∃ (S m : Nat) (gs : List (Nat × Nat)), e = .returned (.tuple #[.slice (some ⟨S, 0, none⟩) m m, .nilIface]) ∧ m = k + r ∧
      ShAt w' w.heap.size S k r n xs gs ∧ Below w.heap.size w w' := by
  have HENC : Hid _ := encode_ok k r n ca a xs w E hE h1 h2 h3 h4 h5 hn hx
  obtain ⟨H, hH⟩ : ∃ H, H = cntN (2 * k) n := ⟨_, rfl⟩
  have HH : Hid (H = cntN (2 * k) n) := hH
  obtain ⟨m, hm⟩ : ∃ m, m = k + r := ⟨_, rfl⟩
  have HM : Hid (m = k + r) := hm
  have hm16 : m ≤ 16 := by omega
  have hmk := run_makeT m (by omega)
  clear hE hx hn hH hm
  go_enter Tryd.func12, Tryd.ntmps12
  go_wp2_with fail
  refine Calls.mono HENC.out ?_
  rintro e w1 ⟨M, c, gs, rfl, hc, hEnc, hb1⟩
  have HEN : Hid (EncAt w1 w.heap.size M k r n xs gs) := hEnc
  have HB1 : Hid (Below w.heap.size w w1) := hb1
  have hc2 : c = 2 * m := by rw [hc, HM.out]
  have hq : (c : Int).tdiv 2 = (m : Int) := by rw [Int.tdiv_eq_ediv_of_nonneg (by omega)]; omega
  have hq2 : (c : Int) / 2 = (m : Int) := by omega
  have HC : Hid (c = 2 * m) := hc2
  have HGL : Hid (gs.length = 2 * m) := by show _ = _; rw [hEnc.2.1, HM.out]
  clear hc hEnc hb1 hc2 HENC
  rw [shP_zero (rowsP H gs)] at hmk
  go_wp2
  have hA5 := holds_new (holds_cons (holds_nil w1) HEN.out.2.2.1) (triC (shP (rowsP H gs) m 0)) 38
  have HB5 : Hid (Below w.heap.size w (w1.alloc (.cells (triC (shP (rowsP H gs) m 0)) 38))) := HB1.out.alloc HB1.out.size _
  have HR5 : Hid (RowsP (w1.alloc (.cells (triC (shP (rowsP H gs) m 0)) 38)) w.heap.size gs (imgL k (carN (groupN k r)) H (strD H xs))) := by
    have := HEN.out.2.2.2
    rw [← HH.out] at this
    exact rowsP_below this ((Below.refl _ _).alloc (Nat.le_refl _) _)
  rw [← HH.out] at hA5
  have hSM := HB1.out.size
  have HA5 : Hid _ := hA5
  clear hA5 hmk HB1 HEN
  generalize (w1.alloc (.cells (triC (shP (rowsP H gs) m 0)) 38)) = W5 at *
  generalize hS : w1.heap.size = S at *
  clear hS
  have hSM2 : M ≠ S := kind_ne (holds_at HA5.out 1 rfl) (holds_at HA5.out 0 rfl) (by decide)
  go_loopw [28] (fun i wr => ∃ j : Nat, j ≤ m ∧ i = .int .i64 j ∧ Below w.heap.size w wr ∧ W5.grownBy wr (some S) ∧
    Holds wr [(S, .cells (triC (shP (rowsP H gs) m j)) 38 (0, 0)), (M, .cells (slW (rowsP H gs) (2 * (k + r))) 22 (0, 0))]) (fun i _ => m - (intOf i).toNat)
  case atStart => exact ⟨0, by omega, rfl, HB5.out, World.grownBy.refl _ _, HA5.out⟩
  case round =>
    obtain ⟨j, hj, rfl, hb, hg, hh⟩ := hrel
    have HB : Hid (Below w.heap.size w wr) := hb
    have HG : Hid (W5.grownBy wr (some S)) := hg
    have HH2 : Hid _ := hh
    clear hb hg hh
    by_cases hlt : j < m
    · obtain ⟨p0, hp0⟩ : ∃ p0, p0 = 2 * j := ⟨_, rfl⟩
      obtain ⟨p1, hp1⟩ : ∃ p1, p1 = 2 * j + 1 := ⟨_, rfl⟩
      have t1 : (2 : Int) * (j : Int) = (p0 : Int) := by omega
      have t2 : (p0 : Int) + 1 = (p1 : Int) := by omega
      have hp9 : (p1 : Int) ≤ 100 := by omega
      have hg0 : gs[p0]? = some gs[p0]! := by rw [getElem!_pos gs p0 (by rw [HGL.out]; omega)]; exact List.getElem?_eq_getElem (by rw [HGL.out]; omega)
      have hg1 : gs[p1]? = some gs[p1]! := by rw [getElem!_pos gs p1 (by rw [HGL.out]; omega)]; exact List.getElem?_eq_getElem (by rw [HGL.out]; omega)
      generalize gs[p0]! = q0 at hg0
      generalize gs[p1]! = q1 at hg1
      obtain ⟨g0, cap0⟩ := q0
      obtain ⟨g1, cap1⟩ := q1
      have d0 := cellAt (holds_at HH2.out 1 rfl) p0 _ (slW_at (rowsP_at hg0))
      have d1 := cellAt (holds_at HH2.out 1 rfl) p1 _ (slW_at (rowsP_at hg1))
      have l0 : p0 < c := by have := HC.out; omega
      have l1 : p1 < c := by have := HC.out; omega
      have hz : (shP (rowsP H gs) m j)[j]? = some zeroT := by simp [shP, hlt]
      have e0 := cellAt (holds_at HH2.out 0 rfl) (j * 3) _ (triC_at (q := 0) hz (by decide))
      have e1 := cellAt (holds_at HH2.out 0 rfl) (j * 3 + 1) _ (triC_at (q := 1) hz (by decide))
      have e2 := cellAt (holds_at HH2.out 0 rfl) (j * 3 + 2) _ (triC_at (q := 2) hz (by decide))
      have f0 : wr.frozen? ⟨S, j * 3, none⟩ = false := frozen_of_row _ _ _ _ _ (holds_at HH2.out 0 rfl)
      have f1 : wr.frozen? ⟨S, j * 3 + 1, none⟩ = false := frozen_of_row _ _ _ _ _ (holds_at HH2.out 0 rfl)
      have f2 : wr.frozen? ⟨S, j * 3 + 2, none⟩ = false := frozen_of_row _ _ _ _ _ (holds_at HH2.out 0 rfl)
      have HSH : Hid (shV (rowsP H gs) j = (.int .i64 (j : Int), .slice (some ⟨g0, 0, none⟩) H cap0, .slice (some ⟨g1, 0, none⟩) H cap1)) := by
        show _ = _
        unfold shV
        rw [← hp1, ← hp0, List.getD_eq_getElem?_getD, List.getD_eq_getElem?_getD, rowsP_at hg0, rowsP_at hg1]; rfl
      clear hp0 hp1 hg0 hg1 hz
      simp only [tri3, zeroT] at e0 e1 e2
      go_wp2
      go_region
      go_wp2
      refine ⟨⟨j + 1, by omega, by go_num, ?_, ?_, ?_⟩, by simp [intOf]; omega⟩
      · exact (((HB.out.setCell (by show w.heap.size ≤ S; omega) _).setCell (by show w.heap.size ≤ S; omega) _).setCell (by show w.heap.size ≤ S; omega) _).drew
      · exact grownBy_drew (grownBy_setCell (grownBy_setCell (grownBy_setCell HG.out _) _) _)
      · have k0 := tri_store (j := j) (a := .int .i64 (j : Int)) (b := .slice (some ⟨g0, 0, none⟩) H cap0) (c := .slice (some ⟨g1, 0, none⟩) H cap1) (holds_at HH2.out 0 rfl)
        have k1 := tri_store_other (j := j) (a := .int .i64 (j : Int)) (b := .slice (some ⟨g0, 0, none⟩) H cap0) (c := .slice (some ⟨g1, 0, none⟩) H cap1) hSM2 (holds_at HH2.out 1 rfl)
        rw [← HSH.out, shP_set hlt] at k0
        exact holds_cons (holds_cons (holds_nil _) k1) k0
    · obtain rfl : j = m := by omega
      go_wp2
      go_ret2
      refine ⟨S, j, gs, rfl, HM.out, ⟨hSM, by rw [HGL.out, HM.out], ?_, ?_⟩, HB.out⟩
      · have := holds_at HH2.out 0 rfl
        rw [shP_full] at this
        rw [← HM.out, ← HH.out]; exact this
      · rw [← HH.out]
        exact ⟨fun i p hp => ⟨(HR5.out.1 i p hp).1, has8_grownT HG.out (HR5.out.1 i p hp).2 (holds_at HA5.out 0 rfl)⟩, HR5.out.2⟩
theorem shards_bad (k r : Int) (n ca : Nat) (a : Option Addr) (w : World) (E : Nat → Addr) (hE : ErrsF w E) (hk0 : -9223372036854775808 ≤ k) (hk1 : k ≤ 9223372036854775807) (hr0 : -9223372036854775808 ≤ r) (hr1 : r ≤ 9223372036854775807) (hla : n ≤ 140737488355328) (h : encE k r n ≠ 0) :
    Calls Tryd.prog 12 #[.int .i64 k, .int .i64 r, .slice a n ca] w fun e w' => e = .returned (.tuple #[.slice none 0 0, evV E (encE k r n)]) ∧ Below w.heap.size w w' := by
  have HS : Hid _ := encode_bad k r n ca a w E hE hk0 hk1 hr0 hr1 hla h
  obtain ⟨s, hs⟩ : ∃ s, evV E (encE k r n) = errAt s := ⟨E (encE k r n - 1), by unfold evV; rw [if_neg h]⟩
  rw [hs] at HS ⊢
  clear hs h hE
  unfold errAt at HS ⊢
  go_enter Tryd.func12, Tryd.ntmps12
  go_wp2_with fail
  refine Calls.mono HS.out ?_
  rintro e w1 ⟨rfl, hb⟩
  have HB : Hid _ := hb
  clear hb
  go_wp2_with fail
  go_ret2
  exact ⟨rfl, HB.out⟩
end Go.Proofs.YtmlpijlcpeoeaaaDoor

/- What Num of package tesseranum answers of an error of package api, and of none: its number; nothing that was there turns. -/
namespace Go.Proofs.YtmlpijlcpeoeaaaDoor
open Go.RowKit Go.ChangeShapes
set_option linter.unusedVariables false
set_option maxRecDepth 20000
/-- the errors' variables, in the document's order -/
def gsNum : List Nat := [0, 2, 3, 4, 1, 5, 6, 7, 8, 9, 10, 11, 12, 13, 14, 15, 16, 17, 18, 19, 20, 21, 22, 23, 24]
theorem num_nil (w : World) : Calls Tryd.prog 14 #[.nilIface] w fun e w' => e = .returned (.int .i64 0) ∧ w = w' := by
  go_enter Tryd.func14, Tryd.ntmps14
  go_wp2
  go_ret
  exact ⟨rfl, rfl⟩
set_option maxHeartbeats 2000000 in
theorem num_fn (k : Nat) (a : Nat → Addr) (w : World) (hk : k < 25) (H : ∀ j, j < 25 → w.cell? ⟨gsNum.getD j 0, 0, none⟩ = some (errAt (a j))) (hne : ∀ j, j < 25 → j ≠ k → a k ≠ a j)
    (hh : ∀ j, j < 25 → ∃ c t, w.heap[(a j).block]? = some (.cells c t (0, 0))) :
    Calls Tryd.prog 14 #[.iface 140 (.pointer (some (a k)))] w fun e w' => e = .returned (.int .i64 ((k : Int) + 1)) ∧ Below w.heap.size w w' := by
  have c0 : w.cell? ⟨0, 0, none⟩ = some (.iface 140 (.pointer (some (a 0)))) := H 0 (by decide)
  have c1 : w.cell? ⟨2, 0, none⟩ = some (.iface 140 (.pointer (some (a 1)))) := H 1 (by decide)
  have c2 : w.cell? ⟨3, 0, none⟩ = some (.iface 140 (.pointer (some (a 2)))) := H 2 (by decide)
  have c3 : w.cell? ⟨4, 0, none⟩ = some (.iface 140 (.pointer (some (a 3)))) := H 3 (by decide)
  have c4 : w.cell? ⟨1, 0, none⟩ = some (.iface 140 (.pointer (some (a 4)))) := H 4 (by decide)
  have c5 : w.cell? ⟨5, 0, none⟩ = some (.iface 140 (.pointer (some (a 5)))) := H 5 (by decide)
  have c6 : w.cell? ⟨6, 0, none⟩ = some (.iface 140 (.pointer (some (a 6)))) := H 6 (by decide)
  have c7 : w.cell? ⟨7, 0, none⟩ = some (.iface 140 (.pointer (some (a 7)))) := H 7 (by decide)
  have c8 : w.cell? ⟨8, 0, none⟩ = some (.iface 140 (.pointer (some (a 8)))) := H 8 (by decide)
  have c9 : w.cell? ⟨9, 0, none⟩ = some (.iface 140 (.pointer (some (a 9)))) := H 9 (by decide)
  have c10 : w.cell? ⟨10, 0, none⟩ = some (.iface 140 (.pointer (some (a 10)))) := H 10 (by decide)
  have c11 : w.cell? ⟨11, 0, none⟩ = some (.iface 140 (.pointer (some (a 11)))) := H 11 (by decide)
  have c12 : w.cell? ⟨12, 0, none⟩ = some (.iface 140 (.pointer (some (a 12)))) := H 12 (by decide)
  have c13 : w.cell? ⟨13, 0, none⟩ = some (.iface 140 (.pointer (some (a 13)))) := H 13 (by decide)
  have c14 : w.cell? ⟨14, 0, none⟩ = some (.iface 140 (.pointer (some (a 14)))) := H 14 (by decide)
  have c15 : w.cell? ⟨15, 0, none⟩ = some (.iface 140 (.pointer (some (a 15)))) := H 15 (by decide)
  have c16 : w.cell? ⟨16, 0, none⟩ = some (.iface 140 (.pointer (some (a 16)))) := H 16 (by decide)
  have c17 : w.cell? ⟨17, 0, none⟩ = some (.iface 140 (.pointer (some (a 17)))) := H 17 (by decide)
  have c18 : w.cell? ⟨18, 0, none⟩ = some (.iface 140 (.pointer (some (a 18)))) := H 18 (by decide)
  have c19 : w.cell? ⟨19, 0, none⟩ = some (.iface 140 (.pointer (some (a 19)))) := H 19 (by decide)
  have c20 : w.cell? ⟨20, 0, none⟩ = some (.iface 140 (.pointer (some (a 20)))) := H 20 (by decide)
  have c21 : w.cell? ⟨21, 0, none⟩ = some (.iface 140 (.pointer (some (a 21)))) := H 21 (by decide)
  have c22 : w.cell? ⟨22, 0, none⟩ = some (.iface 140 (.pointer (some (a 22)))) := H 22 (by decide)
  have c23 : w.cell? ⟨23, 0, none⟩ = some (.iface 140 (.pointer (some (a 23)))) := H 23 (by decide)
  have c24 : w.cell? ⟨24, 0, none⟩ = some (.iface 140 (.pointer (some (a 24)))) := H 24 (by decide)
  clear H
  go_enter Tryd.func14, Tryd.ntmps14
  go_wp2
  clear c0 c1 c2 c3 c4 c5 c6 c7 c8 c9 c10 c11 c12 c13 c14 c15 c16 c17 c18 c19 c20 c21 c22 c23 c24
  have B0 : (w.alloc (.cells #[.iface 140 (.pointer (some (a 0))), .iface 140 (.pointer (some (a 1))), .iface 140 (.pointer (some (a 2))), .iface 140 (.pointer (some (a 3))), .iface 140 (.pointer (some (a 4))), .iface 140 (.pointer (some (a 5))), .iface 140 (.pointer (some (a 6))), .iface 140 (.pointer (some (a 7))), .iface 140 (.pointer (some (a 8))), .iface 140 (.pointer (some (a 9))), .iface 140 (.pointer (some (a 10))), .iface 140 (.pointer (some (a 11))), .iface 140 (.pointer (some (a 12))), .iface 140 (.pointer (some (a 13))), .iface 140 (.pointer (some (a 14))), .iface 140 (.pointer (some (a 15))), .iface 140 (.pointer (some (a 16))), .iface 140 (.pointer (some (a 17))), .iface 140 (.pointer (some (a 18))), .iface 140 (.pointer (some (a 19))), .iface 140 (.pointer (some (a 20))), .iface 140 (.pointer (some (a 21))), .iface 140 (.pointer (some (a 22))), .iface 140 (.pointer (some (a 23))), .iface 140 (.pointer (some (a 24)))] 27)).heap[w.heap.size]? = some (.cells ((List.range 25).map fun j => errAt (a j)).toArray 27 (0, 0)) := heap_alloc_last w _
  have HH : ∀ j, j < 25 → ∃ c t, (w.alloc (.cells #[.iface 140 (.pointer (some (a 0))), .iface 140 (.pointer (some (a 1))), .iface 140 (.pointer (some (a 2))), .iface 140 (.pointer (some (a 3))), .iface 140 (.pointer (some (a 4))), .iface 140 (.pointer (some (a 5))), .iface 140 (.pointer (some (a 6))), .iface 140 (.pointer (some (a 7))), .iface 140 (.pointer (some (a 8))), .iface 140 (.pointer (some (a 9))), .iface 140 (.pointer (some (a 10))), .iface 140 (.pointer (some (a 11))), .iface 140 (.pointer (some (a 12))), .iface 140 (.pointer (some (a 13))), .iface 140 (.pointer (some (a 14))), .iface 140 (.pointer (some (a 15))), .iface 140 (.pointer (some (a 16))), .iface 140 (.pointer (some (a 17))), .iface 140 (.pointer (some (a 18))), .iface 140 (.pointer (some (a 19))), .iface 140 (.pointer (some (a 20))), .iface 140 (.pointer (some (a 21))), .iface 140 (.pointer (some (a 22))), .iface 140 (.pointer (some (a 23))), .iface 140 (.pointer (some (a 24)))] 27)).heap[(a j).block]? = some (.cells c t (0, 0)) := fun j hj => by
    obtain ⟨c, t, h⟩ := hh j hj
    exact ⟨c, t, (Below.heap_alloc _ _ _ (ltHeap h)).trans h⟩
  have HB : Hid (Below w.heap.size w (w.alloc (.cells #[.iface 140 (.pointer (some (a 0))), .iface 140 (.pointer (some (a 1))), .iface 140 (.pointer (some (a 2))), .iface 140 (.pointer (some (a 3))), .iface 140 (.pointer (some (a 4))), .iface 140 (.pointer (some (a 5))), .iface 140 (.pointer (some (a 6))), .iface 140 (.pointer (some (a 7))), .iface 140 (.pointer (some (a 8))), .iface 140 (.pointer (some (a 9))), .iface 140 (.pointer (some (a 10))), .iface 140 (.pointer (some (a 11))), .iface 140 (.pointer (some (a 12))), .iface 140 (.pointer (some (a 13))), .iface 140 (.pointer (some (a 14))), .iface 140 (.pointer (some (a 15))), .iface 140 (.pointer (some (a 16))), .iface 140 (.pointer (some (a 17))), .iface 140 (.pointer (some (a 18))), .iface 140 (.pointer (some (a 19))), .iface 140 (.pointer (some (a 20))), .iface 140 (.pointer (some (a 21))), .iface 140 (.pointer (some (a 22))), .iface 140 (.pointer (some (a 23))), .iface 140 (.pointer (some (a 24)))] 27))) := (Below.refl _ _).alloc (Nat.le_refl _) _
  generalize (w.alloc (.cells #[.iface 140 (.pointer (some (a 0))), .iface 140 (.pointer (some (a 1))), .iface 140 (.pointer (some (a 2))), .iface 140 (.pointer (some (a 3))), .iface 140 (.pointer (some (a 4))), .iface 140 (.pointer (some (a 5))), .iface 140 (.pointer (some (a 6))), .iface 140 (.pointer (some (a 7))), .iface 140 (.pointer (some (a 8))), .iface 140 (.pointer (some (a 9))), .iface 140 (.pointer (some (a 10))), .iface 140 (.pointer (some (a 11))), .iface 140 (.pointer (some (a 12))), .iface 140 (.pointer (some (a 13))), .iface 140 (.pointer (some (a 14))), .iface 140 (.pointer (some (a 15))), .iface 140 (.pointer (some (a 16))), .iface 140 (.pointer (some (a 17))), .iface 140 (.pointer (some (a 18))), .iface 140 (.pointer (some (a 19))), .iface 140 (.pointer (some (a 20))), .iface 140 (.pointer (some (a 21))), .iface 140 (.pointer (some (a 22))), .iface 140 (.pointer (some (a 23))), .iface 140 (.pointer (some (a 24)))] 27)) = W1 at *
  clear hh
  go_loopw [36] (fun i wr => ∃ j : Nat, j ≤ k ∧ i = .int .i64 j ∧ wr = W1) (fun i _ => 25 - (intOf i).toNat)
  case atStart => exact ⟨0, by omega, rfl, rfl⟩
  case round =>
    obtain ⟨j, hj, rfl, rfl⟩ := hrel
    have hj25 : j < 25 := by omega
    have c0 : wr.cell? ⟨w.heap.size, j, none⟩ = some (.iface 140 (.pointer (some (a j)))) := cellAt B0 j _ (by
      simp only [List.getElem?_toArray, List.getElem?_map, List.getElem?_range hj25, Option.map_some, errAt])
    by_cases e : j = k
    · subst e
      have q := eq_same wr (a j)
      clear HH hne B0
      go_wp2
      go_ret
      exact ⟨rfl, HB.out⟩
    · obtain ⟨_, _, h1⟩ := HH k hk
      obtain ⟨_, _, h2⟩ := HH j hj25
      have q := eq_other (hne j hj25 e) h1 h2
      have hjk : j + 1 ≤ k := by omega
      clear HH hne B0 h1 h2
      go_wp2
      exact ⟨⟨j + 1, by omega, by go_num, trivial⟩, by simp [intOf]; omega⟩
theorem num_err {w : World} {es : List Addr} {k : Nat} {s : Addr} (h : ErrsAt w gsNum es) (hs : es[k]? = some s) :
    Calls Tryd.prog 14 #[errAt s] w fun e w' => e = .returned (.int .i64 ((k : Int) + 1)) ∧ Below w.heap.size w w' := by
  have hl : es.length = 25 := h.1.symm
  obtain ⟨hk, rfl⟩ := List.getElem?_eq_some_iff.1 hs
  have hget : ∀ j, (hj : j < 25) → es[j]? = some (es.getD j ⟨0, 0, none⟩) := fun j hj => by
    rw [List.getElem?_eq_getElem (by omega), List.getD_eq_getElem?_getD, List.getElem?_eq_getElem (by omega)]; rfl
  have hg : ∀ j, j < 25 → gsNum[j]? = some (gsNum.getD j 0) := fun j hj => by
    rw [List.getElem?_eq_getElem (by show j < 25; exact hj), List.getD_eq_getElem?_getD, List.getElem?_eq_getElem (by show j < 25; exact hj)]; rfl
  have hk25 : k < 25 := by omega
  have e0 : es[k] = es.getD k ⟨0, 0, none⟩ := by
    have := hget k hk25
    rw [List.getElem?_eq_getElem hk] at this
    exact Option.some.inj this
  have := num_fn k (fun j => es.getD j ⟨0, 0, none⟩) w hk25 (fun j hj => (h.2.2 j _ _ (hg j hj) (hget j hj)).1) (fun j hj hjk e => ?_) (fun j hj => (h.2.2 j _ _ (hg j hj) (hget j hj)).2)
  · rw [e0]; exact this
  · have e1 := hget k hk25
    have e2 := hget j hj
    rw [List.getElem?_eq_getElem (by omega)] at e1 e2
    have e3 : es[k] = es[j] := by rw [Option.some.inj e1, Option.some.inj e2]; exact e
    have hp := List.pairwise_iff_getElem.1 h.2.1
    rcases Nat.lt_or_gt_of_ne hjk with q | q
    · exact hp j k _ _ q e3.symm
    · exact hp k j _ _ q e3
end Go.Proofs.YtmlpijlcpeoeaaaDoor

/- The walk of ShardsSizes: at all numbers. -/
namespace Go.Proofs.YtmlpijlcpeoeaaaDoor
open Go.RowKit Gf
set_option linter.unusedVariables false
set_option maxRecDepth 20000
/-- the errors' addresses, by number -/
def ofL (es : List Addr) : Nat → Addr := fun j => es.getD j ⟨0, 0, none⟩
theorem errsE_num {w : World} {es : List Addr} (h : ErrsAt w gsNum es) : ErrsE w (ofL es) := by
  have hl : es.length = 25 := h.1.symm
  have hget : ∀ j, (hj : j < 25) → es[j]? = some (ofL es j) := fun j hj => by
    unfold ofL
    rw [List.getElem?_eq_getElem (by omega), List.getD_eq_getElem?_getD, List.getElem?_eq_getElem (by omega)]; rfl
  exact ⟨(h.2.2 0 _ _ rfl (hget 0 (by decide))).1, (h.2.2 11 _ _ rfl (hget 11 (by decide))).1, (h.2.2 19 _ _ rfl (hget 19 (by decide))).1⟩
theorem num_V {w : World} {es : List Addr} (n : Nat) (h : ErrsAt w gsNum es) (hn : n ≤ 25) :
    Calls Tryd.prog 14 #[evV (ofL es) n] w fun e w' => e = .returned (.int .i64 n) ∧ Below w.heap.size w w' := by
  cases n with
  | zero => exact (num_nil w).mono fun e w' ⟨he, hw⟩ => ⟨he, hw ▸ Below.refl _ _⟩
  | succ n =>
    have hl : es.length = 25 := h.1.symm
    rw [evV_succ]
    have := num_err (k := n) (s := ofL es n) h (by
      unfold ofL
      rw [List.getElem?_eq_getElem (by omega), List.getD_eq_getElem?_getD, List.getElem?_eq_getElem (by omega)]; rfl)
    simpa using this
theorem halfE_le (k n : Int) : halfE k n ≤ 25 := by unfold halfE; split <;> (try split) <;> (try split) <;> omega
theorem stripesE_le (k n : Int) : stripesE k n ≤ 25 := by unfold stripesE; split <;> (try split) <;> (try split) <;> omega
theorem stripesL_len (k n : Int) : (stripesL k n).length ≤ 32 := by
  by_cases h : stripesE k n = 0
  · obtain ⟨a, m, rfl, rfl, h1, h2, h3⟩ := stripes_ok h
    rw [stripesL_ok h1 h2 h3, strL_len]
    exact cnt_stripes h1 h3
  · rw [stripesL_no h]; simp
end Go.Proofs.YtmlpijlcpeoeaaaDoor

/- What the walks of stage 7 share: the errors by number, blocks that stay, shards in memory. -/
namespace Go.Proofs.YtmlpijlcpeoeaaaDoor
open Go.RowKit Gf
set_option linter.unusedVariables false
set_option maxRecDepth 20000
theorem errsF_num {w : World} {es : List Addr} (h : ErrsAt w gsNum es) : ErrsF w (ofL es) := by
  refine ⟨errsE_num h, (h.2.2 1 _ _ rfl ?_).1⟩
  have hl : es.length = 25 := h.1.symm
  unfold ofL
  rw [List.getElem?_eq_getElem (by omega), List.getD_eq_getElem?_getD, List.getElem?_eq_getElem (by omega)]; rfl
theorem rencode_V (k r : Int) (a : Option Addr) (la ca : Nat) (w : World) (hk0 : -9223372036854775808 ≤ k) (hk1 : k ≤ 9223372036854775807) (hr0 : -9223372036854775808 ≤ r) (hr1 : r ≤ 9223372036854775807) (h : encE k r la ≠ 0) :
    Calls Tryd.prog 13 #[.int .i64 k, .int .i64 r, .slice a la ca] w fun e w' => e = .returned (.tuple #[.slice none 0 0, .int .i64 (encE k r la)]) ∧ w = w' := by
  unfold encE at h ⊢
  split at h
  · rename_i hL
    obtain ⟨p, q, rfl, rfl, h1, h2, h3⟩ := legal_nat hL
    rw [if_pos hL]
    exact rencode_bad p q a la ca w h1 h2 h3 h
  · rename_i hL
    rw [if_neg hL]
    exact rencode_illegal k r a la ca w hk0 hk1 hr0 hr1 hL
/-- all but some blocks stay -/
def KeptX (w w' : World) (X : Nat → Prop) : Prop := ∀ (b : Nat) (o : Obj), ¬ X b → w.heap[b]? = some o → w'.heap[b]? = some o
theorem keptX_refl (w : World) (X : Nat → Prop) : KeptX w w X := fun _ _ _ h => h
theorem keptX_grown {w0 w w' : World} {X Y : Nat → Prop} {g : Nat} (h : KeptX w0 w X) (hg : w.grownBy w' (some g)) (hY : ∀ b, ¬ Y b → ¬ X b ∧ b ≠ g) : KeptX w0 w' Y := fun b o hb ho => grown_keep hg (h b o (hY b hb).1 ho) (fun e => (hY b hb).2 (Option.some.inj e))
theorem keptX_below {w0 w w' : World} {X Y : Nat → Prop} (h : KeptX w0 w X) (hb : Below w.heap.size w w') (hY : ∀ b, ¬ Y b → ¬ X b) : KeptX w0 w' Y := fun b o hn ho => heap_later (h b o (hY b hn) ho) hb
theorem has8_X {w w' : World} {X : Nat → Prop} {g cap : Nat} {xs : List F} (h : Has8 w g xs cap) (hk : KeptX w w' X) (hn : ¬ X g) : Has8 w' g xs cap := by
  obtain ⟨cur, h1, h2⟩ := h
  exact ⟨cur, hk _ _ hn h1, h2⟩
/-- the first j blocks of a list -/
def firstB (gs : List (Nat × Nat)) (j : Nat) (b : Nat) : Prop := ∃ (q : Nat) (p : Nat × Nat), q < j ∧ gs[q]? = some p ∧ p.1 = b
theorem firstB_not {gs : List (Nat × Nat)} {j i : Nat} {p : Nat × Nat} (hord : ∀ (i j : Nat) (p q : Nat × Nat), i < j → gs[i]? = some p → gs[j]? = some q → p.1 < q.1) (h : gs[i]? = some p) (hij : j ≤ i) : ¬ firstB gs j p.1 := fun ⟨q, x, hq, hx, e⟩ => by
  have := hord q i x p (by omega) hx h
  omega
theorem firstB_step {gs : List (Nat × Nat)} {j : Nat} {p : Nat × Nat} (h : gs[j]? = some p) (b : Nat) (hb : ¬ firstB gs (j + 1) b) : ¬ firstB gs j b ∧ b ≠ p.1 :=
  ⟨fun ⟨q, x, hq, hx, e⟩ => hb ⟨q, x, by omega, hx, e⟩, fun e => hb ⟨j, p, by omega, h, e.symm⟩⟩
theorem strEq8 (xs : List F) : ((str8 xs).toList == (str8 xs).toList) = true := by simp
theorem sh_cells {w : World} {S H j m : Nat} {gs : List (Nat × Nat)} {g0 c0 g1 c1 : Nat} (hT : w.heap[S]? = some (.cells (triC ((List.range m).map (shV (rowsP H gs)))) 38 (0, 0))) (hj : j < m) (e0 : gs[2 * j]? = some (g0, c0)) (e1 : gs[2 * j + 1]? = some (g1, c1)) :
    w.cell? ⟨S, j * 3, none⟩ = some (.int .i64 (j : Int)) ∧ w.cell? ⟨S, j * 3 + 1, none⟩ = some (.slice (some ⟨g0, 0, none⟩) H c0) ∧ w.cell? ⟨S, j * 3 + 2, none⟩ = some (.slice (some ⟨g1, 0, none⟩) H c1) := by
  have ht : ((List.range m).map (shV (rowsP H gs)))[j]? = some (.int .i64 (j : Int), .slice (some ⟨g0, 0, none⟩) H c0, .slice (some ⟨g1, 0, none⟩) H c1) := by
    rw [List.getElem?_map, List.getElem?_range hj, Option.map_some, shV, List.getD_eq_getElem?_getD, List.getD_eq_getElem?_getD, rowsP_at e0, rowsP_at e1]; rfl
  exact ⟨cellAt hT (j * 3) _ (triC_at (q := 0) ht (by decide)), cellAt hT (j * 3 + 1) _ (triC_at (q := 1) ht (by decide)), cellAt hT (j * 3 + 2) _ (triC_at (q := 2) ht (by decide))⟩
theorem shAt_cell {w : World} {B S k r n H j : Nat} {xs : List F} {gs : List (Nat × Nat)} (h : ShAt w B S k r n xs gs) (hH : H = cntN (2 * k) n) (hj : j < k + r) : ∃ g0 c0 g1 c1, gs[2 * j]? = some (g0, c0) ∧ gs[2 * j + 1]? = some (g1, c1) ∧
    w.cell? ⟨S, j * 3, none⟩ = some (.int .i64 (j : Int)) ∧ w.cell? ⟨S, j * 3 + 1, none⟩ = some (.slice (some ⟨g0, 0, none⟩) H c0) ∧ w.cell? ⟨S, j * 3 + 2, none⟩ = some (.slice (some ⟨g1, 0, none⟩) H c1) ∧
    Has8 w g0 (imgL k (carN (groupN k r)) H (strD H xs) (2 * j)) c0 ∧ Has8 w g1 (imgL k (carN (groupN k r)) H (strD H xs) (2 * j + 1)) c1 := by
  obtain ⟨_, hl, hT, hR, _⟩ := h
  rw [← hH] at hT hR
  have e0 : gs[2 * j]? = some gs[2 * j] := List.getElem?_eq_getElem (by omega)
  have e1 : gs[2 * j + 1]? = some gs[2 * j + 1] := List.getElem?_eq_getElem (by omega)
  generalize gs[2 * j] = q0 at e0
  generalize gs[2 * j + 1] = q1 at e1
  obtain ⟨g0, c0⟩ := q0
  obtain ⟨g1, c1⟩ := q1
  have ht : ((List.range (k + r)).map (shV (rowsP H gs)))[j]? = some (.int .i64 (j : Int), .slice (some ⟨g0, 0, none⟩) H c0, .slice (some ⟨g1, 0, none⟩) H c1) := by
    rw [List.getElem?_map, List.getElem?_range hj, Option.map_some, shV, List.getD_eq_getElem?_getD, List.getD_eq_getElem?_getD, rowsP_at e0, rowsP_at e1]; rfl
  exact ⟨g0, c0, g1, c1, e0, e1, cellAt hT (j * 3) _ (triC_at (q := 0) ht (by decide)), cellAt hT (j * 3 + 1) _ (triC_at (q := 1) ht (by decide)), cellAt hT (j * 3 + 2) _ (triC_at (q := 2) ht (by decide)), (hR _ _ e0).2, (hR _ _ e1).2⟩
end Go.Proofs.YtmlpijlcpeoeaaaDoor

/- The walk of CodeEncodes: at all numbers and lists of bytes. -/
namespace Go.Proofs.YtmlpijlcpeoeaaaDoor
open Go.RowKit Gf
set_option linter.unusedVariables false
set_option maxRecDepth 20000
set_option maxHeartbeats 4000000 in
theorem encodes_bad (k r : Int) (la ca : Nat) (a : Option Addr) (xs : List F) (w : World) (hk0 : -9223372036854775808 ≤ k) (hk1 : k ≤ 9223372036854775807) (hr0 : -9223372036854775808 ≤ r) (hr1 : r ≤ 9223372036854775807) (hla : la = xs.length) (hcap : la ≤ ca) (hca : ca ≤ 140737488351232) (hx : Row8 w a xs) (hnil : a = none → ca = 0) (es : List Addr) (hes : ErrsAt w gsNum es) (h : encE k r la ≠ 0) :
    Calls Tryd.prog 3 #[.int .i64 k, .int .i64 r, .slice a la ca] w fun e w' => e = .returned (.bool true) ∧ Below w.heap.size w w' := by
  have HE : Hid _ := hes
  have HA : Hid _ := hla
  have HX : Hid _ := hx
  have HN : Hid _ := hnil
  have HC : Hid _ := fun u (hu : Below w.heap.size w u) (b : Option Addr) => encode_bad k r la (la + 6) b u (ofL es) (errsF_num (errsAt_below hes hu)) hk0 hk1 hr0 hr1 (by omega) h
  have HS : Hid _ := fun u (hu : Below w.heap.size w u) (b : Option Addr) => shards_bad k r la (la + 6) b u (ofL es) (errsF_num (errsAt_below hes hu)) hk0 hk1 hr0 hr1 (by omega) h
  have HR : Hid _ := fun u => rencode_V k r a la ca u hk0 hk1 hr0 hr1 h
  have hle := encE_le k r la
  generalize encE k r la = x at *
  clear hes hla hx hnil h
  go_enter Tryd.func3, Tryd.ntmps3
  go_wp2_with fail
  refine Calls.mono (alive7_ok _ (ofL es) (errsF_num HE.out)) ?_
  rintro e w1 ⟨rfl, hb⟩
  have HB1 : Hid _ := hb
  clear hb
  go_wp2_with fail
  refine Calls.mono (bytes_F a la ca xs _ HA.out (by omega) (row8_below HX.out HB1.out) HN.out) ?_
  rintro e w2 ⟨gi, rfl, hgi, hb, hh⟩
  have HB2 : Hid (Below w.heap.size w w2) := HB1.out.trans (hb.mono HB1.out.size)
  have HG2 : Hid _ := hh
  clear hb hh
  go_wp2_with fail
  refine Calls.mono (HC.out _ HB2.out _) ?_
  rintro e w3 ⟨rfl, hb⟩
  have HB3 : Hid (Below w.heap.size w w3) := HB2.out.trans (hb.mono HB2.out.size)
  have HG3 : Hid _ := heap_later HG2.out hb
  clear hb
  go_wp2_with fail
  refine Calls.mono (HS.out _ HB3.out _) ?_
  rintro e w4 ⟨rfl, hb⟩
  have HB4 : Hid (Below w.heap.size w w4) := HB3.out.trans (hb.mono HB3.out.size)
  have HG4 : Hid _ := heap_later HG3.out hb
  clear hb
  go_wp2_with fail
  refine Calls.mono (HR.out _) ?_
  rintro e w5 ⟨rfl, rfl⟩
  go_wp2_with fail
  refine Calls.mono (num_V x (errsAt_below HE.out HB4.out) hle) ?_
  rintro e w5 ⟨rfl, hb⟩
  have HB5 : Hid (Below w.heap.size w w5) := HB4.out.trans (hb.mono HB4.out.size)
  have HG5 : Hid _ := heap_later HG4.out hb
  clear hb
  go_wp2_with fail
  refine Calls.mono (num_V x (errsAt_below HE.out HB5.out) hle) ?_
  rintro e w6 ⟨rfl, hb⟩
  have HB6 : Hid (Below w.heap.size w w6) := HB5.out.trans (hb.mono HB5.out.size)
  have HG6 : Hid _ := heap_later HG5.out hb
  clear hb
  go_wp2_with fail
  refine Calls.mono (sameLists_F 0 0 0 none none [] _ rfl (by decide) (.inl rfl) (.inl rfl)) ?_
  rintro e w7 ⟨rfl, hb⟩
  have HB7 : Hid (Below w.heap.size w w7) := HB6.out.trans (hb.mono HB6.out.size)
  have HG7 : Hid _ := heap_later HG6.out hb
  clear hb
  go_wp2
  go_loopw [70] (fun t wr => t = .int .i64 0 ∧ wr = w7) (fun t _ => 0)
  case atStart => exact ⟨rfl, rfl⟩
  case round =>
    obtain ⟨rfl, rfl⟩ := hrel
    go_wp2
    generalize hwo : wr = wo at *
    go_loopw [16] (fun t wr => t = .int .i64 1 ∧ wr = wo) (fun t _ => 0)
    case atStart => exact ⟨rfl, rfl⟩
    case round =>
      obtain ⟨rfl, rfl⟩ := hrel
      go_wp2
      generalize hwo2 : wr = wo2 at *
      go_loopw [124] (fun t wr => t = .int .i64 0 ∧ wr = wo2) (fun t _ => 0)
      case atStart => exact ⟨rfl, rfl⟩
      case round =>
        obtain ⟨rfl, rfl⟩ := hrel
        go_wp2_with fail
        refine Calls.mono (kept_F gi la ca a xs _ HA.out (by omega) hcap (by subst hwo2; subst hwo; exact HG7.out) (row8_below HX.out (by subst hwo2; subst hwo; exact HB7.out))) ?_
        rintro e w8 ⟨rfl, hb⟩
        have HB8 : Hid (Below w.heap.size w w8) := by
          subst hwo2; subst hwo
          exact HB7.out.trans (hb.mono HB7.out.size)
        clear hb
        go_wp2
        go_ret
        exact ⟨rfl, HB8.out⟩
set_option maxHeartbeats 8000000 in
theorem encodes_ok (k r la ca : Nat) (a : Option Addr) (xs : List F) (w : World) (hla : la = xs.length) (hcap : la ≤ ca) (hca : ca ≤ 140737488351232) (hx : Row8 w a xs) (hnil : a = none → ca = 0) (es : List Addr) (hes : ErrsAt w gsNum es) (h1 : 1 ≤ k) (h2 : 2 ≤ r) (h3 : k + r ≤ 16) (h4 : 1 ≤ la) (h5 : la ≤ 128 * k) :
    Calls Tryd.prog 3 #[.int .i64 k, .int .i64 r, .slice a la ca] w fun e w' => e = .returned (.bool true) ∧ Below w.heap.size w w' := by
  have HE : Hid _ := hes
  have HA : Hid _ := hla
  have HX : Hid _ := hx
  have HN : Hid _ := hnil
  have HC : Hid _ := fun u (hu : Below w.heap.size w u) (b : Option Addr) (hb : Row8 u b xs) => encode_ok k r la (la + 6) b xs u (ofL es) (errsF_num (errsAt_below hes hu)) h1 h2 h3 h4 h5 hla hb
  have HS : Hid _ := fun u (hu : Below w.heap.size w u) (b : Option Addr) (hb : Row8 u b xs) => shards_ok k r la (la + 6) b xs u (ofL es) (errsF_num (errsAt_below hes hu)) h1 h2 h3 h4 h5 hla hb
  have HR : Hid _ := fun u (hu : Row8 u a xs) => rencode_ok k r la ca a xs u h1 h2 h3 h4 h5 hla hu
  obtain ⟨m, hm⟩ : ∃ m, m = k + r := ⟨_, rfl⟩
  have HM : Hid (m = k + r) := hm
  have hm16 : m ≤ 16 := by omega
  have hm3 : 3 ≤ m := by omega
  obtain ⟨k1, k2, _, _⟩ := cnt_half h1 (show k ≤ 14 by omega) h4 h5
  obtain ⟨H, hH⟩ : ∃ H, H = cntN (2 * k) la := ⟨_, rfl⟩
  rw [← hH] at k1 k2
  have HH : Hid (H = cntN (2 * k) la) := hH
  clear hes hla hx hnil hm hH
  go_enter Tryd.func3, Tryd.ntmps3
  go_wp2_with fail
  refine Calls.mono (alive7_ok _ (ofL es) (errsF_num HE.out)) ?_
  rintro e w1 ⟨rfl, hb⟩
  have HB1 : Hid _ := hb
  clear hb
  go_wp2_with fail
  refine Calls.mono (bytes_F a la ca xs _ HA.out (by omega) (row8_below HX.out HB1.out) HN.out) ?_
  rintro e w2 ⟨gi, rfl, hgi, hb, hh⟩
  have HB2 : Hid (Below w.heap.size w w2) := HB1.out.trans (hb.mono HB1.out.size)
  have HG2 : Hid (w2.heap[gi]? = some (.cells (vfs (xs ++ marks)) 5 (0, 0))) := hh
  have hgi1 : w.heap.size ≤ gi := by have := HB1.out.size; omega
  have hgi2 := ltHeap hh
  clear hb hh hgi
  go_wp2_with fail
  refine Calls.mono (HC.out _ HB2.out _ (row8_front HG2.out)) ?_
  rintro e w3 ⟨M, c, gs, rfl, hc, hEn, hb⟩
  have hc2 : c = 2 * m := by rw [hc, HM.out]
  have HC2 : Hid (c = 2 * m) := hc2
  have HB3 : Hid (Below w.heap.size w w3) := HB2.out.trans (hb.mono HB2.out.size)
  have HG3 : Hid (w3.heap[gi]? = some (.cells (vfs (xs ++ marks)) 5 (0, 0))) := heap_later HG2.out hb
  have hgi3 := ltHeap HG3.out
  have HEN3 : Hid (EncAt w3 w2.heap.size M k r la xs gs) := hEn
  clear hb hc hEn hc2
  go_wp2_with fail
  refine Calls.mono (HS.out _ HB3.out _ (row8_front HG3.out)) ?_
  rintro e w4 ⟨S, m4, gt, rfl, hm4, hSh, hb⟩
  obtain rfl : m4 = m := by rw [hm4, HM.out]
  have HB4 : Hid (Below w.heap.size w w4) := HB3.out.trans (hb.mono HB3.out.size)
  have HG4 : Hid (w4.heap[gi]? = some (.cells (vfs (xs ++ marks)) 5 (0, 0))) := heap_later HG3.out hb
  have HEN4 : Hid (EncAt w4 w2.heap.size M k r la xs gs) := encAt_below HEN3.out hb
  have HSH4 : Hid (ShAt w4 w3.heap.size S k r la xs gt) := hSh
  have HORD : Hid (∀ (q : Nat) (p : Nat × Nat), gs[q]? = some p → p.1 < w3.heap.size) := fun q p hp => has8_lt (HEN3.out.2.2.2.1 q p hp).2
  clear hb hm4 hSh HEN3
  go_wp2_with fail
  refine Calls.mono (HR.out _ (row8_below HX.out HB4.out)) ?_
  rintro e w5 ⟨bW, cW, capW, H5, rfl, hcW, hH5, hrW, hb⟩
  obtain rfl : cW = c := by rw [hcW, HC2.out, HM.out]
  obtain rfl : H5 = H := by rw [hH5, HH.out]
  have HB5 : Hid (Below w.heap.size w w5) := HB4.out.trans (hb.mono HB4.out.size)
  have HG5 : Hid (w5.heap[gi]? = some (.cells (vfs (xs ++ marks)) 5 (0, 0))) := heap_later HG4.out hb
  have HEN5 : Hid (EncAt w5 w2.heap.size M k r la xs gs) := encAt_below HEN4.out hb
  have HSH5 : Hid (ShAt w5 w3.heap.size S k r la xs gt) := shAt_below HSH4.out hb
  have HRW5 : Hid (Rows8 w5 bW (encL k r H5 xs)) := hrW
  clear hb hcW hH5 hrW
  go_wp2_with fail
  refine Calls.mono (num_V (es := es) 0 (errsAt_below HE.out HB5.out) (by decide)) ?_
  rintro e w6 ⟨rfl, hb⟩
  have HB6 : Hid (Below w.heap.size w w6) := HB5.out.trans (hb.mono HB5.out.size)
  have HX6 : Hid (Below w5.heap.size w5 w6) := hb
  clear hb
  go_wp2_with fail
  refine Calls.mono (num_V (es := es) 0 (errsAt_below HE.out HB6.out) (by decide)) ?_
  rintro e w7 ⟨rfl, hb⟩
  have HB7 : Hid (Below w.heap.size w w7) := HB6.out.trans (hb.mono HB6.out.size)
  have HX7 : Hid (Below w5.heap.size w5 w7) := HX6.out.trans (hb.mono HX6.out.size)
  clear hb
  have hcl : cW ≤ 32 := by have := HC2.out; omega
  go_wp2_with fail
  refine Calls.mono (sameLists_F cW cW capW (some ⟨M, 0, none⟩) bW (encL k r H5 xs) _ (by rw [encL_len, HC2.out, HM.out]) (by omega) (by have := encAt_rows (encAt_below HEN5.out HX7.out); rw [← HH.out] at this; exact this) (rows8_below HRW5.out HX7.out)) ?_
  rintro e w8 ⟨rfl, hb⟩
  have HB8 : Hid (Below w.heap.size w w8) := HB7.out.trans (hb.mono HB7.out.size)
  have hb8 := HX7.out.trans (hb.mono HX7.out.size)
  have HG8 : Hid (w8.heap[gi]? = some (.cells (vfs (xs ++ marks)) 5 (0, 0))) := heap_later HG5.out hb8
  have HEN8 : Hid (EncAt w8 w2.heap.size M k r la xs gs) := encAt_below HEN5.out hb8
  have HSH8 : Hid (ShAt w8 w3.heap.size S k r la xs gt) := shAt_below HSH5.out hb8
  have HRW8 : Hid (Rows8 w8 bW (encL k r H5 xs)) := rows8_below HRW5.out hb8
  clear hb hb8 HEN5 HSH5 HRW5 HG5 HX6 HX7 HEN4 HSH4 HG4 HG3 HG2
  have hq : (cW : Int).tdiv 2 = (m4 : Int) := by have := HC2.out; rw [Int.tdiv_eq_ediv_of_nonneg (by omega)]; omega
  have hq2 : (cW : Int) / 2 = (m4 : Int) := by have := HC2.out; omega
  go_wp2
  go_loopw [70] (fun t wr => ∃ j : Nat, j ≤ m4 ∧ t = .int .i64 j ∧ Below w8.heap.size w8 wr) (fun t _ => m4 - (intOf t).toNat)
  case atStart => exact ⟨0, by omega, rfl, Below.refl _ _⟩
  case round =>
    obtain ⟨j, hj, rfl, hbx⟩ := hrel
    have HBX : Hid (Below w8.heap.size w8 wr) := hbx
    clear hbx
    by_cases hlt : j < m4
    · obtain ⟨g0, c0, g1, c1, _, _, e0, e1, e2, r0, r1⟩ := shAt_cell (shAt_below HSH8.out HBX.out) HH.out (show j < k + r by rw [← HM.out]; exact hlt)
      have zN : wr.heap.size < (wr.alloc (.cells #[.int .i64 j, .slice (some ⟨g0, 0, none⟩) H5 c0, .slice (some ⟨g1, 0, none⟩) H5 c1] 38)).heap.size := by simp
      have hb9 : Below wr.heap.size wr (wr.alloc (.cells #[.int .i64 j, .slice (some ⟨g0, 0, none⟩) H5 c0, .slice (some ⟨g1, 0, none⟩) H5 c1] 38)) := (Below.refl _ _).alloc (Nat.le_refl _) _
      have c4 : Hid ((wr.alloc (.cells #[.int .i64 j, .slice (some ⟨g0, 0, none⟩) H5 c0, .slice (some ⟨g1, 0, none⟩) H5 c1] 38)).heap[wr.heap.size]? = some (.cells #[.int .i64 j, .slice (some ⟨g0, 0, none⟩) H5 c0, .slice (some ⟨g1, 0, none⟩) H5 c1] 38 (0, 0))) := heap_alloc_last _ _
      have HB9 : Hid (Below w8.heap.size w8 (wr.alloc (.cells #[.int .i64 j, .slice (some ⟨g0, 0, none⟩) H5 c0, .slice (some ⟨g1, 0, none⟩) H5 c1] 38))) := HBX.out.trans (hb9.mono HBX.out.size)
      have R0 : Hid (Row8 (wr.alloc (.cells #[.int .i64 j, .slice (some ⟨g0, 0, none⟩) H5 c0, .slice (some ⟨g1, 0, none⟩) H5 c1] 38)) (some ⟨g0, 0, none⟩) (imgL k (carN (groupN k r)) H5 (strD H5 xs) (2 * j))) := row8_below (row8_has r0) hb9
      have R1 : Hid (Row8 (wr.alloc (.cells #[.int .i64 j, .slice (some ⟨g0, 0, none⟩) H5 c0, .slice (some ⟨g1, 0, none⟩) H5 c1] 38)) (some ⟨g1, 0, none⟩) (imgL k (carN (groupN k r)) H5 (strD H5 xs) (2 * j + 1))) := row8_below (row8_has r1) hb9
      clear r0 r1 hb9 zN
      go_upto_region 12 with fail
      clear e0 e1 e2
      generalize (wr.alloc (.cells #[.int .i64 j, .slice (some ⟨g0, 0, none⟩) H5 c0, .slice (some ⟨g1, 0, none⟩) H5 c1] 38)) = W9 at *
      generalize wr.heap.size = N at *
      obtain ⟨p0, hp0⟩ : ∃ p0, p0 = 2 * j := ⟨_, rfl⟩
      obtain ⟨p1, hp1⟩ : ∃ p1, p1 = 2 * j + 1 := ⟨_, rfl⟩
      have t1 : (2 : Int) * (j : Int) = (p0 : Int) := by omega
      have t2 : (p0 : Int) + 1 = (p1 : Int) := by omega
      have hp9 : (p1 : Int) ≤ 100 := by omega
      have l0 : p0 < cW := by have := HC2.out; omega
      have l1 : p1 < cW := by have := HC2.out; omega
      have hR0 := R0.out
      have hR1 := R1.out
      rw [← hp1] at hR1
      rw [← hp0] at hR0
      obtain ⟨bb, ob, rfl, _, hcl2⟩ := rows8_at (rows8_below HRW8.out HB9.out) (show p0 < (encL k r H5 xs).length by rw [encL_len, ← HM.out, ← HC2.out]; exact l0)
      obtain ⟨a0, d0, f0, q0⟩ := hcl2 p0 _ (encL_at (by rw [← HM.out, ← HC2.out]; exact l0))
      obtain ⟨a1, d1, f1, q1⟩ := hcl2 p1 _ (encL_at (by rw [← HM.out, ← HC2.out]; exact l1))
      rw [imgL_len] at f0 f1
      have kA := conv8 (la := H5) (ca := c0) (imgL_len _ _ _ _ _).symm (row8_below hR0 (Below.refl _ _).drew)
      have kB := conv8 (la := H5) (ca := c1) (imgL_len _ _ _ _ _).symm (row8_below hR1 (Below.refl _ _).drew)
      have kC := conv8 (la := H5) (ca := d0) (imgL_len _ _ _ _ _).symm (row8_below q0 (Below.refl _ _).drew)
      have kD := conv8 (la := H5) (ca := d1) (imgL_len _ _ _ _ _).symm (row8_below q1 (Below.refl _ _).drew)
      have eA := strEq8 (imgL k (carN (groupN k r)) H5 (strD H5 xs) p0)
      have eB := strEq8 (imgL k (carN (groupN k r)) H5 (strD H5 xs) p1)
      generalize str8 (imgL k (carN (groupN k r)) H5 (strD H5 xs) p0) = sA at *
      generalize str8 (imgL k (carN (groupN k r)) H5 (strD H5 xs) p1) = sB at *
      have x0 := cellAt c4.out 0 _ rfl
      have x1 := cellAt c4.out 1 _ rfl
      have x2 := cellAt c4.out 2 _ rfl
      clear hp0 hp1 hR0 hR1 hcl2 q0 q1
      go_region
      go_wp2
      exact ⟨⟨j + 1, by omega, by go_num, HB9.out.drew⟩, by simp [intOf]; omega⟩
    · obtain rfl : m4 = j := by omega
      go_wp2
      have HB9 : Hid (Below w.heap.size w wr) := HB8.out.trans (HBX.out.mono HB8.out.size)
      have HG9 : Hid (wr.heap[gi]? = some (.cells (vfs (xs ++ marks)) 5 (0, 0))) := heap_later HG8.out HBX.out
      have HEN9 : Hid (EncAt wr w2.heap.size M k r la xs gs) := encAt_below HEN8.out HBX.out
      have HSH9 : Hid (ShAt wr w3.heap.size S k r la xs gt) := shAt_below HSH8.out HBX.out
      clear HB8 HG8 HEN8 HSH8 HRW8 HBX
      generalize wr = w9 at *
      go_loopw [16] (fun t wr => ∃ j : Nat, j < cW ∧ t = .int .i64 ((j + 1 : Nat) : Int) ∧ Below w.heap.size w wr ∧ KeptX w9 wr (firstB gs j)) (fun t _ => cW + 1 - (intOf t).toNat)
      case atStart => exact ⟨0, by have := HC2.out; omega, rfl, HB9.out, keptX_refl _ _⟩
      case round =>
        obtain ⟨q, hq, rfl, hbx, hkx⟩ := hrel
        have HBX : Hid (Below w.heap.size w wr) := hbx
        have HKX : Hid (KeptX w9 wr (firstB gs q)) := hkx
        clear hbx hkx
        obtain ⟨i, hi⟩ : ∃ i, i = q + 1 := ⟨_, rfl⟩
        rw [← hi]
        have hij : (i : Int) - 1 = (q : Int) := by omega
        have HI : Hid (i = q + 1) := hi
        have hT := HEN9.out.2.2.1
        have hord := HEN9.out.2.2.2.2
        have hl := HEN9.out.2.1
        rw [← HH.out] at hT
        have eq : gs[q]? = some gs[q]! := by rw [getElem!_pos gs q (by have := HC2.out; have := HM.out; omega)]; exact List.getElem?_eq_getElem _
        generalize gs[q]! = pq at eq
        obtain ⟨gq, cq⟩ := pq
        have r8q := (HEN9.out.2.2.2.1 q _ eq).2
        rw [← HH.out] at r8q
        have rq := has8_X r8q HKX.out (firstB_not hord eq (Nat.le_refl _))
        have hTM : ∀ b, firstB gs b M → False := fun b ⟨x, p, _, hp, e⟩ => by
          obtain ⟨cur, h9, _⟩ := (HEN9.out.2.2.2.1 x p hp).2
          exact kind_ne h9 hT (by decide) e
        have hTr := HKX.out _ _ (fun h => hTM q h) hT
        have hMq : M ≠ gq := fun e => hTM (q + 1) ⟨q, _, by omega, eq, e.symm⟩
        have hgq : w.heap.size ≤ gq := by have := (HEN9.out.2.2.2.1 q _ eq).1; have := HB2.out.size; show _ ≤ gq; omega
        by_cases hlt2 : i < cW
        · have ei : gs[i]? = some gs[i]! := by rw [getElem!_pos gs i (by have := HC2.out; have := HM.out; omega)]; exact List.getElem?_eq_getElem _
          generalize gs[i]! = pi at ei
          obtain ⟨gj, cj⟩ := pi
          have r8i := (HEN9.out.2.2.2.1 i _ ei).2
          rw [← HH.out] at r8i
          have ri := has8_X r8i HKX.out (firstB_not hord ei (by omega))
          have hgji : gj ≠ gq := by have := hord q i _ _ (by omega) eq ei; show gj ≠ gq; omega
          have C0 : ∀ u, wr.grownBy u (some gq) → u.cell? ⟨M, i, none⟩ = some (.slice (some ⟨gj, 0, none⟩) H5 cj) := fun u h => cellAt (grown_block h hTr hMq) i _ (slW_at (rowsP_at ei))
          have C1 : ∀ u, wr.grownBy u (some gq) → u.cell? ⟨M, q, none⟩ = some (.slice (some ⟨gq, 0, none⟩) H5 cq) := fun u h => cellAt (grown_block h hTr hMq) q _ (slW_at (rowsP_at eq))
          have tw1 : IntKind.i64.wrap (q : Int) = (q : Int) := by rw [IntKind.wrap_i64]; omega
          have HAP : Hid _ := apart_H (some ⟨gj, 0, none⟩) H5 cj gq H5 cq (imgL k (carN (groupN k r)) H5 (strD H5 xs) i) (imgL k (carN (groupN k r)) H5 (strD H5 xs) q) wr.drew (imgL_len _ _ _ _ _).symm (imgL_len _ _ _ _ _).symm (by omega)
            (fun u hu => row8_grown (row8_has (w := wr.drew) ri) hu (has8_lt ri) (by simp only [ne_eq, Option.some.injEq]; exact hgji)) rq
          have hKN : Hid (∀ u, wr.grownBy u (some gq) → Below w.heap.size w u ∧ KeptX w9 u (firstB gs (q + 1))) := fun u hu => ⟨below_grown HBX.out hu hgq, keptX_grown HKX.out hu (fun b hb => firstB_step eq b hb)⟩
          clear hi hT hord hl r8q rq hTM hTr r8i ri eq ei
          go_upto_region 18 with fail
          have hR2 : wr.grownBy wr.drew (some gq) := grownBy_drew (World.grownBy.refl _ _)
          go_region_held3 (fun u => wr.grownBy u (some gq)) (first | assumption | (refine grownBy_drew ?_; assumption)) (first | (go_at_call 16; refine Calls.mono HAP.out ?_; rintro e wi ⟨rfl, hgi3, hhi⟩; have hT : wr.grownBy wi (some gq) := grownBy_trans hR2 hgi3 (fun _ _ h => h); clear hgi3 hhi))
          have HT : Hid (Below w.heap.size w wi ∧ KeptX w9 wi (firstB gs (q + 1))) := hKN.out wi hT
          clear hT hR2 C0 C1 tw1
          go_wp2
          exact ⟨⟨q + 1, by have := HI.out; omega, by rw [HI.out]; go_num, HT.out.1, HT.out.2⟩, by rw [HI.out]; simp [intOf]; omega⟩
        · obtain rfl : i = cW := by omega
          clear hi hT hord hl r8q rq hTM hTr eq
          go_wp2
          have HSN : Hid (∀ b, firstB gs i b ∨ firstB gt (2 * m4) b → b ≠ S) := fun b hb e => by
            subst e
            rcases hb with ⟨x, p, _, hp, e⟩ | ⟨x, p, _, hp, e⟩
            · obtain ⟨cur, h9, _⟩ := (HEN9.out.2.2.2.1 x p hp).2
              exact kind_ne h9 HSH9.out.2.2.1 (by decide) e
            · obtain ⟨cur, h9, _⟩ := (HSH9.out.2.2.2.1 x p hp).2
              exact kind_ne h9 HSH9.out.2.2.1 (by decide) e
          have HGN : Hid (∀ b, firstB gs i b ∨ firstB gt (2 * m4) b → b ≠ gi) := fun b hb e => by
            have z2 := HB2.out.size
            rcases hb with ⟨x, p, _, hp, e2⟩ | ⟨x, p, _, hp, e2⟩
            · have := (HEN9.out.2.2.2.1 x p hp).1; omega
            · have := (HSH9.out.2.2.2.1 x p hp).1
              have hw3 : gi < w3.heap.size := hgi3
              omega
          have HK0 : Hid (KeptX w9 wr fun b => firstB gs i b ∨ firstB gt (2 * 0) b) := fun b o hb ho => HKX.out b o (fun ⟨x, p, hx, hp, e⟩ => hb (.inl ⟨x, p, by omega, hp, e⟩)) ho
          have HGS : Hid (∀ (x : Nat) (p : Nat × Nat), gt[x]? = some p → ¬ firstB gs i p.1) := fun x p hp ⟨y, p2, _, hp2, e⟩ => by
            have h8 := HORD.out y p2 hp2
            have := (HSH9.out.2.2.2.1 x p hp).1
            omega
          clear HKX
          generalize hw10 : wr = w10 at *
          clear hw10
          go_loopw [124] (fun t wr => ∃ j : Nat, j ≤ m4 ∧ t = .int .i64 j ∧ Below w.heap.size w wr ∧ KeptX w9 wr (fun b => firstB gs i b ∨ firstB gt (2 * j) b)) (fun t _ => m4 - (intOf t).toNat)
          case atStart => exact ⟨0, by omega, rfl, HBX.out, HK0.out⟩
          case round =>
            obtain ⟨j, hj, rfl, hbx, hkx⟩ := hrel
            have HBY : Hid (Below w.heap.size w wr) := hbx
            have HKY : Hid (KeptX w9 wr (fun b => firstB gs i b ∨ firstB gt (2 * j) b)) := hkx
            clear hbx hkx
            have hGr := HKY.out gi _ (fun h => HGN.out gi (h.imp id (fun ⟨x, p, hx, hp, e⟩ => ⟨x, p, by omega, hp, e⟩)) rfl) HG9.out
            by_cases hlt3 : j < m4
            · obtain ⟨g0, c0, g1, c1, q0, q1, _, _, _, r0, r1⟩ := shAt_cell HSH9.out HH.out (show j < k + r by rw [← HM.out]; exact hlt3)
              have hSr := HKY.out S _ (fun h => HSN.out S (h.imp id (fun ⟨x, p, hx, hp, e⟩ => ⟨x, p, by omega, hp, e⟩)) rfl) HSH9.out.2.2.1
              rw [← HH.out, ← HM.out] at hSr
              obtain ⟨e0, e1, e2⟩ := sh_cells hSr hlt3 q0 q1
              have hord := HSH9.out.2.2.2.2
              have n0 : ¬ (firstB gs i g0 ∨ firstB gt (2 * j) g0) := fun h => h.elim (HGS.out _ _ q0) (firstB_not hord q0 (Nat.le_refl _))
              have n1 : ¬ (firstB gs i g1 ∨ firstB gt (2 * j) g1) := fun h => h.elim (HGS.out _ _ q1) (firstB_not hord q1 (by omega))
              have r0' := has8_X r0 HKY.out n0
              have r1' := has8_X r1 HKY.out n1
              have h01 : g0 < g1 := hord _ _ _ _ (by omega) q0 q1
              have hg0 : w3.heap.size ≤ g0 := (HSH9.out.2.2.2.1 _ _ q0).1
              have hg1 : w3.heap.size ≤ g1 := (HSH9.out.2.2.2.1 _ _ q1).1
              have hb9 : Below wr.heap.size wr (wr.alloc (.cells #[.int .i64 j, .slice (some ⟨g0, 0, none⟩) H5 c0, .slice (some ⟨g1, 0, none⟩) H5 c1] 38)) := (Below.refl _ _).alloc (Nat.le_refl _) _
              have c4 : Hid ((wr.alloc (.cells #[.int .i64 j, .slice (some ⟨g0, 0, none⟩) H5 c0, .slice (some ⟨g1, 0, none⟩) H5 c1] 38)).heap[wr.heap.size]? = some (.cells #[.int .i64 j, .slice (some ⟨g0, 0, none⟩) H5 c0, .slice (some ⟨g1, 0, none⟩) H5 c1] 38 (0, 0))) := heap_alloc_last _ _
              have HBZ : Hid (Below w.heap.size w (wr.alloc (.cells #[.int .i64 j, .slice (some ⟨g0, 0, none⟩) H5 c0, .slice (some ⟨g1, 0, none⟩) H5 c1] 38))) := HBY.out.trans (hb9.mono HBY.out.size)
              have HKZ : Hid (KeptX w9 (wr.alloc (.cells #[.int .i64 j, .slice (some ⟨g0, 0, none⟩) H5 c0, .slice (some ⟨g1, 0, none⟩) H5 c1] 38)) (fun b => firstB gs i b ∨ firstB gt (2 * j) b)) := keptX_below HKY.out hb9 (fun _ h => h)
              have R0 : Hid (Has8 (wr.alloc (.cells #[.int .i64 j, .slice (some ⟨g0, 0, none⟩) H5 c0, .slice (some ⟨g1, 0, none⟩) H5 c1] 38)) g0 (imgL k (carN (groupN k r)) H5 (strD H5 xs) (2 * j)) c0) := has8_later r0' hb9
              have R1 : Hid (Has8 (wr.alloc (.cells #[.int .i64 j, .slice (some ⟨g0, 0, none⟩) H5 c0, .slice (some ⟨g1, 0, none⟩) H5 c1] 38)) g1 (imgL k (carN (groupN k r)) H5 (strD H5 xs) (2 * j + 1)) c1) := has8_later r1' hb9
              have hG7 := heap_later hGr hb9
              have HG7 : Hid _ := hG7
              have Q0 : Hid (gt[2 * j]? = some (g0, c0)) := q0
              have Q1 : Hid (gt[2 * j + 1]? = some (g1, c1)) := q1
              clear hGr hSr hord n0 n1 r0 r1 r0' r1' hb9 hG7 q0 q1
              go_upto_region 23 with fail
              clear e0 e1 e2
              generalize (wr.alloc (.cells #[.int .i64 j, .slice (some ⟨g0, 0, none⟩) H5 c0, .slice (some ⟨g1, 0, none⟩) H5 c1] 38)) = W7 at *
              generalize wr.heap.size = N at *
              have x1 := cellAt c4.out 1 _ rfl
              have x2 := cellAt c4.out 2 _ rfl
              have hn01 : g1 ≠ g0 := by omega
              have zw3 : w.heap.size ≤ w3.heap.size := HB3.out.size
              go_wp2_with fail
              refine Calls.mono (apart_H (some ⟨g1, 0, none⟩) H5 c1 g0 H5 c0 (imgL k (carN (groupN k r)) H5 (strD H5 xs) (2 * j + 1)) (imgL k (carN (groupN k r)) H5 (strD H5 xs) (2 * j)) _ (imgL_len _ _ _ _ _).symm (imgL_len _ _ _ _ _).symm (by omega)
                (fun u hu => row8_grown (row8_has R1.out) hu (has8_lt R1.out) (by simp only [ne_eq, Option.some.injEq]; exact hn01)) R0.out) ?_
              rintro e w11 ⟨rfl, hg11, -⟩
              have y2 : w11.cell? ⟨N, 2, none⟩ = some (.slice (some ⟨g1, 0, none⟩) H5 c1) := cellAt (grown_keep hg11 c4.out (fun e => by
                obtain ⟨cur, h9, _⟩ := R0.out
                exact kind_ne h9 c4.out (by decide) (Option.some.inj e).symm)) 2 _ rfl
              have R1' : Hid (Has8 w11 g1 (imgL k (carN (groupN k r)) H5 (strD H5 xs) (2 * j + 1)) c1) := by
                obtain ⟨cur, h9, h10⟩ := R1.out
                exact ⟨cur, grown_keep hg11 h9 (fun e => hn01 (Option.some.inj e)), h10⟩
              have HB11 : Hid (Below w.heap.size w w11) := below_grown HBZ.out hg11 (by omega)
              have HG11 : Hid (w11.heap[gi]? = some (.cells (vfs (xs ++ marks)) 5 (0, 0))) := grown_keep hg11 HG7.out (fun e => by have := Option.some.inj e; omega)
              have HK11 : Hid (KeptX w9 w11 (fun b => firstB gs i b ∨ firstB gt (2 * j + 1) b)) := keptX_grown HKZ.out hg11 (fun b hb => ⟨fun h => hb (h.imp id (fun ⟨x, p, hx, hp, e⟩ => ⟨x, p, by omega, hp, e⟩)), fun e => hb (.inr ⟨2 * j, _, by omega, Q0.out, e.symm⟩)⟩)
              clear hg11 x1 x2
              go_wp2_with fail
              refine Calls.mono (apart_H (some ⟨gi, 0, none⟩) la (la + 6) g1 H5 c1 xs (imgL k (carN (groupN k r)) H5 (strD H5 xs) (2 * j + 1)) _ HA.out (imgL_len _ _ _ _ _).symm (by omega)
                (fun u hu => row8_front (grown_keep hu HG11.out (fun e => by have := Option.some.inj e; omega))) R1'.out) ?_
              rintro e w12 ⟨rfl, hg12, -⟩
              have HB12 : Hid (Below w.heap.size w w12) := below_grown HB11.out hg12 (by omega)
              have HK12 : Hid (KeptX w9 w12 (fun b => firstB gs i b ∨ firstB gt (2 * (j + 1)) b)) := keptX_grown HK11.out hg12 (fun b hb => ⟨fun h => hb (h.imp id (fun ⟨x, p, hx, hp, e⟩ => ⟨x, p, by omega, hp, e⟩)), fun e => hb (.inr ⟨2 * j + 1, _, by omega, Q1.out, e.symm⟩)⟩)
              clear hg12 y2
              go_wp2
              exact ⟨⟨j + 1, by omega, by go_num, HB12.out, HK12.out⟩, by simp [intOf]; omega⟩
            · obtain rfl : j = m4 := by omega
              have HGr : Hid _ := hGr
              clear hGr
              go_wp2_with fail
              refine Calls.mono (kept_F gi la ca a xs _ HA.out (by omega) hcap HGr.out (row8_below HX.out HBY.out)) ?_
              rintro e w13 ⟨rfl, hb⟩
              have HB13 : Hid (Below w.heap.size w w13) := HBY.out.trans (hb.mono HBY.out.size)
              clear hb
              go_wp2
              go_ret
              exact ⟨rfl, HB13.out⟩
theorem encodes_all (k r : Int) (la ca : Nat) (a : Option Addr) (xs : List F) (w : World) (hk0 : -9223372036854775808 ≤ k) (hk1 : k ≤ 9223372036854775807) (hr0 : -9223372036854775808 ≤ r) (hr1 : r ≤ 9223372036854775807) (hla : la = xs.length) (hcap : la ≤ ca) (hca : ca ≤ 140737488351232) (hx : Row8 w a xs) (hnil : a = none → ca = 0) (es : List Addr) (hes : ErrsAt w gsNum es) :
    Calls Tryd.prog 3 #[.int .i64 k, .int .i64 r, .slice a la ca] w fun e w' => e = .returned (.bool true) ∧ Below w.heap.size w w' := by
  by_cases h : encE k r la = 0
  · obtain ⟨p, q, m, rfl, rfl, hm, h1, h2, h3, h4, h5⟩ := encE_ok h
    obtain rfl : la = m := by omega
    exact encodes_ok p q la ca a xs w hla hcap hca hx hnil es hes h1 h2 h3 h4 h5
  · exact encodes_bad k r la ca a xs w hk0 hk1 hr0 hr1 hla hcap hca hx hnil es hes h
end Go.Proofs.YtmlpijlcpeoeaaaDoor
