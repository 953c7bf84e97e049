/- What the document's own Variables answers, of all legal numbers of halves whose rows tell all data halves; nothing that was there turns. -/
import Derived.Test.YtmlpijlcpeoeaaaDoorJCodeDecodes2
import Derived.Test.YtmlpijlcpeoeaaaDoorMatV
import Derived.BigRegion
import Derived.Deep.DeepCutAuto
import Derived.Deep.RegionHeld3
import Derived.Test.YtmlpijlcpeoeaaaDoorMatRow
import Derived.Test.YtmlpijlcpeoeaaaDoorMatTake
import Derived.Test.YtmlpijlcpeoeaaaDoorRegHeld
import Derived.Test.YtmlpijlcpeoeaaaDoorNumApart
import Derived.Laws.OwnMore
import Derived.Lib.ItoaNum
import Derived.Lib.ItoaWalk
import Derived.Test.YtmlpijlcpeoeaaaDoorHolds
import Derived.Test.YtmlpijlcpeoeaaaDoorOwn
import Derived.Test.YtmlpijlcpeoeaaaDoorMatS
import Derived.Test.YtmlpijlcpeoeaaaDoorSolveG
import Derived.Test.YtmlpijlcpeoeaaaDoorMatOf
import Derived.Test.YtmlpijlcpeoeaaaDoorSpanA
/- Plain algebra of stage 7: where the rows of 2k halves have full rank, each unit is a combination of them, and each table of lists is the image of one and only one list of data halves. -/
namespace Go.Proofs.YtmlpijlcpeoeaaaDoor
open Go.RowKit Gf
set_option linter.unusedVariables false
set_option maxRecDepth 20000
/-- the rows of these halves -/
def numM (k : Nat) (car : Nat → Nat) (nl : List Nat) : Mt := fun i => halfF k car (nl.getD i 0)
def unitF (v : Nat) : Nat → F := fun j => if v = j then 1 else 0
theorem var_sol {c n v : Nat} {A : Mt} {x R D : Nat → F} (hv : v < c) (h : ∀ u, u < c → unitF v u = sumF (fun l => gm (A l u) (x l)) n) (hR : ∀ l, l < n → R l = sumF (fun u => gm (A l u) (D u)) c) :
    sumF (fun l => gm (x l) (R l)) n = D v := by
  rw [sumF_congr (fun l hl => by rw [hR l hl, sumF_mul_left]), sumF_swap (fun l u => gm (x l) (gm (A l u) (D u))) c n]
  rw [sumF_congr (g := fun u => gm (unitF v u) (D u)) (fun u hu => by
    rw [h u hu, sumF_mul_right]
    exact sumF_congr fun l _ => by rw [← F.mul_assoc, F.mul_comm (x l)])]
  rw [sumF_pick _ v c hv fun u _ hne => by simp [unitF, Ne.symm hne]]
  simp [unitF]
theorem full_units {A : Mt} {n : Nat} (h : (pivL A n n).length = n) : ∀ v, v < n → Dep (tr A) n n (unitF v) := fun v hv => by
  obtain ⟨R, h1, h2, _⟩ := red_ex A n n
  obtain ⟨e, he⟩ := h2 v hv
  refine ⟨e, fun i hi => ?_⟩
  have hu := h1.full_unit h v hv i hi
  show (if v = i then (1 : F) else 0) = _
  rw [← hu, he i hi]
  exact sumF_congr fun l _ => F.mul_comm _ _
theorem full_solve {A : Mt} {n : Nat} (h : (pivL A n n).length = n) (R : Nat → F) : ∃ D : Nat → F, ∀ i, i < n → R i = sumF (fun u => gm (A i u) (D u)) n := by
  have ht : (pivL (tr A) n n).length = n := by rw [rk_tr, h]
  have hz : ∀ v : Nat, ∃ x : Nat → F, v < n → ∀ i, i < n → unitF v i = sumF (fun l => gm (A i l) (x l)) n := fun v => by
    by_cases hv : v < n
    · obtain ⟨x, hx⟩ := full_units ht v hv
      exact ⟨x, fun _ i hi => hx i hi⟩
    · exact ⟨fun _ => 0, fun h => absurd h hv⟩
  obtain ⟨Z, hZ⟩ := Classical.axiomOfChoice hz
  refine ⟨fun u => sumF (fun v => gm (Z v u) (R v)) n, fun i hi => ?_⟩
  rw [sumF_congr (g := fun u => sumF (fun v => gm (A i u) (gm (Z v u) (R v))) n) (fun u _ => sumF_mul_left _ _ _)]
  rw [sumF_swap (fun u v => gm (A i u) (gm (Z v u) (R v))) n n]
  rw [sumF_congr (g := fun v => gm (unitF v i) (R v)) (fun v hv => by
    rw [hZ v hv i hi, sumF_mul_right]
    exact sumF_congr fun u _ => (F.mul_assoc _ _ _).symm)]
  rw [sumF_pick _ i n hi fun v _ hne => by simp [unitF, hne]]
  simp [unitF]
/-- the data halves of a table of lists -/
theorem full_table {A : Mt} {n : Nat} (h : (pivL A n n).length = n) (R : Nat → Nat → F) : ∃ D : Nat → Nat → F, ∀ i, i < n → ∀ b, R i b = sumF (fun u => gm (A i u) (D u b)) n := by
  obtain ⟨Y, hY⟩ := Classical.axiomOfChoice fun b : Nat => full_solve h fun i => R i b
  exact ⟨fun u b => Y b u, fun i hi b => hY b i hi⟩
theorem full_one {A : Mt} {n : Nat} (h : (pivL A n n).length = n) {R D E : Nat → F} (hD : ∀ i, i < n → R i = sumF (fun u => gm (A i u) (D u)) n) (hE : ∀ i, i < n → R i = sumF (fun u => gm (A i u) (E u)) n) : ∀ v, v < n → D v = E v := fun v hv => by
  obtain ⟨x, hx⟩ := full_units h v hv
  have h1 : ∀ u, u < n → unitF v u = sumF (fun l => gm (A l u) (x l)) n := fun u hu => hx u hu
  have e1 := var_sol (A := A) (x := x) (R := R) (D := D) hv h1 hD
  have e2 := var_sol (A := A) (x := x) (R := R) (D := E) hv h1 hE
  exact e1.symm.trans e2
/-- the rows of both halves of k shards have full rank -/
theorem num_rank {S : List Nat} {k n : Nat} {car : Nat → Nat} (hS : S.Nodup) (hl : S.length = k) (hn : ∀ x ∈ S, x < n) (hb : n ≤ 256) : (pivL (numM k car (bothH S)) (2 * k) (2 * k)).length = 2 * k :=
  half_rank hS hl hn hb
end Go.Proofs.YtmlpijlcpeoeaaaDoor

/- What find, Of, Split and Carrier of package half answer, at all numbers; nothing that was there turns. -/
namespace Go.Proofs.YtmlpijlcpeoeaaaDoor
open Go.RowKit Gf
set_option linter.unusedVariables false
set_option maxRecDepth 20000
theorem hof_ok (k r s p : Nat) (w : World) (h1 : 1 ≤ k) (h2 : 2 ≤ r) (h3 : k + r ≤ 16) (hs : s < k + r) (hp : p < 2) :
    Calls Tryd.prog 57 #[.int .i64 k, .int .i64 r, .int .i64 s, .int .i64 p] w fun e w' => e = .returned (.tuple #[.int .i64 (2 * s + p : Nat), .nilIface]) ∧ Below w.heap.size w w' := by
  have HS : Hid ((s : Int) < (k : Int) + r) := by show _ < _; omega
  have HP : Hid ((p : Int) < 2) := by show _ < _; omega
  have s1 : s ≤ 16 := by omega
  have p1 : p ≤ 1 := by omega
  clear hs hp
  go_enter Tryd.func57, Tryd.ntmps57
  go_wp2_with fail
  refine (bcheck_ok _ _ _ h1 h2 h3).mono ?_
  rintro e w' ⟨rfl, rfl⟩
  go_wp2_with fail
  refine (hthere_yes _ _ _ (by omega) HS.out).mono ?_
  rintro e w' ⟨rfl, rfl⟩
  go_wp2_with fail
  refine (hthere_yes _ _ _ (by omega) HP.out).mono ?_
  rintro e w' ⟨rfl, rfl⟩
  go_wp2_with fail
  refine (number_F s p _ (by omega) (by omega)).mono ?_
  rintro e w2 ⟨rfl, hb⟩
  have HB : Hid _ := hb
  clear hb
  go_wp2
  go_ret2
  exact ⟨rfl, HB.out⟩
theorem hof_bad (k r x y : Int) (w : World) (s : Addr) (hs : w.cell? ⟨0, 0, none⟩ = some (errAt s)) (hk0 : -9223372036854775808 ≤ k) (hk1 : k ≤ 9223372036854775807) (hr0 : -9223372036854775808 ≤ r) (hr1 : r ≤ 9223372036854775807) (hL : ¬ LegalP k r) :
    Calls Tryd.prog 57 #[.int .i64 k, .int .i64 r, .int .i64 x, .int .i64 y] w fun e w' => e = .returned (.tuple #[.int .i64 0, errAt s]) ∧ w = w' := by
  have HS : Hid _ := hs
  have H : Hid _ := hL
  clear hs hL
  go_enter Tryd.func57, Tryd.ntmps57
  go_wp2_with fail
  refine (bcheck_bad k r _ s HS.out hk0 hk1 hr0 hr1 H.out).mono ?_
  unfold errAt
  rintro e w' ⟨rfl, rfl⟩
  go_wp2
  go_ret2
  exact ⟨rfl, rfl⟩
theorem hof_no (k r : Nat) (x y : Int) (w : World) (s : Addr) (hs : w.cell? ⟨4, 0, none⟩ = some (errAt s)) (h1 : 1 ≤ k) (h2 : 2 ≤ r) (h3 : k + r ≤ 16) (hx : ¬ ((0 ≤ x ∧ x < k + r) ∧ 0 ≤ y ∧ y < 2)) :
    Calls Tryd.prog 57 #[.int .i64 k, .int .i64 r, .int .i64 x, .int .i64 y] w fun e w' => e = .returned (.tuple #[.int .i64 0, errAt s]) ∧ Below w.heap.size w w' := by
  have hlt := World.block_lt_of_cell? w _ hs
  simp at hlt
  have HX : Hid _ := hx
  unfold errAt at *
  clear hx
  by_cases hx : 0 ≤ x ∧ x < k + r
  · have hy : ¬ (0 ≤ y ∧ y < 2) := fun h => HX.out ⟨hx, h⟩
    obtain ⟨x0, x1⟩ := hx
    have HS : Hid _ := x1
    have HY : Hid _ := hy
    clear HX hy x1
    go_enter Tryd.func57, Tryd.ntmps57
    go_wp2_with fail
    refine (bcheck_ok _ _ _ h1 h2 h3).mono ?_
    rintro e w' ⟨rfl, rfl⟩
    go_wp2_with fail
    refine (hthere_yes _ _ _ x0 HS.out).mono ?_
    rintro e w' ⟨rfl, rfl⟩
    go_wp2_with fail
    refine (hthere_no _ _ _ HY.out).mono ?_
    rintro e w' ⟨rfl, rfl⟩
    go_wp2
    go_region
    go_wp2
    go_ret2
    exact ⟨rfl, (Below.refl _ _).drew⟩
  · have HY : Hid _ := hx
    clear HX hx
    go_enter Tryd.func57, Tryd.ntmps57
    go_wp2_with fail
    refine (bcheck_ok _ _ _ h1 h2 h3).mono ?_
    rintro e w' ⟨rfl, rfl⟩
    go_wp2_with fail
    refine (hthere_no _ _ _ HY.out).mono ?_
    rintro e w' ⟨rfl, rfl⟩
    go_wp2
    go_region
    go_wp2
    go_ret2
    exact ⟨rfl, (Below.refl _ _).drew⟩
end Go.Proofs.YtmlpijlcpeoeaaaDoor

/- What rowAt of package half answers; nothing that was there turns. -/
namespace Go.Proofs.YtmlpijlcpeoeaaaDoor
open Go.RowKit Gf
set_option linter.unusedVariables false
set_option maxRecDepth 20000
/-- what stands at a variable of the half that stands at (s, p) -/
def placeF (k g s p : Nat) (xs : List F) : Nat → F := fun v => if v % 2 = p then at8 xs (v / 2) else if p = 1 ∧ s = k + carN g (v / 2) then 1 else 0
theorem placeF_same {k g s p q b : Nat} {xs : List F} (h : b = p) (hb : b < 2) : placeF k g s p xs (2 * q + b) = at8 xs q := by
  rw [placeF, if_pos (by omega), show (2 * q + b) / 2 = q by omega]
theorem placeF_yes {k g s q : Nat} {xs : List F} (h : s = k + carN g q) : placeF k g s 1 xs (2 * q) = 1 := by
  rw [placeF, if_neg (by omega), show 2 * q / 2 = q by omega, if_pos ⟨rfl, h⟩]
theorem placeF_no {k g s p q b : Nat} {xs : List F} (h : b ≠ p) (hb : b < 2) (h2 : p = 1 → s ≠ k + carN g q) : placeF k g s p xs (2 * q + b) = 0 := by
  rw [placeF, if_neg (by omega), show (2 * q + b) / 2 = q by omega, if_neg (fun h => h2 h.1 h.2)]
theorem colP_skip {r j : Nat} {f : Nat → F} (h : f j = 0) : colP r f j = colP r f (j + 1) := rowF_congr fun i hi => by
  by_cases e : i = j
  · subst e; rw [if_neg (by omega), if_pos (by omega), h]
  · by_cases e2 : i < j
    · rw [if_pos e2, if_pos (by omega)]
    · rw [if_neg e2, if_neg (by omega)]
set_option maxHeartbeats 4000000 in
theorem hrowAt_0 (k g s cap : Nat) (a : Option Addr) (xs : List F) (w : World) (h1 : 1 ≤ k) (h2 : k ≤ 16) (hg : 1 ≤ g) (hg2 : g ≤ 16) (hs : s ≤ 16) (hx : xs.length = k) (hX : Row8 w a xs) :
    Calls Tryd.prog 52 #[.agg #[.int .i64 s, .int .i64 0], .slice a k cap, .int .i64 g] w fun e w' => ∃ gb n, e = .returned (.slice (some ⟨gb, 0, none⟩) n n) ∧ n = 2 * k ∧ w.heap.size ≤ gb ∧
      w'.heap[gb]? = some (.cells (vfs (rowF (2 * k) (placeF k g s 0 xs))) 5 (0, 0)) ∧ Below w.heap.size w w' := by
  obtain ⟨m, hm⟩ : ∃ m, m = 2 * k := ⟨_, rfl⟩
  have em : (2 : Int) * k = m := by omega
  have hm32 : m ≤ 32 := by omega
  rw [← hm]
  have HM : Hid _ := hm
  clear hm
  have hmk := run_make8 m (by omega)
  rcases hX with e0 | ⟨b, off, rfl, hc⟩
  · rw [e0] at hx; simp at hx; omega
  have HX : Hid _ := hx
  have HC : Hid _ := hc
  clear hx hc
  obtain ⟨f, hf⟩ : ∃ f, f = placeF k g s 0 xs := ⟨_, rfl⟩
  rw [← hf]
  have HFE : Hid _ := hf
  clear hf
  go_enter Tryd.func52, Tryd.ntmps52
  go_wp2
  have B0 := heap_alloc2_old w (.cells #[.int .i64 s, .int .i64 0] 89) (.cells (vfs (zeros m)) 5)
  have B1 := heap_alloc2_new w (.cells #[.int .i64 s, .int .i64 0] 89) (.cells (vfs (zeros m)) 5)
  have B3 := ((Below.refl w.heap.size w).alloc (Nat.le_refl _) (.cells #[.int .i64 s, .int .i64 0] 89)).alloc (by simp) (.cells (vfs (zeros m)) 5)
  generalize hW : ((w.alloc (.cells #[.int .i64 s, .int .i64 0] 89)).alloc (.cells (vfs (zeros m)) 5)) = W3 at *
  have HS0 : Hid _ := B0
  have HS1 : Hid _ := B1
  have HS3 : Hid _ := B3
  clear hW hmk B0 B1 B3
  go_loopw [18] (fun i wr => ∃ j : Nat, j ≤ m ∧ i = .int .i64 j ∧ Below w.heap.size w wr ∧ wr.heap[w.heap.size]? = some (.cells #[.int .i64 s, .int .i64 0] 89 (0, 0)) ∧ wr.heap[w.heap.size + 1]? = some (.cells (vfs (colP m f j)) 5 (0, 0))) (fun i _ => m - (intOf i).toNat)
  case atStart => exact ⟨0, by omega, rfl, HS3.out, HS0.out, by rw [← colP_zero]; exact HS1.out⟩
  case round =>
    obtain ⟨j, hj, rfl, hb, hp0, hr0⟩ := hrel
    have HB : Hid _ := hb
    have HP : Hid _ := hp0
    have HR : Hid _ := hr0
    clear hb hp0 hr0
    by_cases hlt : j < m
    rotate_left
    · have e : j = m := by omega
      subst e
      have hr := HR.out
      rw [colP_done] at hr
      have HR' : Hid _ := hr
      clear hr
      go_wp2
      go_ret
      exact ⟨w.heap.size + 1, j, rfl, rfl, by omega, HR'.out, HB.out⟩
    obtain ⟨q, b, rfl, hb2⟩ : ∃ q b : Nat, j = 2 * q + b ∧ b < 2 := ⟨j / 2, j % 2, by omega, by omega⟩
    have hqk : q < k := by have := HM.out; omega
    rcases (show b = 0 ∨ b = 1 by omega) with rfl | rfl
    ·
      go_wp2_with fail
      refine (placeOf_F (2 * q) q 0 _ rfl (by decide) (by omega)).mono ?_
      rintro e w2 ⟨rfl, hb2⟩
      have zz := hb2.size
      have HP2 : Hid (w2.heap[w.heap.size]? = some (.cells #[.int .i64 s, .int .i64 0] 89 (0, 0))) := heap_later HP.out hb2
      have HR2 : Hid (w2.heap[w.heap.size + 1]? = some (.cells (vfs (colP m f (2 * q))) 5 (0, 0))) := heap_later HR.out hb2
      have HB2 : Hid (Below w.heap.size w w2) := HB.out.trans (hb2.mono HB.out.size)
      clear hb2
      have hA := holds_new (holds_cons (holds_cons (holds_nil w2) HP2.out) HR2.out) #[.int .i64 q, .int .i64 0] 89
      have HA : Hid _ := hA
      have HB3 : Hid _ := HB2.out.alloc HB2.out.size (.cells #[.int .i64 q, .int .i64 0] 89)
      clear hA
      have c1 := cellAt (holds_at HA.out 0 rfl) 0 _ rfl
      have c2 := cellAt (holds_at HA.out 0 rfl) 1 _ rfl
      have c3 := cellAt (holds_at HA.out 2 rfl) 0 _ rfl
      have c4 := cellAt (holds_at HA.out 2 rfl) 1 _ rfl
      have z4 := ltHeap (holds_at HA.out 2 rfl)
      have c5 := cell_later HB3.out (HC.out q (by rw [HX.out]; omega))
      have c6 := cellAt (holds_at HA.out 1 rfl) (2 * q) _ (vfs_get _ _ (by rw [colP_len]; omega))
      have c7 := frozen_of_row _ (w.heap.size + 1) (2 * q) _ _ (holds_at HA.out 1 rfl)
      have z5 : w.heap.size + 1 < w2.heap.size := ltHeap HR2.out
      go_upto_region 9 with fail
      have hfq : f (2 * q) = at8 xs q := by rw [HFE.out]; exact placeF_same (q := q) (b := 0) rfl (by decide)
      have hR5 : (w2.setCell ⟨w.heap.size + 1, (2 * q), none⟩ (.int .u8 ((at8 xs q).toNat : Int))).heap[w.heap.size + 1]? = some (.cells (vfs (colP m f ((2 * q) + 1))) 5 (0, 0)) := by
        rw [heap_setCell_same _ _ _ _ _ _ HR2.out, vfs_set, ← colP_step m f (2 * q), hfq]
      have hP5 : (w2.setCell ⟨w.heap.size + 1, (2 * q), none⟩ (.int .u8 ((at8 xs q).toNat : Int))).heap[w.heap.size]? = some (.cells #[.int .i64 s, .int .i64 0] 89 (0, 0)) := (heap_setCell_other _ _ _ _ (by show w.heap.size ≠ w.heap.size + 1; omega)).trans HP2.out
      have hB5 : Below w.heap.size w (w2.setCell ⟨w.heap.size + 1, (2 * q), none⟩ (.int .u8 ((at8 xs q).toNat : Int))) := HB2.out.setCell (by show w.heap.size ≤ w.heap.size + 1; omega) _
      have hZ5 : (w2.setCell ⟨w.heap.size + 1, (2 * q), none⟩ (.int .u8 ((at8 xs q).toNat : Int))).heap.size = w2.heap.size := by simp
      have k0 : Hid (((w2.setCell ⟨w.heap.size + 1, (2 * q), none⟩ (.int .u8 ((at8 xs q).toNat : Int))).alloc (.cells #[.int .i64 q, .int .i64 0] 89)).heap[w.heap.size]? = some (.cells #[.int .i64 s, .int .i64 0] 89 (0, 0))) := (Below.heap_alloc _ _ _ (ltHeap hP5)).trans hP5
      have k1 : Hid (((w2.setCell ⟨w.heap.size + 1, (2 * q), none⟩ (.int .u8 ((at8 xs q).toNat : Int))).alloc (.cells #[.int .i64 q, .int .i64 0] 89)).heap[w.heap.size + 1]? = some (.cells (vfs (colP m f ((2 * q) + 1))) 5 (0, 0))) := (Below.heap_alloc _ _ _ (ltHeap hR5)).trans hR5
      have k2 : Hid (((w2.setCell ⟨w.heap.size + 1, (2 * q), none⟩ (.int .u8 ((at8 xs q).toNat : Int))).alloc (.cells #[.int .i64 q, .int .i64 0] 89)).heap[w2.heap.size]? = some (.cells #[.int .i64 q, .int .i64 0] 89 (0, 0))) := by
        have := heap_alloc_last (w2.setCell ⟨w.heap.size + 1, (2 * q), none⟩ (.int .u8 ((at8 xs q).toNat : Int))) (.cells #[.int .i64 q, .int .i64 0] 89)
        rw [hZ5] at this
        exact this
      have kb : Hid (Below w.heap.size w ((w2.setCell ⟨w.heap.size + 1, (2 * q), none⟩ (.int .u8 ((at8 xs q).toNat : Int))).alloc (.cells #[.int .i64 q, .int .i64 0] 89))) := hB5.alloc hB5.size _
      clear hR5 hP5 hB5 hZ5
      generalize hWA : ((w2.setCell ⟨w.heap.size + 1, (2 * q), none⟩ (.int .u8 ((at8 xs q).toNat : Int))).alloc (.cells #[.int .i64 q, .int .i64 0] 89)) = wa at *
      clear hWA c1 c2 c3 c4 c5 c6 c7
      clear HA HB2 HB3 HP2 HR2
      have c1 := boxB (B := wa.heap.size) k0.out (ltHeap k0.out) 0 _ rfl
      have c2 := boxB (B := wa.heap.size) k0.out (ltHeap k0.out) 1 _ rfl
      have c3 := boxB (B := wa.heap.size) k2.out (ltHeap k2.out) 0 _ rfl
      have c4 := boxB (B := wa.heap.size) k2.out (ltHeap k2.out) 1 _ rfl
      obtain ⟨c, hcc⟩ : ∃ c, c = carN g q := ⟨_, rfl⟩
      have HCC : Hid _ := hcc
      have hcr := fun w => carrying_F k g q w (by omega) hg (by omega) (by omega)
      rw [← hcc] at hcr
      have HCR : Hid _ := hcr
      clear hcr hcc
      have hR2 : Below wa.heap.size wa wa.drew := (Below.refl _ _).drew
      go_region_held3 (fun w' => Below wa.heap.size wa w') (first | assumption | (refine Below.drew ?_; assumption)) (first | (go_at_call 78; refine Calls.mono (HCR.out _) ?_; rintro e wj ⟨rfl, hbj⟩; have hTa : Below wa.heap.size wa wj := Below.trans ‹Below wa.heap.size wa _› (Below.mono hbj (below_size ‹Below wa.heap.size wa _›)); clear hbj))
      have hB9 : Below w.heap.size w wj := kb.out.trans (hTa.mono kb.out.size)
      have hP9 := heap_later k0.out hTa
      have hR9 := heap_later k1.out hTa
      have hB : Hid _ := hB9
      have hP : Hid _ := hP9
      have hR : Hid _ := hR9
      clear hB9 hP9 hR9
      go_wp2
      exact ⟨⟨(2 * q) + 1, by omega, by go_num, hB.out, hP.out, hR.out⟩, by simp [intOf]; omega⟩
    ·
      go_wp2_with fail
      refine (placeOf_F (2 * q + 1) q 1 _ rfl (by decide) (by omega)).mono ?_
      rintro e w2 ⟨rfl, hb2⟩
      have zz := hb2.size
      have HP2 : Hid (w2.heap[w.heap.size]? = some (.cells #[.int .i64 s, .int .i64 0] 89 (0, 0))) := heap_later HP.out hb2
      have HR2 : Hid (w2.heap[w.heap.size + 1]? = some (.cells (vfs (colP m f (2 * q + 1))) 5 (0, 0))) := heap_later HR.out hb2
      have HB2 : Hid (Below w.heap.size w w2) := HB.out.trans (hb2.mono HB.out.size)
      clear hb2
      have hA := holds_new (holds_cons (holds_cons (holds_nil w2) HP2.out) HR2.out) #[.int .i64 q, .int .i64 1] 89
      have HA : Hid _ := hA
      have HB3 : Hid _ := HB2.out.alloc HB2.out.size (.cells #[.int .i64 q, .int .i64 1] 89)
      clear hA
      have c1 := cellAt (holds_at HA.out 0 rfl) 0 _ rfl
      have c2 := cellAt (holds_at HA.out 0 rfl) 1 _ rfl
      have c3 := cellAt (holds_at HA.out 2 rfl) 0 _ rfl
      have c4 := cellAt (holds_at HA.out 2 rfl) 1 _ rfl
      have z4 := ltHeap (holds_at HA.out 2 rfl)
      have z5 : w.heap.size + 1 < w2.heap.size := ltHeap HR2.out
      go_upto_region 9 with fail
      have k0 : Hid ((w2.alloc (.cells #[.int .i64 q, .int .i64 1] 89)).heap[w.heap.size]? = some (.cells #[.int .i64 s, .int .i64 0] 89 (0, 0))) := holds_at HA.out 2 rfl
      have k1 : Hid ((w2.alloc (.cells #[.int .i64 q, .int .i64 1] 89)).heap[w.heap.size + 1]? = some (.cells (vfs (colP m f (2 * q + 1))) 5 (0, 0))) := holds_at HA.out 1 rfl
      have k2 : Hid ((w2.alloc (.cells #[.int .i64 q, .int .i64 1] 89)).heap[w2.heap.size]? = some (.cells #[.int .i64 q, .int .i64 1] 89 (0, 0))) := holds_at HA.out 0 rfl
      have kb : Hid (Below w.heap.size w (w2.alloc (.cells #[.int .i64 q, .int .i64 1] 89))) := HB3.out
      generalize hWA : (w2.alloc (.cells #[.int .i64 q, .int .i64 1] 89)) = wa at *
      clear hWA c1 c2 c3 c4 
      clear HA HB2 HB3 HP2 HR2
      have c1 := cellAt k0.out 0 _ rfl
      have c2 := cellAt k0.out 1 _ rfl
      have c3 := cellAt k2.out 0 _ rfl
      have c4 := cellAt k2.out 1 _ rfl
      go_region
      have hB9 := kb.out.drew
      have hP9 := k0.out
      have hR9 := k1.out
      have hfq : f (2 * q + 1) = 0 := by rw [HFE.out]; exact placeF_no (q := q) (b := 1) (by decide) (by decide) (fun h => absurd h (by decide))
      rw [colP_skip hfq] at hR9
      have hB : Hid _ := hB9
      have hP : Hid _ := hP9
      have hR : Hid _ := hR9
      clear hB9 hP9 hR9 hfq
      go_wp2
      exact ⟨⟨(2 * q + 1) + 1, by omega, by go_num, hB.out, hP.out, hR.out⟩, by simp [intOf]; omega⟩
set_option maxHeartbeats 4000000 in
theorem hrowAt_1 (k g s cap : Nat) (a : Option Addr) (xs : List F) (w : World) (h1 : 1 ≤ k) (h2 : k ≤ 16) (hg : 1 ≤ g) (hg2 : g ≤ 16) (hs : s ≤ 16) (hx : xs.length = k) (hX : Row8 w a xs) :
    Calls Tryd.prog 52 #[.agg #[.int .i64 s, .int .i64 1], .slice a k cap, .int .i64 g] w fun e w' => ∃ gb n, e = .returned (.slice (some ⟨gb, 0, none⟩) n n) ∧ n = 2 * k ∧ w.heap.size ≤ gb ∧
      w'.heap[gb]? = some (.cells (vfs (rowF (2 * k) (placeF k g s 1 xs))) 5 (0, 0)) ∧ Below w.heap.size w w' := by
  obtain ⟨m, hm⟩ : ∃ m, m = 2 * k := ⟨_, rfl⟩
  have em : (2 : Int) * k = m := by omega
  have hm32 : m ≤ 32 := by omega
  rw [← hm]
  have HM : Hid _ := hm
  clear hm
  have hmk := run_make8 m (by omega)
  rcases hX with e0 | ⟨b, off, rfl, hc⟩
  · rw [e0] at hx; simp at hx; omega
  have HX : Hid _ := hx
  have HC : Hid _ := hc
  clear hx hc
  obtain ⟨f, hf⟩ : ∃ f, f = placeF k g s 1 xs := ⟨_, rfl⟩
  rw [← hf]
  have HFE : Hid _ := hf
  clear hf
  go_enter Tryd.func52, Tryd.ntmps52
  go_wp2
  have B0 := heap_alloc2_old w (.cells #[.int .i64 s, .int .i64 1] 89) (.cells (vfs (zeros m)) 5)
  have B1 := heap_alloc2_new w (.cells #[.int .i64 s, .int .i64 1] 89) (.cells (vfs (zeros m)) 5)
  have B3 := ((Below.refl w.heap.size w).alloc (Nat.le_refl _) (.cells #[.int .i64 s, .int .i64 1] 89)).alloc (by simp) (.cells (vfs (zeros m)) 5)
  generalize hW : ((w.alloc (.cells #[.int .i64 s, .int .i64 1] 89)).alloc (.cells (vfs (zeros m)) 5)) = W3 at *
  have HS0 : Hid _ := B0
  have HS1 : Hid _ := B1
  have HS3 : Hid _ := B3
  clear hW hmk B0 B1 B3
  go_loopw [18] (fun i wr => ∃ j : Nat, j ≤ m ∧ i = .int .i64 j ∧ Below w.heap.size w wr ∧ wr.heap[w.heap.size]? = some (.cells #[.int .i64 s, .int .i64 1] 89 (0, 0)) ∧ wr.heap[w.heap.size + 1]? = some (.cells (vfs (colP m f j)) 5 (0, 0))) (fun i _ => m - (intOf i).toNat)
  case atStart => exact ⟨0, by omega, rfl, HS3.out, HS0.out, by rw [← colP_zero]; exact HS1.out⟩
  case round =>
    obtain ⟨j, hj, rfl, hb, hp0, hr0⟩ := hrel
    have HB : Hid _ := hb
    have HP : Hid _ := hp0
    have HR : Hid _ := hr0
    clear hb hp0 hr0
    by_cases hlt : j < m
    rotate_left
    · have e : j = m := by omega
      subst e
      have hr := HR.out
      rw [colP_done] at hr
      have HR' : Hid _ := hr
      clear hr
      go_wp2
      go_ret
      exact ⟨w.heap.size + 1, j, rfl, rfl, by omega, HR'.out, HB.out⟩
    obtain ⟨q, b, rfl, hb2⟩ : ∃ q b : Nat, j = 2 * q + b ∧ b < 2 := ⟨j / 2, j % 2, by omega, by omega⟩
    have hqk : q < k := by have := HM.out; omega
    rcases (show b = 0 ∨ b = 1 by omega) with rfl | rfl
    ·
      go_wp2_with fail
      refine (placeOf_F (2 * q) q 0 _ rfl (by decide) (by omega)).mono ?_
      rintro e w2 ⟨rfl, hb2⟩
      have zz := hb2.size
      have HP2 : Hid (w2.heap[w.heap.size]? = some (.cells #[.int .i64 s, .int .i64 1] 89 (0, 0))) := heap_later HP.out hb2
      have HR2 : Hid (w2.heap[w.heap.size + 1]? = some (.cells (vfs (colP m f (2 * q))) 5 (0, 0))) := heap_later HR.out hb2
      have HB2 : Hid (Below w.heap.size w w2) := HB.out.trans (hb2.mono HB.out.size)
      clear hb2
      have hA := holds_new (holds_cons (holds_cons (holds_nil w2) HP2.out) HR2.out) #[.int .i64 q, .int .i64 0] 89
      have HA : Hid _ := hA
      have HB3 : Hid _ := HB2.out.alloc HB2.out.size (.cells #[.int .i64 q, .int .i64 0] 89)
      clear hA
      have c1 := cellAt (holds_at HA.out 0 rfl) 0 _ rfl
      have c2 := cellAt (holds_at HA.out 0 rfl) 1 _ rfl
      have c3 := cellAt (holds_at HA.out 2 rfl) 0 _ rfl
      have c4 := cellAt (holds_at HA.out 2 rfl) 1 _ rfl
      have z4 := ltHeap (holds_at HA.out 2 rfl)
      have z5 : w.heap.size + 1 < w2.heap.size := ltHeap HR2.out
      go_upto_region 9 with fail
      have k0 : Hid ((w2.alloc (.cells #[.int .i64 q, .int .i64 0] 89)).heap[w.heap.size]? = some (.cells #[.int .i64 s, .int .i64 1] 89 (0, 0))) := holds_at HA.out 2 rfl
      have k1 : Hid ((w2.alloc (.cells #[.int .i64 q, .int .i64 0] 89)).heap[w.heap.size + 1]? = some (.cells (vfs (colP m f (2 * q))) 5 (0, 0))) := holds_at HA.out 1 rfl
      have k2 : Hid ((w2.alloc (.cells #[.int .i64 q, .int .i64 0] 89)).heap[w2.heap.size]? = some (.cells #[.int .i64 q, .int .i64 0] 89 (0, 0))) := holds_at HA.out 0 rfl
      have kb : Hid (Below w.heap.size w (w2.alloc (.cells #[.int .i64 q, .int .i64 0] 89))) := HB3.out
      generalize hWA : (w2.alloc (.cells #[.int .i64 q, .int .i64 0] 89)) = wa at *
      clear hWA c1 c2 c3 c4 
      clear HA HB2 HB3 HP2 HR2
      have c1 := boxB (B := wa.heap.size) k0.out (ltHeap k0.out) 0 _ rfl
      have c2 := boxB (B := wa.heap.size) k0.out (ltHeap k0.out) 1 _ rfl
      have c3 := boxB (B := wa.heap.size) k2.out (ltHeap k2.out) 0 _ rfl
      have c4 := boxB (B := wa.heap.size) k2.out (ltHeap k2.out) 1 _ rfl
      obtain ⟨c, hcc⟩ : ∃ c, c = carN g q := ⟨_, rfl⟩
      have HCC : Hid _ := hcc
      have hcr := fun w => carrying_F k g q w (by omega) hg (by omega) (by omega)
      rw [← hcc] at hcr
      have HCR : Hid _ := hcr
      clear hcr hcc
      by_cases hsc : s = k + c
      · have hcr2 := HCR.out
        rw [← hsc] at hcr2
        have HCS : Hid _ := hsc
        clear HCR hsc
        have HCR : Hid _ := hcr2
        clear hcr2
        have hR2 : Below wa.heap.size wa wa.drew := (Below.refl _ _).drew
        go_region_held3 (fun w' => Below wa.heap.size wa w') (first | assumption | (refine Below.drew ?_; assumption)) (first | (go_at_call 78; refine Calls.mono (HCR.out _) ?_; rintro e wj ⟨rfl, hbj⟩; have hTa : Below wa.heap.size wa wj := Below.trans ‹Below wa.heap.size wa _› (Below.mono hbj (below_size ‹Below wa.heap.size wa _›)); clear hbj))
        have hB9 : Below w.heap.size w wj := kb.out.trans (hTa.mono kb.out.size)
        have hP9 := heap_later k0.out hTa
        have hR9 := heap_later k1.out hTa
        have c5 := cellAt hR9 (2 * q) _ (vfs_get _ _ (by rw [colP_len]; omega))
        have c6 := frozen_of_row _ (w.heap.size + 1) (2 * q) _ _ hR9
        have hfq : f (2 * q) = 1 := by rw [HFE.out]; exact placeF_yes (HCS.out.trans (by rw [HCC.out]))
        have hB : Hid _ := hB9
        have hP : Hid _ := hP9
        have hR : Hid _ := hR9
        have HQ : Hid _ := hfq
        clear hB9 hP9 hR9 hfq
        go_wp2
        refine ⟨⟨(2 * q) + 1, by omega, by go_num, hB.out.setCell (by show w.heap.size ≤ w.heap.size + 1; omega) _, (heap_setCell_other _ _ _ _ (by show w.heap.size ≠ w.heap.size + 1; omega)).trans hP.out, ?_⟩, by simp [intOf]; omega⟩
        rw [heap_setCell_same _ _ _ _ _ _ hR.out, ← colP_step m f (2 * q), HQ.out, ← vfs_set]
        rfl
      · have hs1 : ¬ (s : Int) = (k : Int) + c := by omega
        have hs2 : ((s : Int) == (k : Int) + c) = false := beq_eq_false_iff_ne.2 hs1
        have hR2 : Below wa.heap.size wa wa.drew := (Below.refl _ _).drew
        go_region_held3 (fun w' => Below wa.heap.size wa w') (first | assumption | (refine Below.drew ?_; assumption)) (first | (go_at_call 78; refine Calls.mono (HCR.out _) ?_; rintro e wj ⟨rfl, hbj⟩; have hTa : Below wa.heap.size wa wj := Below.trans ‹Below wa.heap.size wa _› (Below.mono hbj (below_size ‹Below wa.heap.size wa _›)); clear hbj))
        have hB9 : Below w.heap.size w wj := kb.out.trans (hTa.mono kb.out.size)
        have hP9 := heap_later k0.out hTa
        have hR9 := heap_later k1.out hTa
        have hfq : f (2 * q) = 0 := by rw [HFE.out]; exact placeF_no (q := q) (b := 0) (by decide) (by decide) (fun _ h => hsc (h.trans (by rw [HCC.out])))
        rw [colP_skip hfq] at hR9
        have hB : Hid _ := hB9
        have hP : Hid _ := hP9
        have hR : Hid _ := hR9
        clear hB9 hP9 hR9 hfq
        go_wp2
        exact ⟨⟨(2 * q) + 1, by omega, by go_num, hB.out, hP.out, hR.out⟩, by simp [intOf]; omega⟩
    ·
      go_wp2_with fail
      refine (placeOf_F (2 * q + 1) q 1 _ rfl (by decide) (by omega)).mono ?_
      rintro e w2 ⟨rfl, hb2⟩
      have zz := hb2.size
      have HP2 : Hid (w2.heap[w.heap.size]? = some (.cells #[.int .i64 s, .int .i64 1] 89 (0, 0))) := heap_later HP.out hb2
      have HR2 : Hid (w2.heap[w.heap.size + 1]? = some (.cells (vfs (colP m f (2 * q + 1))) 5 (0, 0))) := heap_later HR.out hb2
      have HB2 : Hid (Below w.heap.size w w2) := HB.out.trans (hb2.mono HB.out.size)
      clear hb2
      have hA := holds_new (holds_cons (holds_cons (holds_nil w2) HP2.out) HR2.out) #[.int .i64 q, .int .i64 1] 89
      have HA : Hid _ := hA
      have HB3 : Hid _ := HB2.out.alloc HB2.out.size (.cells #[.int .i64 q, .int .i64 1] 89)
      clear hA
      have c1 := cellAt (holds_at HA.out 0 rfl) 0 _ rfl
      have c2 := cellAt (holds_at HA.out 0 rfl) 1 _ rfl
      have c3 := cellAt (holds_at HA.out 2 rfl) 0 _ rfl
      have c4 := cellAt (holds_at HA.out 2 rfl) 1 _ rfl
      have z4 := ltHeap (holds_at HA.out 2 rfl)
      have c5 := cell_later HB3.out (HC.out q (by rw [HX.out]; omega))
      have c6 := cellAt (holds_at HA.out 1 rfl) (2 * q + 1) _ (vfs_get _ _ (by rw [colP_len]; omega))
      have c7 := frozen_of_row _ (w.heap.size + 1) (2 * q + 1) _ _ (holds_at HA.out 1 rfl)
      have z5 : w.heap.size + 1 < w2.heap.size := ltHeap HR2.out
      go_upto_region 9 with fail
      have hfq : f (2 * q + 1) = at8 xs q := by rw [HFE.out]; exact placeF_same (q := q) (b := 1) rfl (by decide)
      have hR5 : (w2.setCell ⟨w.heap.size + 1, (2 * q + 1), none⟩ (.int .u8 ((at8 xs q).toNat : Int))).heap[w.heap.size + 1]? = some (.cells (vfs (colP m f ((2 * q + 1) + 1))) 5 (0, 0)) := by
        rw [heap_setCell_same _ _ _ _ _ _ HR2.out, vfs_set, ← colP_step m f (2 * q + 1), hfq]
      have hP5 : (w2.setCell ⟨w.heap.size + 1, (2 * q + 1), none⟩ (.int .u8 ((at8 xs q).toNat : Int))).heap[w.heap.size]? = some (.cells #[.int .i64 s, .int .i64 1] 89 (0, 0)) := (heap_setCell_other _ _ _ _ (by show w.heap.size ≠ w.heap.size + 1; omega)).trans HP2.out
      have hB5 : Below w.heap.size w (w2.setCell ⟨w.heap.size + 1, (2 * q + 1), none⟩ (.int .u8 ((at8 xs q).toNat : Int))) := HB2.out.setCell (by show w.heap.size ≤ w.heap.size + 1; omega) _
      have hZ5 : (w2.setCell ⟨w.heap.size + 1, (2 * q + 1), none⟩ (.int .u8 ((at8 xs q).toNat : Int))).heap.size = w2.heap.size := by simp
      have k0 : Hid (((w2.setCell ⟨w.heap.size + 1, (2 * q + 1), none⟩ (.int .u8 ((at8 xs q).toNat : Int))).alloc (.cells #[.int .i64 q, .int .i64 1] 89)).heap[w.heap.size]? = some (.cells #[.int .i64 s, .int .i64 1] 89 (0, 0))) := (Below.heap_alloc _ _ _ (ltHeap hP5)).trans hP5
      have k1 : Hid (((w2.setCell ⟨w.heap.size + 1, (2 * q + 1), none⟩ (.int .u8 ((at8 xs q).toNat : Int))).alloc (.cells #[.int .i64 q, .int .i64 1] 89)).heap[w.heap.size + 1]? = some (.cells (vfs (colP m f ((2 * q + 1) + 1))) 5 (0, 0))) := (Below.heap_alloc _ _ _ (ltHeap hR5)).trans hR5
      have k2 : Hid (((w2.setCell ⟨w.heap.size + 1, (2 * q + 1), none⟩ (.int .u8 ((at8 xs q).toNat : Int))).alloc (.cells #[.int .i64 q, .int .i64 1] 89)).heap[w2.heap.size]? = some (.cells #[.int .i64 q, .int .i64 1] 89 (0, 0))) := by
        have := heap_alloc_last (w2.setCell ⟨w.heap.size + 1, (2 * q + 1), none⟩ (.int .u8 ((at8 xs q).toNat : Int))) (.cells #[.int .i64 q, .int .i64 1] 89)
        rw [hZ5] at this
        exact this
      have kb : Hid (Below w.heap.size w ((w2.setCell ⟨w.heap.size + 1, (2 * q + 1), none⟩ (.int .u8 ((at8 xs q).toNat : Int))).alloc (.cells #[.int .i64 q, .int .i64 1] 89))) := hB5.alloc hB5.size _
      clear hR5 hP5 hB5 hZ5
      generalize hWA : ((w2.setCell ⟨w.heap.size + 1, (2 * q + 1), none⟩ (.int .u8 ((at8 xs q).toNat : Int))).alloc (.cells #[.int .i64 q, .int .i64 1] 89)) = wa at *
      clear hWA c1 c2 c3 c4 c5 c6 c7
      clear HA HB2 HB3 HP2 HR2
      have c1 := cellAt k0.out 0 _ rfl
      have c2 := cellAt k0.out 1 _ rfl
      have c3 := cellAt k2.out 0 _ rfl
      have c4 := cellAt k2.out 1 _ rfl
      go_region
      have hB9 := kb.out.drew
      have hP9 := k0.out
      have hR9 := k1.out
      have hB : Hid _ := hB9
      have hP : Hid _ := hP9
      have hR : Hid _ := hR9
      clear hB9 hP9 hR9
      go_wp2
      exact ⟨⟨(2 * q + 1) + 1, by omega, by go_num, hB.out, hP.out, hR.out⟩, by simp [intOf]; omega⟩
theorem hrowAt_F (k g s p cap : Nat) (a : Option Addr) (xs : List F) (w : World) (h1 : 1 ≤ k) (h2 : k ≤ 16) (hg : 1 ≤ g) (hg2 : g ≤ 16) (hs : s ≤ 16) (hp : p < 2) (hx : xs.length = k) (hX : Row8 w a xs) :
    Calls Tryd.prog 52 #[.agg #[.int .i64 s, .int .i64 p], .slice a k cap, .int .i64 g] w fun e w' => ∃ gb n, e = .returned (.slice (some ⟨gb, 0, none⟩) n n) ∧ n = 2 * k ∧ w.heap.size ≤ gb ∧
      w'.heap[gb]? = some (.cells (vfs (rowF (2 * k) (placeF k g s p xs))) 5 (0, 0)) ∧ Below w.heap.size w w' := by
  rcases (show p = 0 ∨ p = 1 by omega) with rfl | rfl
  · exact hrowAt_0 k g s cap a xs w h1 h2 hg hg2 hs hx hX
  · exact hrowAt_1 k g s cap a xs w h1 h2 hg hg2 hs hx hX
end Go.Proofs.YtmlpijlcpeoeaaaDoor

/- What Rows of package half answers, of all numbers; nothing that was there turns. -/
namespace Go.Proofs.YtmlpijlcpeoeaaaDoor
open Go.RowKit Gf
set_option linter.unusedVariables false
set_option maxRecDepth 20000
/-- the rows of all halves -/
def halfM (k r : Nat) : List F := grid (2 * k) (halfF k (carN (groupN k r))) (2 * (k + r))
theorem halfM_len (k r : Nat) : (halfM k r).length = 2 * (k + r) * (2 * k) := grid_len _ _ _
theorem hkind_ne {w : World} {a b : Nat} {cs ds : Array Value} {t u : TypeId} {f1 f2 : Nat × Nat} (h1 : w.heap[a]? = some (.cells cs t f1)) (h2 : w.heap[b]? = some (.cells ds u f2)) (h : t ≠ u) : a ≠ b := fun e => by
  subst e; rw [h1] at h2; cases h2; exact h rfl
theorem place_half {k r g s p : Nat} (hs : s < k + r) (hp : p < 2) : rowF (2 * k) (placeF k g s p (rowAt k (genM k r) s)) = rowF (2 * k) (halfF k (carN g) (2 * s + p)) := by
  refine rowF_congr fun v hv => ?_
  rw [genM, rowAt_grid hs]
  simp only [placeF, halfF]
  rw [show (2 * s + p) % 2 = p by omega, show (2 * s + p) / 2 = s by omega]
  by_cases h : v % 2 = p
  · rw [if_pos h, if_pos h, at8_rowF (by omega)]
  · rw [if_neg h, if_neg h]
    by_cases h2 : p = 1 ∧ s = k + carN g (v / 2)
    · rw [if_pos h2, if_pos ⟨h2.1, by omega, by omega⟩]
    · rw [if_neg h2, if_neg (fun h3 => h2 ⟨h3.1, by omega⟩)]
set_option maxHeartbeats 4000000 in
theorem hrows_F (k r : Nat) (w : World) (s0 : Addr) (hs0 : w.cell? ⟨2, 0, none⟩ = some (errAt s0)) (h1 : 1 ≤ k) (h2 : 2 ≤ r) (h3 : k + r ≤ 16) :
    Calls Tryd.prog 28 #[.int .i64 k, .int .i64 r] w fun e w' => ∃ g m, e = .returned (.tuple #[.agg #[.int .i64 (2 * (k + r) : Nat), .int .i64 (2 * k : Nat), .slice (some ⟨g, 0, none⟩) m m], .nilIface]) ∧ m = 2 * (k + r) * (2 * k) ∧ w.heap.size ≤ g ∧
      w'.heap[g]? = some (.cells (vfs (halfM k r)) 5 (0, 0)) ∧ Below w.heap.size w w' := by
  obtain ⟨gr1, _, _, gr2⟩ := groupN_least h1 h2 h3
  have HG : Hid _ := fun w => bgroup_ok k r w h1 h2 h3
  have HV : Hid _ := fun w s hs => generator_F k r w s hs h1 h2 h3
  have hhm : halfM k r = grid (2 * k) (halfF k (carN (groupN k r))) (2 * (k + r)) := rfl
  obtain ⟨gr, hgr⟩ : ∃ gr, gr = groupN k r := ⟨_, rfl⟩
  rw [← hgr] at HG gr1 gr2 hhm
  obtain ⟨n, hn⟩ : ∃ n, n = 2 * (k + r) := ⟨_, rfl⟩
  obtain ⟨c, hc⟩ : ∃ c, c = 2 * k := ⟨_, rfl⟩
  obtain ⟨t, ht⟩ : ∃ t, t = k + r := ⟨_, rfl⟩
  rw [← ht] at HV
  rw [← hn, ← hc] at hhm ⊢
  have en : (2 : Int) * ((k : Int) + r) = n := by omega
  have ec : (2 : Int) * (k : Int) = c := by omega
  have hn32 : n ≤ 32 := by omega
  have hc32 : c ≤ 32 := by omega
  have HN : Hid _ := hn
  have HC : Hid _ := hc
  have HT : Hid _ := ht
  have HHM : Hid _ := hhm
  have HS : Hid _ := hs0
  have hmk := run_makeS n (by omega)
  clear hgr hn hc ht hhm hs0
  have hA := holds_new (holds_nil w) #[.int .i64 0, .int .i64 0, .slice none 0 0] 65
  have HA : Hid _ := hA
  have HB0 : Hid _ := (Below.refl w.heap.size w).alloc (Nat.le_refl _) (.cells #[.int .i64 0, .int .i64 0, .slice none 0 0] 65)
  clear hA
  go_enter Tryd.func28, Tryd.ntmps28
  go_wp2_with fail
  refine Calls.mono (HV.out _ s0 (cell_later HB0.out HS.out)) ?_
  rintro e w1 ⟨g1, m1, rfl, hm1, hg1, hh1, hb1⟩
  have HA1 : Hid _ := holds_new (holds_cons (holds_later HA.out hb1) hh1) #[.int .i64 t, .int .i64 k, .slice (some ⟨g1, 0, none⟩) m1 m1] 65
  have hB1 := HB0.out.trans (hb1.mono HB0.out.size)
  have HB1 : Hid (Below w.heap.size w (w1.alloc (.cells #[.int .i64 t, .int .i64 k, .slice (some ⟨g1, 0, none⟩) m1 m1] 65))) := hB1.alloc hB1.size _
  have HM1 : Hid _ := hm1
  clear hb1 hh1 hg1 hm1 HA hB1
  go_wp2_with fail
  refine Calls.mono (HG.out _) ?_
  rintro e w2 ⟨rfl, rfl⟩
  go_wp2
  have hA2 := holds_cons (holds_alloc HA1.out (.cells (slV 0 [] n) 22)) (heap_alloc_last (w1.alloc (.cells #[.int .i64 t, .int .i64 k, .slice (some ⟨g1, 0, none⟩) m1 m1] 65)) (.cells (slV 0 [] n) 22))
  have hB2 := HB1.out.alloc HB1.out.size (.cells (slV 0 [] n) 22)
  have hz1 := HB1.out.size
  have hz2 := ltHeap (holds_at HA1.out 2 rfl)
  rw [World.size_alloc] at hA2 hz1 hz2
  have HA2 : Hid _ := hA2
  have HB2 : Hid _ := hB2
  clear hA2 hB2 HA1 HB1 hmk
  generalize hM : w1.heap.size + 1 = M at *
  generalize ((w1.alloc (.cells #[.int .i64 t, .int .i64 k, .slice (some ⟨g1, 0, none⟩) m1 m1] 65)).alloc (.cells (slV 0 [] n) 22)) = W3 at *
  have hM0 : w.heap.size < M := by omega
  have hM1 : w1.heap.size < M := by omega
  clear hM
  go_loopw [41] (fun i wr => ∃ j : Nat, ∃ gs : List Nat, j ≤ n ∧ i = .int .i64 j ∧ gs.length = j ∧ Below w.heap.size w wr ∧
    Holds wr [(M, .cells (slV c gs n) 22 (0, 0)), (w1.heap.size, .cells #[.int .i64 t, .int .i64 k, .slice (some ⟨g1, 0, none⟩) m1 m1] 65 (0, 0)), (g1, .cells (vfs (genM k r)) 5 (0, 0)), (w.heap.size, .cells #[.int .i64 0, .int .i64 0, .slice none 0 0] 65 (0, 0))] ∧
    ∀ i g, gs[i]? = some g → g ≠ M ∧ wr.heap[g]? = some (.cells (vfs (rowF c (halfF k (carN gr) i))) 5 (0, 0))) (fun i _ => n - (intOf i).toNat)
  case atStart => exact ⟨0, [], by omega, rfl, rfl, HB2.out, HA2.out, fun j g h => by simp at h⟩
  case round =>
    obtain ⟨j, gs, hj, rfl, hgs, hb, hh, hrows⟩ := hrel
    have HB : Hid _ := hb
    have HH : Hid _ := hh
    have HR : Hid _ := hrows
    have HGS : Hid _ := hgs
    clear hb hh hrows hgs
    by_cases hlt : j < n
    · obtain ⟨s, p, rfl, hp2, hst⟩ : ∃ s p : Nat, j = 2 * s + p ∧ p < 2 ∧ s < t := ⟨j / 2, j % 2, by omega, by omega, by have := HN.out; have := HT.out; omega⟩
      go_wp2_with fail
      refine (placeOf_F (2 * s + p) s p _ rfl hp2 (by have := HT.out; omega)).mono ?_
      rintro e w4 ⟨rfl, hb4⟩
      have HH4 : Hid _ := holds_new (holds_later HH.out hb4) #[.int .i64 s, .int .i64 p] 89
      have hB4 := HB.out.trans (hb4.mono HB.out.size)
      have HB4 : Hid _ := hB4.alloc hB4.size (.cells #[.int .i64 s, .int .i64 p] 89)
      have HR4b : Hid (∀ (k0 : Nat) (o : Obj), wr.heap[k0]? = some o → (w4.alloc (.cells #[.int .i64 s, .int .i64 p] 89)).heap[k0]? = some o) := fun k0 o h => (Below.heap_alloc _ _ _ (ltHeap (heap_later h hb4))).trans (heap_later h hb4)
      have zz4 := hb4.size
      clear hb4 hB4
      have c1 := cellAt (holds_at HH4.out 2 rfl) 0 _ rfl
      have c2 := cellAt (holds_at HH4.out 2 rfl) 1 _ rfl
      have c3 := cellAt (holds_at HH4.out 2 rfl) 2 _ rfl
      have c4 := cellAt (holds_at HH4.out 0 rfl) 0 _ rfl
      have z4 := ltHeap (holds_at HH4.out 0 rfl)
      have z5 := ltHeap (holds_at HH4.out 2 rfl)
      go_wp2_with fail
      refine Calls.mono (row_F t k m1 m1 s (some ⟨g1, 0, none⟩) (genM k r) _ (by have := HT.out; omega) (by omega) (by have := HM1.out; simpa using this) (by rw [genM_len, HT.out]) (Nat.le_refl _) (holds_row HH4.out 3 rfl) (fun h => by cases h) hst) ?_
      rintro e w5 ⟨a5, cap5, rfl, hr5, hn5, _, hb5⟩
      have HR5 : Hid _ := hr5
      have HH5 : Hid _ := holds_later HH4.out hb5
      have HB5 : Hid (Below w.heap.size w w5) := HB4.out.trans (hb5.mono HB4.out.size)
      have HR5b : Hid (∀ (k0 : Nat) (o : Obj), wr.heap[k0]? = some o → w5.heap[k0]? = some o) := fun k0 o h => heap_later (HR4b.out k0 o h) hb5
      clear hr5 hb5 hn5 c1 c2 c3 c4 z4 z5 HB4
      have c1 := cellAt (holds_at HH5.out 0 rfl) 0 _ rfl
      have c2 := cellAt (holds_at HH5.out 0 rfl) 1 _ rfl
      have z5 := ltHeap (holds_at HH5.out 0 rfl)
      go_wp2_with fail
      refine Calls.mono (hrowAt_F k gr s p cap5 a5 _ _ h1 (by omega) gr1 gr2 (by have := HT.out; omega) hp2 (rowAt_len (by rw [genM_len]) (by rw [← HT.out]; exact hst)) HR5.out) ?_
      rintro e w6 ⟨g6, n6, rfl, hn6, hg6, hh6, hb6⟩
      obtain rfl : n6 = c := by have := HC.out; omega
      rw [place_half (by have := HT.out; omega) hp2, ← HC.out] at hh6
      have hs6 := heap_later (holds_at HH5.out 1 rfl) hb6
      have z6 := ltHeap (holds_at HH5.out 1 rfl)
      have hg6M : g6 ≠ M := by omega
      have HG2 := HGS.out
      have c7 : w6.cell? ⟨M, 2 * s + p, none⟩ = some (.slice none 0 0) := cellAt hs6 (2 * s + p) _ (by have e := slV_next (c := n6) (gs := gs) (r := n) (by rw [HG2]; exact hlt); rwa [HG2] at e)
      have c8 : w6.frozen? ⟨M, 2 * s + p, none⟩ = false := frozen_of_row _ _ _ _ _ hs6
      have hW : ∀ (k0 : Nat) (o : Obj), k0 ≠ M → w6.heap[k0]? = some o → (w6.setCell ⟨M, 2 * s + p, none⟩ (.slice (some ⟨g6, 0, none⟩) n6 n6)).heap[k0]? = some o := fun k0 o h1 h2 => (heap_setCell_other _ _ _ _ h1).trans h2
      have HT6 : Hid ((w6.setCell ⟨M, 2 * s + p, none⟩ (.slice (some ⟨g6, 0, none⟩) n6 n6)).heap[M]? = some (.cells (slV n6 (gs ++ [g6]) n) 22 (0, 0))) := by
        show _ = _
        rw [heap_setCell_same _ _ _ _ _ _ hs6, ← HG2, slV_set g6 (by omega)]
      have HROW : Hid (∀ i g, (gs ++ [g6])[i]? = some g → g ≠ M ∧ (w6.setCell ⟨M, 2 * s + p, none⟩ (.slice (some ⟨g6, 0, none⟩) n6 n6)).heap[g]? = some (.cells (vfs (rowF n6 (halfF k (carN gr) i))) 5 (0, 0))) := by
        intro i g hi
        by_cases hjk : i < gs.length
        · rw [List.getElem?_append_left hjk] at hi
          obtain ⟨h1, h2⟩ := HR.out i g hi
          exact ⟨h1, hW _ _ h1 (heap_later (HR5b.out _ _ h2) hb6)⟩
        · have hj2 := (List.getElem?_eq_some_iff.1 hi).1
          simp only [List.length_append, List.length_singleton] at hj2
          obtain rfl : i = 2 * s + p := by omega
          rw [List.getElem?_append_right (by omega), show 2 * s + p - gs.length = 0 from by omega] at hi
          obtain rfl : g6 = g := by simpa using hi
          exact ⟨hg6M, hW _ _ hg6M hh6⟩
      have hB6 := HB5.out.trans (hb6.mono HB5.out.size)
      have hBX := hB6.setCell (p := ⟨M, 2 * s + p, none⟩) (by show w.heap.size ≤ M; omega) (.slice (some ⟨g6, 0, none⟩) n6 n6)
      have HBX : Hid _ := hBX
      have hX0 := holds_later HH5.out hb6
      have HHX : Hid (Holds (w6.setCell ⟨M, 2 * s + p, none⟩ (.slice (some ⟨g6, 0, none⟩) n6 n6)) [(M, .cells (slV n6 (gs ++ [g6]) n) 22 (0, 0)), (w1.heap.size, .cells #[.int .i64 t, .int .i64 k, .slice (some ⟨g1, 0, none⟩) m1 m1] 65 (0, 0)), (g1, .cells (vfs (genM k r)) 5 (0, 0)), (w.heap.size, .cells #[.int .i64 0, .int .i64 0, .slice none 0 0] 65 (0, 0))]) :=
        holds_cons (holds_cons (holds_cons (holds_cons (holds_nil _) (hW _ _ (by omega) (holds_at hX0 4 rfl))) (hW _ _ (hkind_ne (holds_at hX0 3 rfl) hs6 (by decide)) (holds_at hX0 3 rfl))) (hW _ _ (by omega) (holds_at hX0 2 rfl))) HT6.out
      clear hs6 hb6 hh6 hW hB6 hBX hX0 hn6 c1 c2 HG2
      go_wp2
      refine ⟨⟨2 * s + p + 1, gs ++ [g6], by omega, by go_num, by simp [HGS.out], HBX.out, HHX.out, HROW.out⟩, by simp [intOf]; omega⟩
    · obtain rfl : j = n := by omega
      have k1 := holds_at HH.out 0 rfl
      go_wp2_with fail
      refine Calls.mono (of_F c j j _ ((List.range j).map fun i => rowF c (halfF k (carN gr) i)) _ (by omega) (by simp) (by omega) (fun x hx => ?_) (.inr ⟨M, 0, rfl, fun i x hx => ?_⟩)) ?_
      · obtain ⟨i, _, rfl⟩ := List.mem_map.1 hx
        exact rowF_len _ _
      · simp only [List.getElem?_map, Option.map_eq_some_iff] at hx
        obtain ⟨l, hi, rfl⟩ := hx
        obtain ⟨hjk, hi2⟩ := List.getElem?_eq_some_iff.1 hi
        simp only [List.length_range] at hjk
        simp only [List.getElem_range] at hi2
        subst hi2
        have hjg : i < gs.length := by rw [HGS.out]; exact hjk
        have hgj : gs[i]? = some gs[i] := List.getElem?_eq_getElem hjg
        refine ⟨some ⟨gs[i], 0, none⟩, c, ?_, row8_own (HR.out i _ hgj).2⟩
        rw [Nat.zero_add, rowF_len]
        exact cellAt k1 i _ (slV_at hjg)
      rintro e w5 ⟨g, m, rfl, hm, hg, hh, hb5⟩
      rw [← grid_flat, ← HHM.out] at hh
      have k2 := heap_later (holds_at HH.out 3 rfl) hb5
      have c4 := cellAt k2 0 _ rfl
      have c5 := cellAt k2 1 _ rfl
      have c6 := cellAt k2 2 _ rfl
      have d4 : w5.frozen? ⟨w.heap.size, 0, none⟩ = false := frozen_of_row _ _ _ _ _ k2
      have d5 : w5.frozen? ⟨w.heap.size, 1, none⟩ = false := frozen_of_row _ _ _ _ _ k2
      have d6 : w5.frozen? ⟨w.heap.size, 2, none⟩ = false := frozen_of_row _ _ _ _ _ k2
      have HMM : Hid _ := hm
      have HHH : Hid _ := hh
      have HBW : Hid (Below w.heap.size w w5) := HB.out.trans (hb5.mono HB.out.size)
      have hgw : w.heap.size < g := by
        have h1 := ltHeap k1
        omega
      clear hm hh hb5 k2 k1
      go_wp2
      refine bodyPost_ret (v := .tuple #[.agg #[.int .i64 j, .int .i64 c, .slice (some ⟨g, 0, none⟩) m m], .nilIface]) (by simp [results, Tryd.results28, go_sem, c4, c5, c6]) rfl ⟨g, m, rfl, HMM.out, by omega, ?_, ?_⟩
      · rw [heap_setCell_other _ _ _ _ (by show g ≠ w.heap.size; omega), heap_setCell_other _ _ _ _ (by show g ≠ w.heap.size; omega), heap_setCell_other _ _ _ _ (by show g ≠ w.heap.size; omega)]
        exact HHH.out
      · exact ((HBW.out.setCell (by simp) _).setCell (by simp) _).setCell (by simp) _
end Go.Proofs.YtmlpijlcpeoeaaaDoor

/- Facts for the statement MatPlaces: refusals of Take, two lists apart, the document's own Row, an append in a drawn region. -/
namespace Go.Proofs.YtmlpijlcpeoeaaaDoor
open Go.RowKit Gf
set_option linter.unusedVariables false
set_option maxRecDepth 20000
set_option maxHeartbeats 1000000 in
theorem take_bad (r c : Int) (a an : Option Addr) (l cap ln cn : Nat) (w : World) (s : Addr) (hs : w.cell? ⟨2, 0, none⟩ = some (errAt s)) (h : ¬ (0 ≤ r ∧ r ≤ 64 ∧ 0 ≤ c ∧ c ≤ 64 ∧ (l : Int) = r * c)) :
    Calls Tryd.prog 59 #[.agg #[.int .i64 r, .int .i64 c, .slice a l cap], .slice an ln cn] w fun e w' => e = .returned (.tuple #[.agg #[.int .i64 0, .int .i64 0, .slice none 0 0], errAt s]) ∧ Below w.heap.size w w' := by
  have hlt := World.block_lt_of_cell? w _ hs
  simp at hlt
  have H : Hid _ := h
  clear h
  have HS : Hid _ := cell?_alloc_old (.cells #[.int .i64 0, .int .i64 0, .slice none 0 0] 65) (cell?_alloc_old (.cells #[.int .i64 r, .int .i64 c, .slice a l cap] 65) hs)
  unfold errAt at *
  go_enter Tryd.func59, Tryd.ntmps59
  go_wp2_with fail
  refine Calls.mono (check_bad r c a l cap _ _ HS.out H.out) ?_
  rintro e w1 ⟨rfl, hb1⟩
  have k1 := heap_later (heap_alloc2_new w (.cells #[.int .i64 r, .int .i64 c, .slice a l cap] 65) (.cells #[.int .i64 0, .int .i64 0, .slice none 0 0] 65)) hb1
  have c4 := cellAt k1 0 _ rfl
  have c5 := cellAt k1 1 _ rfl
  have c6 := cellAt k1 2 _ rfl
  have d4 : w1.frozen? ⟨w.heap.size + 1, 0, none⟩ = false := frozen_of_row _ _ _ _ _ k1
  have d5 : w1.frozen? ⟨w.heap.size + 1, 1, none⟩ = false := frozen_of_row _ _ _ _ _ k1
  have d6 : w1.frozen? ⟨w.heap.size + 1, 2, none⟩ = false := frozen_of_row _ _ _ _ _ k1
  have c9 := cell_later hb1 HS.out
  have HB1 : Hid (Below w.heap.size w w1) := (((Below.refl w.heap.size w).alloc (Nat.le_refl _) _).alloc (by simp) _).trans (hb1.mono (by simp; omega))
  clear hb1 k1
  go_wp2
  go_region
  go_wp2
  refine bodyPost_ret (v := .tuple #[.agg #[.int .i64 0, .int .i64 0, .slice none 0 0], .iface 140 (.pointer (some s))]) (by simp [results, Tryd.results59, go_sem, c4, c5, c6]) rfl ⟨rfl, ?_⟩
  exact (((HB1.out.setCell (by simp) _).setCell (by simp) _).setCell (by simp) _).drew
set_option maxHeartbeats 1000000 in
theorem take_long (r c : Nat) (a an : Option Addr) (l cap ln cn : Nat) (w : World) (s : Addr) (hs : w.cell? ⟨2, 0, none⟩ = some (errAt s)) (hr : r ≤ 64) (hc : c ≤ 64) (hl : l = r * c) (hn : 64 < ln) :
    Calls Tryd.prog 59 #[.agg #[.int .i64 r, .int .i64 c, .slice a l cap], .slice an ln cn] w fun e w' => e = .returned (.tuple #[.agg #[.int .i64 0, .int .i64 0, .slice none 0 0], errAt s]) ∧ Below w.heap.size w w' := by
  have hlt := World.block_lt_of_cell? w _ hs
  simp at hlt
  have HL : Hid _ := hl
  clear hl
  have HS : Hid _ := cell?_alloc_old (.cells #[.int .i64 0, .int .i64 0, .slice none 0 0] 65) (cell?_alloc_old (.cells #[.int .i64 r, .int .i64 c, .slice a l cap] 65) hs)
  unfold errAt at *
  go_enter Tryd.func59, Tryd.ntmps59
  go_wp2_with fail
  refine Calls.mono (check_ok r c a l cap _ hr hc HL.out) ?_
  rintro e w1 ⟨rfl, hb1⟩
  have k1 := heap_later (heap_alloc2_new w (.cells #[.int .i64 r, .int .i64 c, .slice a l cap] 65) (.cells #[.int .i64 0, .int .i64 0, .slice none 0 0] 65)) hb1
  have c4 := cellAt k1 0 _ rfl
  have c5 := cellAt k1 1 _ rfl
  have c6 := cellAt k1 2 _ rfl
  have d4 : w1.frozen? ⟨w.heap.size + 1, 0, none⟩ = false := frozen_of_row _ _ _ _ _ k1
  have d5 : w1.frozen? ⟨w.heap.size + 1, 1, none⟩ = false := frozen_of_row _ _ _ _ _ k1
  have d6 : w1.frozen? ⟨w.heap.size + 1, 2, none⟩ = false := frozen_of_row _ _ _ _ _ k1
  have c9 := cell_later hb1 HS.out
  have HB1 : Hid (Below w.heap.size w w1) := (((Below.refl w.heap.size w).alloc (Nat.le_refl _) _).alloc (by simp) _).trans (hb1.mono (by simp; omega))
  clear hb1 k1
  go_wp2
  go_region
  go_wp2
  refine bodyPost_ret (v := .tuple #[.agg #[.int .i64 0, .int .i64 0, .slice none 0 0], .iface 140 (.pointer (some s))]) (by simp [results, Tryd.results59, go_sem, c4, c5, c6]) rfl ⟨rfl, ?_⟩
  exact (((HB1.out.setCell (by simp) _).setCell (by simp) _).setCell (by simp) _).drew

theorem wanted_append_run {P : Program} {w : World} {o : Oper} {a : Act} {K : Act → World → Prop} {Q : Exit → Act → World → Prop} {ys : Nat → Option Bool} {L : Prop} (hgd : o.guard = none) (s x : Operand) (t : TypeId)
    (ho : o.op = .call { callee := .builtin .append, args := #[s, x], argTypes := #[t, t] }) (v u r : Value) (w' : World) (hs : a.eval s = v) (hx : a.eval x = u)
    (hr : (Builtin.append_ #[t, t] o.type #[v, u]).run P w = .ok r w') (h : K (a.put o.dst r) w') : if Region.wanted o ys = true then Oper.wp P o a w K Q else L := by
  rw [if_pos (by simp [Region.wanted, hgd])]
  unfold Oper.wp execOp
  simp only [ho, resolve, invoke, builtin, Sem.run_bind, Sem.run_pure, Result.andThen_ok, List.map_toArray, List.map_cons, List.map_nil, hs, hx, hr]
  exact h
theorem kind_ne {w : World} {a b : Nat} {cs ds : Array Value} {t u : TypeId} {f1 f2 : Nat × Nat} (h1 : w.heap[a]? = some (.cells cs t f1)) (h2 : w.heap[b]? = some (.cells ds u f2)) (h : t ≠ u) : a ≠ b := fun e => by
  subst e; rw [h1] at h2; cases h2; exact h rfl
theorem grown_some {w w' : World} (g : Nat) (h : w.grownBy w' none) : w.grownBy w' (some g) := ⟨h.os, h.tape, h.output, h.size, fun k hk _ => h.block k hk (by simp)⟩
theorem grown_keep {w w' : World} {r : Option Nat} {k : Nat} {o : Obj} (h : w.grownBy w' r) (hk : w.heap[k]? = some o) (hne : some k ≠ r) : w'.heap[k]? = some o := (h.block k (Array.getElem?_eq_some_iff.1 hk).1 hne).trans hk

theorem has8_take {w : World} {g cap : Nat} {xs : List F} (h : Has8 w g xs cap) (m : Nat) : Has8 w g (xs.take m) cap := by
  obtain ⟨cur, hg, hs, hl, hm, ht⟩ := h
  refine ⟨cur, hg, hs, by rw [List.length_take]; omega, hm, ?_⟩
  rw [List.map_take, ← ht, List.take_take, List.length_take]
theorem row8_grown {w w' : World} {r : Option Nat} {g : Nat} {xs : List F} (h : Row8 w (some ⟨g, 0, none⟩) xs) (hb : w.grownBy w' r) (hg : g < w.heap.size) (hne : some g ≠ r) : Row8 w' (some ⟨g, 0, none⟩) xs := by
  rcases h with e | ⟨b, off, e, h⟩
  · exact .inl e
  · cases e
    refine .inr ⟨g, 0, rfl, fun j hj => ?_⟩
    rw [← h j hj]
    simp only [World.cell?, hb.block g hg hne]
theorem append8_both {w : World} {g n cap : Nat} {xs ys : List F} {ad : Addr} {m c : Nat} (ty : TypeId) (h : Has8 w g xs cap) (hn : n = xs.length) (hm : m = ys.length) (hb : n + m ≤ 140737488355328)
    (hy : ∀ j, j < ys.length → w.cell? (ad.add j) = some (.int .u8 ((at8 ys j).toNat : Int))) :
    ∃ g' cap' w', (Builtin.append_ #[22, 22] ty #[.slice (some ⟨g, 0, none⟩) n cap, .slice (some ad) m c]).run Tryd.prog w = .ok (.slice (some ⟨g', 0, none⟩) (n + m) cap') w' ∧
      Has8 w' g' (xs ++ ys) cap' ∧ w.grownBy w' (some g) ∧ (g' = g ∨ w.heap.size ≤ g' ∧ w.grownBy w' none) := by
  by_cases hroom : n + m ≤ cap
  · subst hn hm
    obtain ⟨i, hi, h1, h2, h3⟩ := info8
    obtain ⟨cur, hg, hs, hl, hmx, ht⟩ := h
    have hown : w.ownsRow 0 5 1 (.slice (some ⟨g, 0, none⟩) xs.length cap) xs.length (xs.map vf) :=
      ⟨by simp, .inr ⟨g, cap, cur, rfl, Nat.zero_le _, hg, hl, hmx, by omega, by rw [Nat.mul_one]; exact ht⟩⟩
    obtain ⟨w', hrun, ho, hgr⟩ := run_append_fits (P := Tryd.prog) w 0 22 ty 5 i 1 Tryd.underlying22 hi h1 g xs.length cap _ hown ad ys.length c (ys.map vf) (by simp) (fun j v hv => by
        simp only [List.getElem?_map, Option.map_eq_some_iff] at hv
        obtain ⟨x, hx1, rfl⟩ := hv
        have hj : j < ys.length := (List.getElem?_eq_some_iff.1 hx1).1
        have e : at8 ys j = x := by simp [at8, hx1]
        rw [hy j hj, e]; rfl) (fun v hv => by
        simp only [List.mem_map] at hv
        obtain ⟨x, _, rfl⟩ := hv
        rfl) hroom
    rcases ho.2 with ⟨hv, _⟩ | ⟨g', cap', cur', hv, _, hg', hl', hm', hs', ht'⟩
    · cases hv
    · cases hv
      exact ⟨g, cap, w', hrun, ⟨cur', hg', by omega, by simpa using hl', hm', by rw [List.length_append, List.map_append, ← ht', Nat.mul_one]⟩, hgr, .inl rfl⟩
  · obtain ⟨g', cap', w', h1, h2, h3, h4⟩ := append8_grows (cap := cap) (m := m) (c := c) ty (row8_has h) hn hm (by omega) hb hy
    exact ⟨g', cap', w', h1, h2, ⟨h3.os, h3.tape, h3.output, h3.size, fun k hk _ => h3.block k hk (by simp)⟩, .inr ⟨h4, h3⟩⟩
set_option maxHeartbeats 4000000 in
theorem apart_H (a : Option Addr) (n ca gb m cb : Nat) (xs ys : List F) (w : World) (hn : n = xs.length) (hm : m = ys.length) (hb : m ≤ 140737488351232)
    (hx : ∀ w', w.grownBy w' (some gb) → Row8 w' a xs) (hy : Has8 w gb ys cb) :
    Calls Tryd.prog 16 #[.slice a n ca, .slice (some ⟨gb, 0, none⟩) m cb] w fun e w' => e = .returned (.bool true) ∧ w.grownBy w' (some gb) ∧ Row8 w' (some ⟨gb, 0, none⟩) (ys.map fl) := by
  have k0 := conv8 (ca := ca) hn (hx w (grownBy_refl _ _))
  have hgb : gb < w.heap.size := by obtain ⟨cur, hg, _⟩ := hy; exact (Array.getElem?_eq_some_iff.1 hg).1
  have HX : Hid _ := hx
  have HY : Hid _ := hy
  have HN : Hid _ := hn
  have HM : Hid _ := hm
  clear hx hy hn hm
  go_enter Tryd.func16, Tryd.ntmps16
  go_wp2
  clear k0
  go_loopw [13] (fun i wr => ∃ k : Nat, k ≤ m ∧ i = .int .i64 k ∧ w.grownBy wr (some gb) ∧ Has8 wr gb (flTo ys k) cb) (fun i _ => m - (intOf i).toNat)
  case atStart => exact ⟨0, by omega, rfl, grownBy_refl _ _, by rw [flTo_zero]; exact HY.out⟩
  case round =>
    obtain ⟨k, hk, rfl, hg1, hh1⟩ := hrel
    by_cases hlt : k < m
    · have hky : k < ys.length := by have := HM.out; omega
      obtain ⟨c1, c2⟩ := has8_cell (j := k) hh1 (by rw [flTo_len]; exact hky)
      rw [flTo_at] at c1
      have ex := fl_val (at8 ys k)
      have HG : Hid _ := hg1
      have HH : Hid _ := hh1
      have HS : Hid _ := flTo_succ ys k hky
      have HK : Hid _ := has8_set (j := k) hh1 (by rw [flTo_len]; exact hky) (fl (at8 ys k))
      clear hg1 hh1
      go_wp2
      exact ⟨⟨k + 1, by omega, by go_num, grownBy_setCell HG.out _, by rw [← HS.out]; exact HK.out⟩, by simp [intOf]; omega⟩
    · have hk' : k = ys.length := by have := HM.out; omega
      have hh2 : Has8 wr gb (ys.map fl) cb := by rw [hk', flTo_all] at hh1; exact hh1
      have k1 := conv8 (ca := ca) HN.out (HX.out wr hg1)
      have hsz := hg1.size
      have hh2' : Has8 (wr.alloc (.cells (vfs sevens) 5)) gb (ys.map fl) cb := has8_grown hh2 (World.grownBy_alloc wr _ none) (by simp)
      obtain ⟨g2, cap2, w2, hrun, hs2, hgr2, hge2⟩ := append8_both (n := m) (ys := sevens) (ad := ⟨wr.heap.size, 0, none⟩) (m := 8) (c := 8) 22
        hh2' (by have := HM.out; simpa using this) rfl (by omega) (fun j hj => by
          have hadd : (⟨wr.heap.size, 0, none⟩ : Addr).add j = ⟨wr.heap.size, j, none⟩ := by unfold Addr.add; split <;> simp_all
          rw [hadd, World.cell?_alloc_at _ _ _ _ rfl, vfs_get _ _ hj])
      have hgr3 : w.grownBy w2 (some gb) := grownBy_trans (grownBy_trans hg1 (World.grownBy_alloc wr (.cells (vfs sevens) 5) none) (by simp)) hgr2 (fun j _ h => h)
      have hge : g2 = gb ∨ wr.heap.size + 1 ≤ g2 ∧ Has8 w2 gb (ys.map fl) cb := by
        rcases hge2 with e | ⟨e1, e2⟩
        · exact .inl e
        · simp only [World.size_alloc] at e1
          exact .inr ⟨e1, has8_grown hh2' e2 (by simp)⟩
      have HSV : Hid (vfs sevens = #[.int .u8 7, .int .u8 7, .int .u8 7, .int .u8 7, .int .u8 7, .int .u8 7, .int .u8 7, .int .u8 7]) := rfl
      have HR : Hid _ := hrun
      have HS2 : Hid _ := hs2
      have HG3 : Hid _ := hgr3
      have HGE : Hid _ := hge
      have HL : Hid ((ys.map fl).length = m) := by have := HM.out; show _ = _; rw [List.length_map]; exact this.symm
      have HLS : Hid ((ys.map fl ++ sevens).length = m + 8) := by show _ = _; rw [List.length_append, HL.out]; rfl
      have HK : Hid _ := hk'
      clear hg1 hh1 hh2 hh2' hrun hs2 hgr3 hgr2 hge2 hge hk'
      go_wp2_with (at_builtin; rw [← HSV.out]; refine wpList_append_run rfl _ _ 22 rfl _ _ _ _ rfl rfl HR.out ?_)
      clear k1
      go_loopw [8] (fun i wv => ∃ j : Nat, ∃ zs : List F, j ≤ 8 ∧ i = .int .i64 ((m + j : Nat) : Int) ∧ zs.length = m + 8 ∧ zs.take m = ys.map fl ∧ w2.grownBy wv (some g2) ∧ Has8 wv g2 zs cap2) (fun i _ => m + 8 - (intOf i).toNat)
      case atStart => exact ⟨0, _, by omega, rfl, HLS.out, by rw [← HL.out, List.take_left'] ; rfl, grownBy_refl _ _, HS2.out⟩
      case round =>
        obtain ⟨j, zs, hj, rfl, hz, hzt, hgv, hhv⟩ := hrel
        by_cases hlt2 : j < 8
        · obtain ⟨c1, c2⟩ := has8_cell (j := m + j) hhv (by omega)
          have ex := fl_val (at8 zs (m + j))
          have HG : Hid _ := hgv
          have HS : Hid _ := has8_set (j := m + j) hhv (by omega) (fl (at8 zs (m + j)))
          have HZ : Hid _ := hz
          have HZT : Hid _ := hzt
          clear hgv hhv hz hzt
          go_wp2
          exact ⟨⟨j + 1, zs.set (m + j) (fl (at8 zs (m + j))), by omega, by go_num, by rw [List.length_set]; exact HZ.out, by rw [List.take_set_of_le (by omega)]; exact HZT.out, grownBy_setCell HG.out _, HS.out⟩, by simp [intOf]; omega⟩
        · have hj8 : j = 8 := by omega
          have hfin : w.grownBy wr (some gb) := grownBy_trans HG3.out hgv (fun q hq hne => by
            rcases HGE.out with e | e
            · rw [e]; exact hne
            · simp; omega)
          have hhb : Row8 wr (some ⟨gb, 0, none⟩) (ys.map fl) := by
            rcases HGE.out with e | ⟨e, h⟩
            · subst e
              have := has8_take hhv m
              rw [hzt] at this
              exact row8_has this
            · exact row8_has (has8_grown h hgv (by simp; omega))
          have k2 := conv8 (ca := ca) HN.out (HX.out wr hfin)
          have HF : Hid _ := hfin
          have HB : Hid _ := hhb
          clear hgv hhv hfin hhb hz hzt
          subst hj8
          go_wp2
          go_ret
          exact ⟨rfl, HF.out, HB.out⟩
/-- the second list nil -/
theorem append8_nil (w : World) {ys : List F} {ad : Addr} {m c : Nat} (ty : TypeId) (hm : m = ys.length) (h0 : 0 < m) (hb : m ≤ 140737488355328)
    (hy : ∀ j, j < ys.length → w.cell? (ad.add j) = some (.int .u8 ((at8 ys j).toNat : Int))) :
    ∃ g' cap' w', (Builtin.append_ #[22, 22] ty #[.slice none 0 0, .slice (some ad) m c]).run Tryd.prog w = .ok (.slice (some ⟨g', 0, none⟩) m cap') w' ∧
      Has8 w' g' ys cap' ∧ w.grownBy w' none ∧ w.heap.size ≤ g' := by
  subst hm
  obtain ⟨i, hi, h1, h2, h3⟩ := info8
  obtain ⟨v', w', hrun, ho, hgr, hnil, hat⟩ := run_append_own_at (P := Tryd.prog) w w.heap.size 22 ty 5 i _ 1 1 Tryd.underlying22 hi h3 h1 h2 rfl (by decide)
    (.slice none 0 0) 0 [] ⟨rfl, .inl ⟨rfl, rfl⟩⟩ ad ys.length c (ys.map vf) (by simp) (fun j v hv => by
      simp only [List.getElem?_map, Option.map_eq_some_iff] at hv
      obtain ⟨x, hx1, rfl⟩ := hv
      have hj : j < ys.length := (List.getElem?_eq_some_iff.1 hx1).1
      have e : at8 ys j = x := by simp [at8, hx1]
      rw [hy j hj, e]; rfl) (fun v hv => by
      simp only [List.mem_map] at hv
      obtain ⟨x, _, rfl⟩ := hv
      rfl) (by simp only [maxLen]; omega) (by omega) (Nat.le_refl _)
  rcases ho.2 with ⟨hv, hn⟩ | ⟨g', cap', cur', hv, hg, hg', hl', hm', hs', ht'⟩
  · have := (hnil.1 hv).2
    omega
  · subst hv
    refine ⟨g', cap', w', by rw [hrun, Nat.zero_add], ⟨cur', hg', by omega, by simpa using hl', hm', ?_⟩, hgr, hg⟩
    rw [← List.nil_append (ys.map vf), ← ht', Nat.mul_one, Nat.zero_add]
set_option maxHeartbeats 4000000 in
theorem apart_nil (a : Option Addr) (n ca : Nat) (xs : List F) (w : World) (hn : n = xs.length) (hx : ∀ w', w.grownBy w' none → Row8 w' a xs) :
    Calls Tryd.prog 16 #[.slice a n ca, .slice none 0 0] w fun e w' => e = .returned (.bool true) ∧ w.grownBy w' none := by
  have k0 := conv8 (ca := ca) hn (hx w (grownBy_refl _ _))
  have HX : Hid _ := hx
  have HN : Hid _ := hn
  clear hx hn
  go_enter Tryd.func16, Tryd.ntmps16
  go_wp2
  go_loopw [13] (fun i wr => i = .int .i64 0 ∧ w = wr) (fun i _ => 0)
  case atStart => exact ⟨rfl, rfl⟩
  case round =>
    obtain ⟨rfl, rfl⟩ := hrel
    obtain ⟨g2, cap2, w2, hrun, hs2, hgr2, hge2⟩ := append8_nil (w.alloc (.cells (vfs sevens) 5)) (ys := sevens) (ad := ⟨w.heap.size, 0, none⟩) (m := 8) (c := 8) 22 rfl (by omega) (by omega) (fun j hj => by
          have hadd : (⟨w.heap.size, 0, none⟩ : Addr).add j = ⟨w.heap.size, j, none⟩ := by unfold Addr.add; split <;> simp_all
          rw [hadd, World.cell?_alloc_at _ _ _ _ rfl, vfs_get _ _ hj])
    have hgr3 : w.grownBy w2 none := grownBy_trans (World.grownBy_alloc w (.cells (vfs sevens) 5) none) hgr2 (by simp)
    have HSV : Hid (vfs sevens = #[.int .u8 7, .int .u8 7, .int .u8 7, .int .u8 7, .int .u8 7, .int .u8 7, .int .u8 7, .int .u8 7]) := rfl
    have HR : Hid _ := hrun
    have HS2 : Hid _ := hs2
    have HG3 : Hid _ := hgr3
    have HGE : Hid (w.heap.size ≤ g2) := by simp only [World.size_alloc] at hge2; show _ ≤ _; omega
    clear hrun hs2 hgr3 hgr2 hge2
    go_wp2_with (at_builtin; rw [← HSV.out]; refine wpList_append_run rfl _ _ 22 rfl _ _ _ _ rfl rfl HR.out ?_)
    clear k0
    go_loopw [8] (fun i wv => ∃ j : Nat, ∃ zs : List F, j ≤ 8 ∧ i = .int .i64 (j : Int) ∧ zs.length = 8 ∧ w2.grownBy wv (some g2) ∧ Has8 wv g2 zs cap2) (fun i _ => 8 - (intOf i).toNat)
    case atStart => exact ⟨0, _, by omega, rfl, rfl, grownBy_refl _ _, HS2.out⟩
    case round =>
      obtain ⟨j, zs, hj, rfl, hz, hgv, hhv⟩ := hrel
      by_cases hlt2 : j < 8
      · obtain ⟨c1, c2⟩ := has8_cell (j := j) hhv (by omega)
        have ex := fl_val (at8 zs j)
        have HG : Hid _ := hgv
        have HS : Hid _ := has8_set (j := j) hhv (by omega) (fl (at8 zs j))
        have HZ : Hid _ := hz
        clear hgv hhv hz
        go_wp2
        exact ⟨⟨j + 1, zs.set j (fl (at8 zs j)), by omega, by go_num, by rw [List.length_set]; exact HZ.out, grownBy_setCell HG.out _, HS.out⟩, by simp [intOf]; omega⟩
      · have hj8 : j = 8 := by omega
        have hfin : w.grownBy wr none := grownBy_trans HG3.out hgv (fun q hq _ => by have := HGE.out; simp; omega)
        have k2 := conv8 (ca := ca) HN.out (HX.out wr hfin)
        have HF : Hid _ := hfin
        clear hgv hhv hfin hz
        subst hj8
        go_wp2
        go_ret
        exact ⟨rfl, HF.out⟩

set_option maxHeartbeats 1000000 in
theorem rrow_some (r c i b off l cap : Nat) (xs : List F) (w : World) (hr : r ≤ 64) (hc : c ≤ 64) (hi : i < r) (hl : l = r * c) (hx : xs.length = r * c) (hcap : l ≤ cap) (hX : Row8 w (some ⟨b, off, none⟩) xs) :
    Calls Tryd.prog 65 #[.agg #[.int .i64 r, .int .i64 c, .slice (some ⟨b, off, none⟩) l cap], .int .i64 i] w fun e w' => ∃ g cap', e = .returned (.slice (some ⟨g, 0, none⟩) c cap') ∧ w.heap.size ≤ g ∧ Has8 w' g (rowAt c xs i) cap' ∧ Below w.heap.size w w' := by
  obtain ⟨m0, m1⟩ := mul_small (r := i) (c := c) (by omega) hc
  have m5 : i * c + c ≤ l := by
    have := Nat.mul_le_mul_right c (show i + 1 ≤ r from hi)
    rw [Nat.succ_mul] at this; omega
  have hl6 : l ≤ 4096 := by have := mul_small hr hc; have e : (r : Int) * (c : Int) = ((r * c : Nat) : Int) := by simp
                            omega
  have m4 : (i : Int) * (c : Int) = ((i * c : Nat) : Int) := by simp
  have m3 : ((i : Int) + 1) * (c : Int) = ((i * c : Nat) : Int) + (c : Int) := by rw [Int.add_mul, Int.one_mul, m4]
  have hrow : Row8 w (some ⟨b, rof off (i * c) cap, none⟩) (rowAt c xs i) := by
    rcases hX with e | ⟨b2, off2, e, h⟩
    · left
      rw [e]; simp [rowAt]
    · cases e
      exact row8_rowAt hx hi (by omega) h
  have hlen := rowAt_len hx hi
  generalize hp : i * c = p at m3 m4 m5 hrow ⊢
  rw [m4] at m0 m1
  have hh := heap_alloc_last (w.alloc (.cells #[.int .i64 r, .int .i64 c, .slice (some ⟨b, off, none⟩) l cap] 65)) (.cells #[] 5)
  obtain ⟨g', cap', w2, h1, h2, h3, h4⟩ := append8_new (g := w.heap.size + 1) (m := c) (c := cap - p) (a := some ⟨b, rof off p cap, none⟩) (ys := rowAt c xs i) 22 (by simpa using hh) hlen.symm (by omega) (row8_alloc (row8_alloc hrow _) _) (fun h => by cases h)
  have HR : Hid _ := h1
  have H2 : Hid _ := h2
  have HB : Hid (Below w.heap.size w w2) := grownBy_below (g := w.heap.size + 1) ((((Below.refl _ _).alloc (Nat.le_refl _) _).alloc (by simp) _)) ⟨h3.os, h3.tape, h3.output, h3.size, fun k hk _ => h3.block k hk (by simp)⟩ (by omega) (by simp; omega)
  have hg : w.heap.size ≤ g' := by
    rcases h4 with rfl | h4
    · omega
    · simp at h4; omega
  clear h1 h2 h3 h4 hh hX hrow hlen hp hl hx
  by_cases h : cap = p
  · subst h
    rw [rof_same] at HR
    have h0 : cap - cap = 0 := Nat.sub_self _
    rw [h0] at HR
    go_enter Tryd.func65, Tryd.ntmps65
    go_wp2_with (at_builtin; refine wpList_append_run rfl _ _ 22 rfl _ _ _ _ rfl ?_ HR.out ?_)
    · simp only [Nat.add_sub_cancel_left]
      rfl
    · go_wp2
      go_ret
      exact ⟨g', cap', rfl, hg, H2.out, HB.out⟩
  · rw [rof_room h] at HR
    go_enter Tryd.func65, Tryd.ntmps65
    go_wp2_with (at_builtin; refine wpList_append_run rfl _ _ 22 rfl _ _ _ _ rfl ?_ HR.out ?_)
    · simp only [Nat.add_sub_cancel_left]
      rfl
    · go_wp2
      go_ret
      exact ⟨g', cap', rfl, hg, H2.out, HB.out⟩

set_option maxHeartbeats 1000000 in
theorem rrow_nil (r i cap : Nat) (a : Option Addr) (w : World) (hi : i < 64) (hnil : a = none → cap = 0) :
    Calls Tryd.prog 65 #[.agg #[.int .i64 r, .int .i64 0, .slice a 0 cap], .int .i64 i] w fun e w' => ∃ g cap', e = .returned (.slice (some ⟨g, 0, none⟩) 0 cap') ∧ w.heap.size ≤ g ∧ Has8 w' g [] cap' ∧ Below w.heap.size w w' := by
  have hh := heap_alloc_last (w.alloc (.cells #[.int .i64 r, .int .i64 0, .slice a 0 cap] 65)) (.cells #[] 5)
  rw [World.size_alloc] at hh
  obtain ⟨g', cap', w2, h1, h2, h3, h4⟩ := append8_new (m := 0) (c := cap) (a := a) (ys := []) 22 hh rfl (by omega) (.inl rfl) hnil
  have HR : Hid _ := h1
  have H2 : Hid _ := h2
  have HB : Hid (Below w.heap.size w w2) := grownBy_below (g := w.heap.size + 1) ((((Below.refl _ _).alloc (Nat.le_refl _) _).alloc (by simp) _)) ⟨h3.os, h3.tape, h3.output, h3.size, fun k hk _ => h3.block k hk (by simp)⟩ (by omega) (by simp; omega)
  have hg : w.heap.size ≤ g' := by
    rcases h4 with rfl | h4
    · omega
    · simp at h4; omega
  have HN : Hid _ := hnil
  clear h1 h2 h3 h4 hh hnil
  by_cases h : cap = 0
  · subst h
    go_enter Tryd.func65, Tryd.ntmps65
    go_wp2_with (at_builtin; refine wpList_append_run rfl _ _ 22 rfl _ _ _ _ rfl rfl HR.out ?_)
    go_wp2
    go_ret
    exact ⟨g', cap', rfl, hg, H2.out, HB.out⟩
  · cases a with
    | none => exact absurd (HN.out rfl) h
    | some ad =>
      obtain ⟨b, off, tg⟩ := ad
      go_enter Tryd.func65, Tryd.ntmps65
      go_wp2_with (at_builtin; refine wpList_append_run rfl _ _ 22 rfl _ _ _ _ rfl rfl HR.out ?_)
      go_wp2
      go_ret
      exact ⟨g', cap', rfl, hg, H2.out, HB.out⟩
/-- of every matrix in form, every row that is there -/
theorem rrow_F (r c i l cap : Nat) (a : Option Addr) (xs : List F) (w : World) (hr : r ≤ 64) (hc : c ≤ 64) (hi : i < r) (hl : l = r * c) (hx : xs.length = r * c) (hcap : l ≤ cap) (hX : Row8 w a xs) (hnil : a = none → cap = 0) :
    Calls Tryd.prog 65 #[.agg #[.int .i64 r, .int .i64 c, .slice a l cap], .int .i64 i] w fun e w' => ∃ g cap', e = .returned (.slice (some ⟨g, 0, none⟩) c cap') ∧ w.heap.size ≤ g ∧ Has8 w' g (rowAt c xs i) cap' ∧ Below w.heap.size w w' := by
  rcases hX with e | ⟨b, off, rfl, h⟩
  · have h0 : r * c = 0 := by rw [← hx, e]; rfl
    have hc0 : c = 0 := by
      rcases Nat.mul_eq_zero.1 h0 with h | h
      · omega
      · exact h
    subst hc0
    obtain rfl : l = 0 := by omega
    refine (rrow_nil r i cap a w (by omega) hnil).mono fun e' w' ⟨g, cap', h⟩ => ⟨g, cap', ?_⟩
    have e0 : rowAt 0 xs i = [] := List.eq_nil_of_length_eq_zero (rowAt_len hx hi)
    rw [e0]
    exact h
  · exact rrow_some r c i b off l cap xs w hr hc hi hl hx hcap (.inr ⟨b, off, rfl, h⟩)
end Go.Proofs.YtmlpijlcpeoeaaaDoor

/- What combine of package code answers, of all matrices in form and as many lists of one size as columns; nothing that was there turns. -/
namespace Go.Proofs.YtmlpijlcpeoeaaaDoor
open Go.RowKit Gf
set_option linter.unusedVariables false
set_option maxRecDepth 20000
/-- lists as values, each in a block of its own -/
def rowsP (H : Nat) (gs : List (Nat × Nat)) : List Value := gs.map fun p => .slice (some ⟨p.1, 0, none⟩) H p.2
theorem rowsP_len (H : Nat) (gs : List (Nat × Nat)) : (rowsP H gs).length = gs.length := by simp [rowsP]
theorem rowsP_snoc (H : Nat) (gs : List (Nat × Nat)) (g cap : Nat) : rowsP H gs ++ [.slice (some ⟨g, 0, none⟩) H cap] = rowsP H (gs ++ [(g, cap)]) := by simp [rowsP]
theorem rowsP_at {H i : Nat} {gs : List (Nat × Nat)} {p : Nat × Nat} (h : gs[i]? = some p) : (rowsP H gs)[i]? = some (.slice (some ⟨p.1, 0, none⟩) H p.2) := by simp [rowsP, h]
/-- what row i of a combination is, byte by byte -/
def combL (c H : Nat) (xs : List F) (L : List (List F)) (i : Nat) : List F := rowF H (fun b => sumF (fun v => gm (at8 xs (i * c + v)) (bytesD L v b)) c)
theorem combL_len (c H : Nat) (xs : List F) (L : List (List F)) (i : Nat) : (combL c H xs L i).length = H := rowF_len _ _
/-- rows in blocks of their own, the later the higher -/
def RowsP (w : World) (B : Nat) (gs : List (Nat × Nat)) (f : Nat → List F) : Prop :=
  (∀ (i : Nat) (p : Nat × Nat), gs[i]? = some p → B ≤ p.1 ∧ Has8 w p.1 (f i) p.2) ∧ ∀ (i j : Nat) (p q : Nat × Nat), i < j → gs[i]? = some p → gs[j]? = some q → p.1 < q.1
theorem rowsP_nil (w : World) (B : Nat) (f : Nat → List F) : RowsP w B [] f := ⟨fun i p h => by simp at h, fun i j p q _ h => by simp at h⟩
theorem has8_later {w w' : World} {g cap : Nat} {xs : List F} (h : Has8 w g xs cap) (hb : Below w.heap.size w w') : Has8 w' g xs cap := by
  obtain ⟨cur, h1, h2⟩ := h
  exact ⟨cur, heap_later h1 hb, h2⟩
theorem has8_set_other {w : World} {g cap M j : Nat} {xs : List F} {v : Value} (h : Has8 w g xs cap) (hne : g ≠ M) : Has8 (w.setCell ⟨M, j, none⟩ v) g xs cap := by
  obtain ⟨cur, h1, h2⟩ := h
  exact ⟨cur, (heap_setCell_other _ _ _ _ hne).trans h1, h2⟩
theorem has8_lt {w : World} {g cap : Nat} {xs : List F} (h : Has8 w g xs cap) : g < w.heap.size := by
  obtain ⟨cur, h1, _⟩ := h
  exact ltHeap h1
theorem rowsP_below {w w' : World} {B : Nat} {gs : List (Nat × Nat)} {f : Nat → List F} (h : RowsP w B gs f) (hb : Below w.heap.size w w') : RowsP w' B gs f :=
  ⟨fun i p hp => ⟨(h.1 i p hp).1, has8_later (h.1 i p hp).2 hb⟩, h.2⟩
theorem rowsP_step {w w' : World} {B M g cap : Nat} {v : Value} {gs : List (Nat × Nat)} {f : Nat → List F} (h : RowsP w B gs f) (hb : Below w.heap.size w w') (hg : w.heap.size ≤ g) (hB : B ≤ g) (hM : M < w.heap.size) (hMg : ∀ (i : Nat) (p : Nat × Nat), gs[i]? = some p → p.1 ≠ M) (hr : Has8 w' g (f gs.length) cap) :
    RowsP (w'.setCell ⟨M, gs.length, none⟩ v) B (gs ++ [(g, cap)]) f := by
  refine ⟨fun i p hp => ?_, fun i j p q hij hp hq => ?_⟩
  · by_cases hi : i < gs.length
    · rw [List.getElem?_append_left hi] at hp
      exact ⟨(h.1 i p hp).1, has8_set_other (has8_later (h.1 i p hp).2 hb) (hMg i p hp)⟩
    · have e := (List.getElem?_eq_some_iff.1 hp).1
      simp at e
      obtain rfl : i = gs.length := by omega
      rw [List.getElem?_append_right (Nat.le_refl _), Nat.sub_self] at hp
      obtain rfl := Option.some.inj hp
      exact ⟨hB, has8_set_other hr (by show g ≠ M; omega)⟩
  · have ej := (List.getElem?_eq_some_iff.1 hq).1
    simp at ej
    rw [List.getElem?_append_left (by omega)] at hp
    by_cases hj : j < gs.length
    · rw [List.getElem?_append_left hj] at hq
      exact h.2 i j p q hij hp hq
    · obtain rfl : j = gs.length := by omega
      rw [List.getElem?_append_right (Nat.le_refl _), Nat.sub_self] at hq
      obtain rfl := Option.some.inj hq
      have := has8_lt (h.1 i p hp).2
      show p.1 < g
      omega
theorem rowsP_rows {w : World} {B M H R : Nat} {gs : List (Nat × Nat)} {f : Nat → List F} (h : RowsP w B gs f) (hl : gs.length = R) (hf : ∀ i, (f i).length = H) (hM : w.heap[M]? = some (.cells (slW (rowsP H gs) R) 22 (0, 0))) : Rows8 w (some ⟨M, 0, none⟩) ((List.range R).map f) := by
  refine .inr ⟨M, 0, rfl, fun j xs hj => ?_⟩
  have hjR : j < R := by have := (List.getElem?_eq_some_iff.1 hj).1; simpa using this
  rw [List.getElem?_map, List.getElem?_range hjR] at hj
  obtain rfl := Option.some.inj hj
  have hg : gs[j]? = some gs[j] := List.getElem?_eq_getElem (by omega)
  refine ⟨some ⟨gs[j].1, 0, none⟩, gs[j].2, ?_, row8_has (h.1 j _ hg).2⟩
  rw [Nat.zero_add, hf]
  exact cellAt hM j _ (slW_at (rowsP_at hg))
theorem comb_row {R c H i : Nat} {xs : List F} {L : List (List F)} (hi : i < R) (hL : L.length = c) (hLH : ∀ ys ∈ L, ys.length = H) : rowAt H (mulM c H xs L.flatten R) i = combL c H xs L i := by
  rw [mulM, rowAt_grid hi]
  refine rowF_congr fun b hb => sumF_congr fun v hv => ?_
  rw [bytesD, flat_at hLH (by omega) hb]
set_option maxHeartbeats 4000000 in
theorem ccomb_F (R c H l cap lh ch : Nat) (a ah : Option Addr) (xs : List F) (L : List (List F)) (w : World) (hR : R ≤ 64) (hc1 : 1 ≤ c) (hc : c ≤ 64) (hH : H ≤ 64) (hl : l = R * c) (hx : xs.length = R * c) (hcap : l ≤ cap) (hX : Row8 w a xs)
    (hlh : lh = c) (hL : L.length = c) (hLH : ∀ ys ∈ L, ys.length = H) (hLX : Rows8 w ah L) :
    Calls Tryd.prog 30 #[.agg #[.int .i64 R, .int .i64 c, .slice a l cap], .slice ah lh ch] w fun e w' => ∃ M gs, e = .returned (.tuple #[.slice (some ⟨M, 0, none⟩) R R, .nilIface]) ∧ w.heap.size ≤ M ∧ gs.length = R ∧
      w'.heap[M]? = some (.cells (slW (rowsP H gs) R) 22 (0, 0)) ∧ RowsP w' w.heap.size gs (combL c H xs L) ∧ Below w.heap.size w w' := by
  have HL : Hid (l = R * c) := hl
  have HX : Hid (xs.length = R * c) := hx
  have HRX : Hid (Row8 w a xs) := hX
  have HLL : Hid (L.length = c) := hL
  have HLH : Hid (∀ ys ∈ L, ys.length = H) := hLH
  have HLX : Hid (Rows8 w ah L) := hLX
  have HLc : Hid (lh = c) := hlh
  obtain ⟨b, off, rfl, hb0, hcl⟩ := rows8_at hLX (show 0 < L.length by omega)
  obtain ⟨a0, cap0, e0, -⟩ := hcl 0 _ (List.getElem?_eq_getElem (by omega))
  rw [hLH _ (List.getElem_mem _), Nat.add_zero] at e0
  have hlh0 : 0 < lh := by omega
  have hmk := run_makeS R hR
  rw [slW_nil] at hmk
  have hA := holds_new (holds_nil w) #[.int .i64 R, .int .i64 c, .slice a l cap] 65
  have HB1 : Hid (Below w.heap.size w (w.alloc (.cells #[.int .i64 R, .int .i64 c, .slice a l cap] 65))) := (Below.refl w.heap.size w).alloc (Nat.le_refl _) _
  have e1 := cell_later HB1.out e0
  have HA : Hid _ := hA
  clear hl hx hX hL hLH hLX hcl e0 hA hlh
  go_enter Tryd.func30, Tryd.ntmps30
  go_wp2_with fail
  refine Calls.mono (of_F H lh ch _ L _ hH (by have h1 := HLL.out; have h2 := HLc.out; omega) (by have := HLc.out; omega) HLH.out (rows8_below HLX.out HB1.out)) ?_
  rintro e w2 ⟨g2, n2, rfl, hn2, hg2, hh2, hb2⟩
  have HB2 : Hid (Below w.heap.size w w2) := HB1.out.trans (hb2.mono HB1.out.size)
  have HA2 : Hid _ := holds_cons (holds_later HA.out hb2) hh2
  have HN2 : Hid (n2 = lh * H) := hn2
  clear hb2 hh2 hn2 e1 HA HB1
  have c0 := cellAt (holds_at HA2.out 1 rfl) 0 _ rfl
  have c1 := cellAt (holds_at HA2.out 1 rfl) 1 _ rfl
  have c2 := cellAt (holds_at HA2.out 1 rfl) 2 _ rfl
  have HA3 : Hid _ := holds_new HA2.out #[.int .i64 lh, .int .i64 H, .slice (some ⟨g2, 0, none⟩) n2 n2] 65
  have HB3 : Hid _ := HB2.out.alloc HB2.out.size (.cells #[.int .i64 lh, .int .i64 H, .slice (some ⟨g2, 0, none⟩) n2 n2] 65)
  have z2 := ltHeap (holds_at HA2.out 1 rfl)
  have HFL : Hid (L.flatten.length = c * H) := by show _ = _; rw [flat_len HLH.out, HLL.out]
  clear HA2 HB2
  go_wp2_with fail
  obtain rfl : lh = c := HLc.out
  refine Calls.mono (product_F R lh H l cap n2 n2 a (some ⟨g2, 0, none⟩) xs L.flatten _ hR hc hH HL.out HX.out hcap (row8_below HRX.out HB3.out) HN2.out HFL.out (Nat.le_refl _) (holds_row HA3.out 1 rfl)) ?_
  rintro e w4 ⟨g4, n4, rfl, hn4, hg4, hh4, hb4⟩
  have HB4 : Hid (Below w.heap.size w w4) := HB3.out.trans (hb4.mono HB3.out.size)
  have HH4 : Hid (w4.heap[g4]? = some (.cells (vfs (mulM lh H xs L.flatten R)) 5 (0, 0))) := hh4
  have HN4 : Hid (n4 = R * H) := hn4
  clear hb4 hh4 hn4 c0 c1 c2 z2 HA3 HB3 hg2 hg4 HN2 HFL
  go_wp2
  have hz4 := HB4.out.size
  have hA5 := holds_new (holds_new (holds_cons (holds_nil w4) HH4.out) #[.int .i64 R, .int .i64 H, .slice (some ⟨g4, 0, none⟩) n4 n4] 65) (slW [] R) 22
  rw [World.size_alloc] at hA5
  have HB5 : Hid (Below w.heap.size w ((w4.alloc (.cells #[.int .i64 R, .int .i64 H, .slice (some ⟨g4, 0, none⟩) n4 n4] 65)).alloc (.cells (slW [] R) 22))) := (HB4.out.alloc hz4 _).alloc (by simp; omega) _
  have HA5 : Hid _ := hA5
  clear hA5 HB4 HH4 hmk
  generalize ((w4.alloc (.cells #[.int .i64 R, .int .i64 H, .slice (some ⟨g4, 0, none⟩) n4 n4] 65)).alloc (.cells (slW [] R) 22)) = W5 at *
  generalize hP : w4.heap.size = P at *
  generalize hM : P + 1 = M at *
  have hM0 : w.heap.size ≤ M := by omega
  have hPM : P ≠ M := by omega
  have hgM : g4 ≠ M := kind_ne (holds_at HA5.out 2 rfl) (holds_at HA5.out 0 rfl) (by decide)
  clear hP hM
  go_loopw [37] (fun i wr => ∃ j : Nat, ∃ gs : List (Nat × Nat), j ≤ R ∧ i = .int .i64 j ∧ gs.length = j ∧ Below w.heap.size w wr ∧
    Holds wr [(M, .cells (slW (rowsP H gs) R) 22 (0, 0)), (P, .cells #[.int .i64 R, .int .i64 H, .slice (some ⟨g4, 0, none⟩) n4 n4] 65 (0, 0)), (g4, .cells (vfs (mulM lh H xs L.flatten R)) 5 (0, 0))] ∧
    RowsP wr w.heap.size gs (combL lh H xs L)) (fun i _ => R - (intOf i).toNat)
  case atStart => exact ⟨0, [], by omega, rfl, rfl, HB5.out, HA5.out, rowsP_nil _ _ _⟩
  case round =>
    obtain ⟨j, gs, hj, rfl, hgs, hb, hh, hrows⟩ := hrel
    have HB : Hid _ := hb
    have HH : Hid _ := hh
    have HR : Hid (RowsP wr w.heap.size gs (combL lh H xs L)) := hrows
    have HGS : Hid (gs.length = j) := hgs
    clear hb hh hrows hgs
    by_cases hlt : j < R
    · have c0 := cellAt (holds_at HH.out 1 rfl) 0 _ rfl
      have c1 := cellAt (holds_at HH.out 1 rfl) 1 _ rfl
      have c2 := cellAt (holds_at HH.out 1 rfl) 2 _ rfl
      go_wp2_with fail
      refine Calls.mono (row_F R H n4 n4 j (some ⟨g4, 0, none⟩) (mulM lh H xs L.flatten R) _ hR hH HN4.out (mulM_len _ _ _ _ _) (Nat.le_refl _) (holds_row HH.out 2 rfl) (fun h => by cases h) hlt) ?_
      rintro e w6 ⟨a6, cap6, rfl, _, _, hg6, hb6⟩
      obtain ⟨g6, rfl, hg6, hr6⟩ := hg6 (by simp)
      rw [comb_row hlt HLL.out HLH.out] at hr6
      have hz := HB.out.size
      have hlM := ltHeap (holds_at HH.out 0 rfl)
      have hs6 := heap_later (holds_at HH.out 0 rfl) hb6
      have hg6M : g6 ≠ M := by omega
      have hS := HGS.out
      have c7 : w6.cell? ⟨M, j, none⟩ = some (.slice none 0 0) := cellAt hs6 j _ (by have e := slW_next (vs := rowsP H gs) (r := R) (by rw [rowsP_len, hS]; exact hlt); rwa [rowsP_len, hS] at e)
      have c8 : w6.frozen? ⟨M, j, none⟩ = false := frozen_of_row _ _ _ _ _ hs6
      have HRX' : Hid (RowsP (w6.setCell ⟨M, j, none⟩ (.slice (some ⟨g6, 0, none⟩) H cap6)) w.heap.size (gs ++ [(g6, cap6)]) (combL lh H xs L)) := by
        have := rowsP_step (v := .slice (some ⟨g6, 0, none⟩) H cap6) (M := M) (cap := cap6) HR.out hb6 hg6 (by omega) hlM (fun i p hp => by
          obtain ⟨cur, h1, _⟩ := (HR.out.1 i p hp).2
          exact kind_ne h1 (holds_at HH.out 0 rfl) (by decide)) (by rw [hS]; exact hr6)
        rwa [hS] at this
      have HT6 : Hid ((w6.setCell ⟨M, j, none⟩ (.slice (some ⟨g6, 0, none⟩) H cap6)).heap[M]? = some (.cells (slW (rowsP H (gs ++ [(g6, cap6)])) R) 22 (0, 0))) := by
        show _ = _
        have e := slW_set (.slice (some ⟨g6, 0, none⟩) H cap6) (vs := rowsP H gs) (r := R) (by rw [rowsP_len, hS]; exact hlt)
        rw [rowsP_len, hS, rowsP_snoc] at e
        rw [heap_setCell_same _ _ _ _ _ _ hs6, e]
      have hX0 := holds_later HH.out hb6
      have HHX : Hid (Holds (w6.setCell ⟨M, j, none⟩ (.slice (some ⟨g6, 0, none⟩) H cap6)) [(M, .cells (slW (rowsP H (gs ++ [(g6, cap6)])) R) 22 (0, 0)), (P, .cells #[.int .i64 R, .int .i64 H, .slice (some ⟨g4, 0, none⟩) n4 n4] 65 (0, 0)), (g4, .cells (vfs (mulM lh H xs L.flatten R)) 5 (0, 0))]) :=
        holds_cons (holds_cons (holds_cons (holds_nil _) ((heap_setCell_other _ _ _ _ hgM).trans (holds_at hX0 2 rfl))) ((heap_setCell_other _ _ _ _ hPM).trans (holds_at hX0 1 rfl))) HT6.out
      have HBX : Hid (Below w.heap.size w (w6.setCell ⟨M, j, none⟩ (.slice (some ⟨g6, 0, none⟩) H cap6))) := (HB.out.trans (hb6.mono HB.out.size)).setCell (by show w.heap.size ≤ M; omega) _
      clear hs6 hb6 hr6 hX0 c0 c1 c2 hS
      go_wp2
      exact ⟨⟨j + 1, gs ++ [(g6, cap6)], by omega, by go_num, by simp [HGS.out], HBX.out, HHX.out, HRX'.out⟩, by simp [intOf]; omega⟩
    · obtain rfl : j = R := by omega
      go_wp2
      go_ret2
      exact ⟨M, gs, rfl, hM0, HGS.out, holds_at HH.out 0 rfl, HR.out, HB.out⟩
end Go.Proofs.YtmlpijlcpeoeaaaDoor

/- What small numbers in decimal, and names of halves, answer: the library's Itoa, nameOf, Name, Parse of package half, the document's own Number and Name; nothing that was there turns. -/
namespace Go.Proofs.YtmlpijlcpeoeaaaDoor
open Go.RowKit Gf
set_option linter.unusedVariables false
set_option maxRecDepth 20000
/-- a number below a hundred in decimal -/
def numB (n : Nat) : List UInt8 := if n < 10 then [UInt8.ofNat (48 + n)] else [UInt8.ofNat (48 + n / 10), UInt8.ofNat (48 + n % 10)]
/-- bytes as a string -/
def strB (l : List UInt8) : ByteArray := ⟨l.toArray⟩
theorem numB_dec {n : Nat} (h : n < 100) : Lib.decDigits n = numB n := by
  by_cases h1 : n < 10
  · rw [Lib.decDigits_one h1, numB, if_pos h1]
  · rw [Lib.decDigits_two h1 h, numB, if_neg h1]
theorem small_ba (x : ByteArray) (l : List UInt8) (h : x.data.toList = l) : x = strB l := by
  subst h
  cases x
  simp [strB]
theorem extr_data (x : ByteArray) (i j : Nat) : (x.extract i j).data.toList = (x.data.toList.drop i).take (j - i) := by
  simp [ByteArray.data_extract]
/-- a half's name -/
def nameB (k h : Nat) : List UInt8 := (if h / 2 < k then 100 :: numB (h / 2) else 112 :: numB (h / 2 - k)) ++ [if h % 2 = 0 then 97 else 98]
theorem ab0 : (⟨#[97, 98]⟩ : ByteArray).extract 0 1 = strB [97] := by decide +kernel
theorem ab1 : (⟨#[97, 98]⟩ : ByteArray).extract 1 2 = strB [98] := by decide +kernel
theorem strB_app (a b : List UInt8) : strB a ++ strB b = strB (a ++ b) := by
  apply ByteArray.ext
  simp [strB]
theorem strB_size (l : List UInt8) : (strB l).size = l.length := by simp [strB, ByteArray.size]
theorem numB_size (n : Nat) : (strB (numB n)).size ≤ 2 := by
  rw [strB_size, numB]
  split <;> simp
theorem strB_one (c : UInt8) : (⟨#[c]⟩ : ByteArray) = strB [c] := rfl
theorem strB_nil : (⟨#[]⟩ : ByteArray) = strB [] := rfl
theorem strB_inj {a b : List UInt8} (h : strB a = strB b) : a = b := by
  have := congrArg (fun x => x.data.toList) h
  simpa [strB] using this
def dig (d : Nat) : UInt8 := UInt8.ofNat (48 + d)
theorem numB_one {n : Nat} (h : n < 10) : numB n = [dig n] := if_pos h
theorem numB_two {n : Nat} (h : ¬ n < 10) : numB n = [dig (n / 10), dig (n % 10)] := if_neg h
theorem strB_list (l : List UInt8) : (strB l).toList = l := by simp [strB]
theorem strB_some {l : List UInt8} (h : l ≠ []) : (strB l).toList.isEmpty = false := by rw [strB_list]; cases l with | nil => exact absurd rfl h | cons => rfl
theorem numB_ne (n : Nat) : numB n ≠ [] := by rw [numB]; split <;> simp
def emptyN : Value → Nat | .string b => if b.size = 0 then 1 else 0 | _ => 0
theorem vf_digit {d : Nat} (h : d < 10) : Value.int .u8 (48 + (d : Int)) = vf (dig d) := by
  have : (UInt8.ofNat (48 + d)).toNat = 48 + d := by rw [UInt8.toNat_ofNat']; omega
  simp only [vf, dig, this]
  simp
theorem conv_digit {d : Nat} (h : d < 10) (w : World) : (convert 22 9 (.slice (some ⟨w.heap.size, 0, none⟩) 1 1)).run Tryd.prog (w.alloc (.cells #[.int .u8 (48 + (d : Int))] 5)) = .ok (.string (strB [dig d])) (w.alloc (.cells #[.int .u8 (48 + (d : Int))] 5)) := by
  rw [vf_digit h]
  exact conv8 (xs := [dig d]) rfl (row8_own (heap_alloc_last w (.cells (vfs [dig d]) 5)))
end Go.Proofs.YtmlpijlcpeoeaaaDoor

/- What Name and Parse of package half answer, at all numbers and texts; unlike halves have unlike names; nothing that was there turns. -/
namespace Go.Proofs.YtmlpijlcpeoeaaaDoor
open Go.RowKit Gf
set_option linter.unusedVariables false
set_option maxRecDepth 20000
theorem strB_eq {a b : List UInt8} (h : a = b) : ((strB a).toList == (strB b).toList) = true := by rw [h]; exact beq_self_eq_true _
theorem strB_ne {a b : List UInt8} (h : ¬ a = b) : ((strB a).toList == (strB b).toList) = false := by rw [strB_list, strB_list]; exact beq_eq_false_iff_ne.2 h
theorem nameB_inj : ∀ k < 15, ∀ h < 32, ∀ j < 32, nameB k h = nameB k j → h = j := by decide +kernel
theorem nameB_len : ∀ k < 15, ∀ h < 32, 3 ≤ (nameB k h).length ∧ (nameB k h).length ≤ 4 := by decide +kernel
/-- which half a name is -/
def ParsedAs (k n : Nat) (l : List UInt8) (s : Addr) (v : Value) : Prop :=
  (∃ h : Nat, h < n ∧ nameB k h = l ∧ v = .tuple #[.int .i64 h, .nilIface]) ∨ (∀ h, h < n → nameB k h ≠ l) ∧ v = .tuple #[.int .i64 0, errAt s]
end Go.Proofs.YtmlpijlcpeoeaaaDoor

/- What SameLists answers of two lists that are the same, and what Apart answers of two pieces of memory that lie apart: the second one is written over. -/
namespace Go.Proofs.YtmlpijlcpeoeaaaDoor
open Go.RowKit Gf
set_option linter.unusedVariables false
set_option maxRecDepth 20000
set_option maxHeartbeats 1000000 in
theorem sameLists_F (l ca cb : Nat) (a b : Option Addr) (L : List (List F)) (w : World) (hl : l = L.length) (hl9 : l ≤ 140737488355328) (ha : Rows8 w a L) (hb : Rows8 w b L) :
    Calls Tryd.prog 15 #[.slice a l ca, .slice b l cb] w fun e w' => e = .returned (.bool true) ∧ Below w.heap.size w w' := by
  have HL : Hid _ := hl
  have HA : Hid _ := ha
  have HB : Hid _ := hb
  clear hl ha hb
  go_enter Tryd.func15, Tryd.ntmps15
  go_wp2
  go_loopw [13] (fun t wr => ∃ j : Nat, j ≤ l ∧ t = .int .i64 j ∧ Below w.heap.size w wr) (fun t _ => l - (intOf t).toNat)
  case atStart => exact ⟨0, by omega, rfl, Below.refl _ _⟩
  case round =>
    obtain ⟨j, hj, rfl, hbw⟩ := hrel
    have HBW : Hid _ := hbw
    by_cases hlt : j < l
    · obtain ⟨b1, o1, rfl, _, h1⟩ := rows8_at (rows8_below HA.out hbw) (show j < L.length by rw [← HL.out]; exact hlt)
      obtain ⟨b2, o2, rfl, _, h2⟩ := rows8_at (rows8_below HB.out hbw) (show j < L.length by rw [← HL.out]; exact hlt)
      obtain ⟨xs, hxs⟩ : ∃ xs, L[j]? = some xs := ⟨_, List.getElem?_eq_getElem (by rw [← HL.out]; exact hlt)⟩
      obtain ⟨a1, q1, e1, r1⟩ := h1 j xs hxs
      obtain ⟨a2, q2, e2, r2⟩ := h2 j xs hxs
      have c1 : ∀ w', Below wr.heap.size wr w' → w'.cell? ⟨b1, o1 + j, none⟩ = some (.slice a1 xs.length q1) := fun w' hb => cell_later hb e1
      have c2 : ∀ w', Below wr.heap.size wr w' → w'.cell? ⟨b2, o2 + j, none⟩ = some (.slice a2 xs.length q2) := fun w' hb => cell_later hb e2
      have kA := conv_keep8 (ca := q1) (show xs.length = xs.length from rfl) (row_keep r1)
      have kB := conv_keep8 (ca := q2) (show xs.length = xs.length from rfl) (row_keep r2)
      clear hbw h1 h2 hxs e1 e2 r1 r2
      go_upto_region 6 with fail
      have hR2 : Below wr.heap.size wr wr.drew := (Below.refl _ _).drew
      go_region_held3 (fun w' => Below wr.heap.size wr w') (first | assumption | (refine Below.drew ?_; assumption)) (fail)
      clear kA kB c1 c2 hR2
      go_wp2
      exact ⟨⟨j + 1, by omega, by go_num, HBW.out.drew⟩, by simp [intOf]; omega⟩
    · obtain rfl : j = l := by omega
      clear hbw
      go_wp2
      go_ret
      exact ⟨rfl, HBW.out⟩
/-- turned as far as byte o + k -/
theorem flTo_len' (xs : List F) (k : Nat) : (flTo xs k).length = xs.length := flTo_len xs k
theorem append8_growsAt {w : World} {g o n cap : Nat} {xs ys : List F} {ad : Addr} {m c : Nat} (ty : TypeId) (hx : Row8 w (some ⟨g, o, none⟩) xs) (hn : n = xs.length) (hm : m = ys.length) (hcap : cap < n + m) (hb : n + m ≤ 140737488355328)
    (hy : ∀ j, j < ys.length → w.cell? (ad.add j) = some (.int .u8 ((at8 ys j).toNat : Int))) :
    ∃ g' cap' w', (Builtin.append_ #[22, 22] ty #[.slice (some ⟨g, o, none⟩) n cap, .slice (some ad) m c]).run Tryd.prog w = .ok (.slice (some ⟨g', 0, none⟩) (n + m) cap') w' ∧
      Has8 w' g' (xs ++ ys) cap' ∧ w.grownBy w' none ∧ w.heap.size ≤ g' := by
  subst hn hm
  obtain ⟨i, hi, h1, h2, h3⟩ := info8
  obtain ⟨v', w', hrun, ho, hgr⟩ := run_append_arg_grows (P := Tryd.prog) w 22 ty 5 i _ 1 1 Tryd.underlying22 hi h3 h1 h2 rfl (by decide)
    ⟨g, o, none⟩ xs.length cap (xs.map vf) (by simp) (fun j v hv => by
      simp only [List.getElem?_map, Option.map_eq_some_iff] at hv
      obtain ⟨x, hx1, rfl⟩ := hv
      have hj : j < xs.length := (List.getElem?_eq_some_iff.1 hx1).1
      have e : at8 xs j = x := by simp [at8, hx1]
      rcases hx with e' | ⟨b, off, e', hx⟩
      · rw [e'] at hj; simp at hj
      · cases e'
        have hadd : (⟨g, o, none⟩ : Addr).add j = ⟨g, o + j, none⟩ := by unfold Addr.add; split <;> simp_all
        rw [hadd, hx j hj, e]; rfl)
    ad ys.length c (ys.map vf) (by simp) (fun j v hv => by
      simp only [List.getElem?_map, Option.map_eq_some_iff] at hv
      obtain ⟨x, hx1, rfl⟩ := hv
      have hj : j < ys.length := (List.getElem?_eq_some_iff.1 hx1).1
      have e : at8 ys j = x := by simp [at8, hx1]
      rw [hy j hj, e]; rfl) hcap (by simp only [maxLen]; omega) (by omega)
  rcases ho.2 with ⟨hv, h0⟩ | ⟨g', cap', cur', hv, hge, hg', hl', hm', hs', ht'⟩
  · omega
  · subst hv
    refine ⟨g', cap', w', hrun, ⟨cur', hg', by omega, by simpa using hl', hm', ?_⟩, hgr, hge⟩
    rw [List.length_append, List.map_append, ← ht', Nat.mul_one]
theorem add_zero_at (g j : Nat) : (⟨g, 0, none⟩ : Addr).add j = ⟨g, j, none⟩ := by unfold Addr.add; split <;> simp_all
theorem row8_piece {w : World} {g o m : Nat} {xs : List F} {t : TypeId} {fr : Nat × Nat} (h : w.heap[g]? = some (.cells (vfs xs) t fr)) (ho : o + m ≤ xs.length) : Row8 w (some ⟨g, o, none⟩) ((xs.drop o).take m) :=
  .inr ⟨g, o, rfl, fun j hj => by
    rw [List.length_take, List.length_drop] at hj
    rw [cell_of_row _ _ _ _ _ _ h, vfs_get _ _ (by omega), at8_take (by omega), at8_drop]⟩
/-- Apart, where the second list is a piece of a block, full, and the first one doesn't meet it -/
theorem apart_S (gb o m n ca : Nat) (aa : Option Addr) (xs ys : List F) (w : World) (hn : n = xs.length) (ho : o + m ≤ ys.length) (hm : m ≤ 140737488351232)
    (hy : w.heap[gb]? = some (.cells (vfs (flTo ys o)) 5 (0, 0)))
    (hx : ∀ k, k ≤ m → ∀ w', w.grownBy w' (some gb) → w'.heap[gb]? = some (.cells (vfs (flTo ys (o + k))) 5 (0, 0)) → Row8 w' aa xs) :
    Calls Tryd.prog 16 #[.slice aa n ca, .slice (some ⟨gb, o, none⟩) m m] w fun e w' => e = .returned (.bool true) ∧ w.grownBy w' (some gb) ∧
      w'.heap[gb]? = some (.cells (vfs (flTo ys (o + m))) 5 (0, 0)) := by
  have k0 := conv8 (ca := ca) hn (hx 0 (Nat.zero_le _) w (World.grownBy.refl _ _) hy)
  have hgb : gb < w.heap.size := ltHeap hy
  have HX : Hid _ := hx
  have HY : Hid _ := hy
  have HN : Hid _ := hn
  have HO : Hid _ := ho
  clear hx hy hn
  go_enter Tryd.func16, Tryd.ntmps16
  go_wp2
  clear k0
  go_loopw [13] (fun i wr => ∃ k : Nat, k ≤ m ∧ i = .int .i64 k ∧ w.grownBy wr (some gb) ∧ wr.heap[gb]? = some (.cells (vfs (flTo ys (o + k))) 5 (0, 0))) (fun i _ => m - (intOf i).toNat)
  case atStart => exact ⟨0, by omega, rfl, World.grownBy.refl _ _, HY.out⟩
  case round =>
    obtain ⟨k, hk, rfl, hg1, hh1⟩ := hrel
    by_cases hlt : k < m
    · have hky : o + k < ys.length := by have := HO.out; omega
      have c1 : wr.cell? ⟨gb, o + k, none⟩ = some (.int .u8 ((at8 ys (o + k)).toNat : Int)) := by
        rw [cell_of_row _ _ _ _ _ _ hh1, vfs_get _ _ (by rw [flTo_len]; exact hky), flTo_at]
      have c2 : wr.frozen? ⟨gb, o + k, none⟩ = false := frozen_of_row _ _ _ _ _ hh1
      have ex := fl_val (at8 ys (o + k))
      have HG : Hid _ := hg1
      have HH : Hid _ := hh1
      have HS : Hid _ := flTo_succ ys (o + k) hky
      clear hg1 hh1
      go_wp2
      exact ⟨⟨k + 1, by omega, by go_num, grownBy_setCell HG.out _, by rw [heap_setCell_same _ _ _ _ _ _ HH.out, vfs_set, HS.out]; rfl⟩, by simp [intOf]; omega⟩
    · obtain rfl : k = m := by omega
      obtain ⟨zs, hzs⟩ : ∃ zs, zs = ((flTo ys (o + k)).drop o).take k := ⟨_, rfl⟩
      have hzl : k = zs.length := by
        rw [hzs, List.length_take, List.length_drop, flTo_len]
        have := HO.out
        omega
      have hzr : Row8 wr (some ⟨gb, o, none⟩) zs := by
        rw [hzs]
        exact row8_piece hh1 (by rw [flTo_len]; exact HO.out)
      have k1 := conv8 (ca := ca) HN.out (HX.out k (Nat.le_refl _) wr hg1 hh1)
      have hsz := hg1.size
      obtain ⟨g2, cap2, w2, hrun, hs2, hgr2, hge2⟩ := append8_growsAt (w := wr.alloc (.cells (vfs sevens) 5)) (g := gb) (o := o) (n := k) (cap := k) (xs := zs) (ys := sevens) (ad := ⟨wr.heap.size, 0, none⟩) (m := 8) (c := 8) 22
        (row8_alloc hzr _) hzl rfl (by omega) (by omega) (fun j hj => by
          rw [add_zero_at, World.cell?_alloc_at _ _ _ _ rfl, vfs_get _ _ hj])
      have hge : wr.heap.size + 1 ≤ g2 := by simpa using hge2
      have hgr3 : w.grownBy w2 (some gb) := grownBy_trans (grownBy_trans hg1 (World.grownBy_alloc wr (.cells (vfs sevens) 5) none) (by simp)) hgr2 (by simp)
      have hh3 : w2.heap[gb]? = some (.cells (vfs (flTo ys (o + k))) 5 (0, 0)) := (hgr2.block gb (by simp; omega) (by simp)).trans (((World.grownBy_alloc wr _ none).block gb (by omega) (by simp)).trans hh1)
      have HSV : Hid (vfs sevens = #[.int .u8 7, .int .u8 7, .int .u8 7, .int .u8 7, .int .u8 7, .int .u8 7, .int .u8 7, .int .u8 7]) := rfl
      have HR : Hid _ := hrun
      have HS2 : Hid _ := hs2
      have HG3 : Hid _ := hgr3
      have HH3 : Hid _ := hh3
      have HLS : Hid ((zs ++ sevens).length = k + 8) := by show _ = _; rw [List.length_append, ← hzl]; rfl
      clear hg1 hh1 hzr hzs hzl hrun hs2 hgr3 hh3 hgr2 hge2
      go_wp2_with (at_builtin; rw [← HSV.out]; refine wpList_append_run rfl _ _ 22 rfl _ _ _ _ rfl rfl HR.out ?_)
      clear k1
      have hg2b : g2 ≠ gb := by omega
      have hg2w : w.heap.size ≤ g2 := by omega
      go_loopw [8] (fun i wv => ∃ j : Nat, ∃ zs : List F, j ≤ 8 ∧ i = .int .i64 ((k + j : Nat) : Int) ∧ zs.length = k + 8 ∧ w2.grownBy wv (some g2) ∧ Has8 wv g2 zs cap2) (fun i _ => k + 8 - (intOf i).toNat)
      case atStart => exact ⟨0, _, by omega, rfl, HLS.out, World.grownBy.refl _ _, HS2.out⟩
      case round =>
        obtain ⟨j, zs, hj, rfl, hz, hgv, hhv⟩ := hrel
        by_cases hlt2 : j < 8
        · obtain ⟨c1, c2⟩ := has8_cell (j := k + j) hhv (by omega)
          have ex := fl_val (at8 zs (k + j))
          have HG : Hid _ := hgv
          have HS : Hid _ := has8_set (j := k + j) hhv (by omega) (fl (at8 zs (k + j)))
          have HZ : Hid _ := hz
          clear hgv hhv hz
          go_wp2
          exact ⟨⟨j + 1, zs.set (k + j) (fl (at8 zs (k + j))), by omega, by go_num, by rw [List.length_set]; exact HZ.out, grownBy_setCell HG.out _, HS.out⟩, by simp [intOf]; omega⟩
        · have hj8 : j = 8 := by omega
          have hfin : w.grownBy wr (some gb) := grownBy_trans HG3.out hgv (fun q hq _ => by simp; omega)
          have hhb : wr.heap[gb]? = some (.cells (vfs (flTo ys (o + k))) 5 (0, 0)) := (hgv.block gb (Array.getElem?_eq_some_iff.1 HH3.out).1 (fun e => hg2b (Option.some.inj e).symm)).trans HH3.out
          have k2 := conv8 (ca := ca) HN.out (HX.out k (Nat.le_refl _) wr hfin hhb)
          have HF : Hid _ := hfin
          have HB : Hid _ := hhb
          clear hgv hhv hfin hhb hz
          subst hj8
          go_wp2
          go_ret
          exact ⟨rfl, HF.out, HB.out⟩
end Go.Proofs.YtmlpijlcpeoeaaaDoor

/- What the statements' own choice of numbers answers: so many numbers, rising, all below the bound; nothing that was there turns. -/
namespace Go.Proofs.YtmlpijlcpeoeaaaDoor
open Go.RowKit Gf
set_option linter.unusedVariables false
set_option maxRecDepth 20000
/-- marks in memory -/
def bvs (n : Nat) (f : Nat → Bool) : Array Value := ((List.range n).map fun i => Value.bool (f i)).toArray
theorem bvs_size (n : Nat) (f : Nat → Bool) : (bvs n f).size = n := by simp [bvs]
theorem bvs_get {n i : Nat} {f : Nat → Bool} (h : i < n) : (bvs n f)[i]? = some (.bool (f i)) := by simp [bvs, h]
def upB (f : Nat → Bool) (i : Nat) : Nat → Bool := fun j => f j || decide (j = i)
theorem bvs_set {n i : Nat} {f : Nat → Bool} : (bvs n f).setIfInBounds i (.bool true) = bvs n (upB f i) := by
  apply Array.ext_getElem?
  intro j
  simp only [bvs, Array.getElem?_setIfInBounds, List.size_toArray, List.length_map, List.length_range, List.getElem?_toArray, List.getElem?_map, upB]
  by_cases h : i = j
  · subst h; by_cases h2 : i < n <;> simp [h2]
  · rw [if_neg h]
    by_cases h2 : j < n <;> simp [h2, Ne.symm h]
theorem madeB (n : Nat) : madeCells (Value.bool false).cells n = bvs n (fun _ => false) := by
  apply Array.ext_getElem?
  intro i
  by_cases h : i < n <;> simp [madeCells, bvs, Value.cells, h, Nat.mod_one]
/-- how many are marked -/
def cntB (f : Nat → Bool) (n : Nat) : Nat := ((List.range n).filter f).length
theorem cntB_le (f : Nat → Bool) (n : Nat) : cntB f n ≤ n := by have := List.length_filter_le f (List.range n); simpa [cntB] using this
theorem cntB_succ (f : Nat → Bool) (n : Nat) : cntB f (n + 1) = cntB f n + if f n then 1 else 0 := by
  simp only [cntB, List.range_succ, List.filter_append, List.length_append, List.filter_cons, List.filter_nil]
  split <;> rfl
theorem cntB_same {f g : Nat → Bool} : ∀ {n : Nat}, (∀ i, i < n → f i = g i) → cntB f n = cntB g n
  | 0, _ => rfl
  | n + 1, h => by rw [cntB_succ, cntB_succ, cntB_same (n := n) (fun i hi => h i (by omega)), h n (by omega)]
theorem cntB_up {f : Nat → Bool} {i : Nat} (hf : f i = false) : ∀ {n : Nat}, i < n → cntB (upB f i) n = cntB f n + 1
  | 0, h => absurd h (Nat.not_lt_zero _)
  | n + 1, h => by
    rw [cntB_succ, cntB_succ]
    by_cases e : i = n
    · subst e
      rw [cntB_same (f := upB f i) (g := f) (fun j hj => by simp [upB, Nat.ne_of_lt hj]), hf]
      simp [upB]
    · rw [cntB_up hf (n := n) (by omega)]
      have : upB f i n = f n := by simp [upB, Ne.symm e]
      rw [this]; omega
theorem cntB_all {f : Nat → Bool} : ∀ {n : Nat}, (∀ i, i < n → f i = true) → cntB f n = n
  | 0, _ => rfl
  | n + 1, h => by rw [cntB_succ, cntB_all (n := n) (fun i hi => h i (by omega)), h n (by omega)]; rfl
theorem cntB_none (n : Nat) : cntB (fun _ => false) n = 0 := by simp [cntB]
/-- the marked numbers -/
def pickB (f : Nat → Bool) (n : Nat) : List Nat := (List.range n).filter f
theorem pickB_same {f g : Nat → Bool} {n : Nat} (h : ∀ i, i < n → f i = g i) : pickB f n = pickB g n := List.filter_congr fun i hi => h i (by simpa using hi)
theorem pickB_yes {f : Nat → Bool} {n : Nat} (h : f n = true) : pickB f (n + 1) = pickB f n ++ [n] := by simp [pickB, List.range_succ, h]
theorem pickB_no {f : Nat → Bool} {n : Nat} (h : f n = false) : pickB f (n + 1) = pickB f n := by simp [pickB, List.range_succ, h]
theorem pickB_up {f : Nat → Bool} {n : Nat} : pickB (upB f n) n = pickB f n := pickB_same fun i hi => by simp [upB, Nat.ne_of_lt hi]
theorem pickB_sorted (f : Nat → Bool) (n : Nat) : (pickB f n).Pairwise (· < ·) := List.pairwise_lt_range.filter _
theorem pickB_lt {f : Nat → Bool} {n : Nat} : ∀ x ∈ pickB f n, x < n := fun x hx => by simpa using (List.mem_filter.1 hx).1
/-- numbers as values -/
def nvs (L : List Nat) : List Value := L.map fun i => Value.int .i64 ((i : Nat) : Int)
theorem nvs_snoc (L : List Nat) (i : Nat) : nvs L ++ [.int .i64 (i : Int)] = nvs (L ++ [i]) := by simp [nvs]
theorem own_setCell {w : World} {B n g i : Nat} {v x : Value} {e : TypeId} {s : Nat} {xs : List Value} (h : w.ownsRow B e s v n xs) (hg : g < B) : (w.setCell ⟨g, i, none⟩ x).ownsRow B e s v n xs := by
  refine ⟨h.1, h.2.imp id fun ⟨b, cap, cur, h1, h2, h3, h4⟩ => ⟨b, cap, cur, h1, h2, (heap_setCell_other _ _ _ _ (by show b ≠ g; omega)).trans h3, h4⟩⟩
theorem mod_place (x : Int) {n : Nat} (hn : 1 ≤ n) : (-(n : Int) < x.tmod n ∧ x.tmod n < n) ∧ ∃ j : Nat, j < n ∧ x.tmod n % (n : Int) = j := by
  have h1 : -(n : Int) < x.tmod n := by
    rcases Int.le_total 0 x with h | h
    · have := Int.tmod_nonneg n h; omega
    · have h2 := Int.neg_tmod (a := -x) (b := (n : Int))
      have h3 := Int.tmod_lt_of_pos (-x) (show (0 : Int) < n by omega)
      rw [Int.neg_neg] at h2; omega
  have h2 := Int.tmod_lt_of_pos x (show (0 : Int) < n by omega)
  have h3 : 0 ≤ x.tmod n % (n : Int) := Int.emod_nonneg _ (by omega)
  have h4 := Int.emod_lt_of_pos (x.tmod n) (show (0 : Int) < n by omega)
  exact ⟨⟨h1, h2⟩, (x.tmod n % (n : Int)).toNat, by omega, by omega⟩
end Go.Proofs.YtmlpijlcpeoeaaaDoor

/- What Carried of package half answers, at all numbers; nothing that was there turns. -/
namespace Go.Proofs.YtmlpijlcpeoeaaaDoor
open Go.RowKit Gf
set_option linter.unusedVariables false
set_option maxRecDepth 20000
/-- what a parity carries -/
def carL (k g i : Nat) : List Nat := pickB (fun x => decide (carN g x = i)) k
def castL (L : List Nat) : List Int := L.map fun x => ((x : Nat) : Int)
theorem castL_len (L : List Nat) : (castL L).length = L.length := by simp [castL]
theorem nvs_cast (L : List Nat) : nvs L = (castL L).map (Value.int .i64) := by simp [nvs, castL]
theorem ownI_slice {w : World} {B n : Nat} {v : Value} {L : List Nat} (ho : w.ownsRow B 3 1 v n (nvs L)) : ∃ a cap, v = .slice a n cap ∧ RowI w a (castL L) ∧ n = L.length ∧ (a = none → cap = 0) := by
  have hl := ho.1
  rw [nvs, List.length_map] at hl
  rcases ho.2 with ⟨rfl, e⟩ | ⟨g, cap, cur, rfl, h2⟩
  · exact ⟨none, 0, by rw [e], .inl (by rw [List.eq_nil_of_length_eq_zero (l := L) (by omega)]; rfl), by omega, fun _ => rfl⟩
  · rw [nvs_cast] at ho
    exact ⟨_, _, rfl, rowI_own ho, by omega, fun h => by cases h⟩
set_option maxHeartbeats 4000000 in
theorem hcarried_F (k r i : Nat) (w : World) (h1 : 1 ≤ k) (h2 : 2 ≤ r) (h3 : k + r ≤ 16) (hi : i < r) :
    Calls Tryd.prog 26 #[.int .i64 k, .int .i64 r, .int .i64 i] w fun e w' => ∃ a n cap, e = .returned (.tuple #[.slice a n cap, .nilIface]) ∧ n = (carL k (groupN k r) i).length ∧ RowI w' a (castL (carL k (groupN k r) i)) ∧ (a = none → cap = 0) ∧ Below w.heap.size w w' := by
  obtain ⟨g1, _, _, g2⟩ := groupN_least h1 h2 h3
  have HG : Hid _ := fun w => bgroup_ok k r w h1 h2 h3
  generalize groupN k r = g at *
  have HCF : Hid _ := fun j w (hj : j ≤ 1000) => carrier_F g j w g1 (by omega) hj
  obtain ⟨f, hf⟩ : ∃ f : Nat → Bool, f = fun x => decide (carN g x = i) := ⟨_, rfl⟩
  have hcl : carL k g i = pickB f k := by rw [hf]; rfl
  have hft : Hid (∀ x, carN g x = i → f x = true) := fun x h => by rw [hf]; exact decide_eq_true h
  have hff : Hid (∀ x, ¬ carN g x = i → f x = false) := fun x h => by rw [hf]; exact decide_eq_false h
  rw [hcl]
  generalize carN g = car at *
  have i1 : (i : Int) < r := by omega
  have HI : Hid _ := i1
  clear hf hcl i1
  go_enter Tryd.func26, Tryd.ntmps26
  go_wp2_with fail
  refine (HG.out _).mono ?_
  rintro e w1 ⟨rfl, rfl⟩
  go_wp2_with fail
  refine (hthere_yes _ _ _ (by omega) HI.out).mono ?_
  rintro e w1 ⟨rfl, rfl⟩
  go_wp2
  go_loopw [10, 27] (fun v t wr => ∃ j : Nat, j ≤ k ∧ t = .int .i64 j ∧ Below w.heap.size w wr ∧ wr.ownsRow w.heap.size 3 1 v (pickB f j).length (nvs (pickB f j))) (fun _ t _ => k - (intOf t).toNat)
  case atStart => exact ⟨0, by omega, rfl, Below.refl _ _, World.ownsRow_nil _ _ _ _⟩
  case round =>
    obtain ⟨j, hj, rfl, hb, ho⟩ := hrel
    have HB : Hid _ := hb
    have HO : Hid _ := ho
    obtain ⟨av, cv, rfl, hv, hn, hnil⟩ := ownI_slice ho
    have HV : Hid _ := hv
    have HNN : Hid _ := hnil
    have hl : (pickB f j).length ≤ 16 := by have := cntB_le f j; show cntB f j ≤ 16; omega
    clear hb ho hv hn hnil
    by_cases hlt : j < k
    · go_wp2_with fail
      refine (HCF.out j _ (by omega)).mono ?_
      rintro e w2 ⟨rfl, rfl⟩
      by_cases hc : car j = i
      · have hci : (car j : Int) = i := by omega
        have ho := World.ownsRow.alloc HO.out (.cells #[.int .i64 j] 3)
        obtain ⟨g2, cap2, w6, hrun, ho2, hgr, hor, hlt2⟩ := appendI (b := wr.heap.size) (c := 1) (x := (j : Int)) 54 ho (cellAt (heap_alloc_last wr (.cells #[.int .i64 j] 3)) 0 _ rfl) (by omega) (by have := HB.out.size; simp; omega)
        rw [nvs_snoc, ← pickB_yes (hft.out j hc)] at ho2
        have hb6 := below_own (B := w.heap.size) (HB.out.alloc HB.out.size (.cells #[.int .i64 j] 3)) ho hgr (by have := HB.out.size; simp; omega)
        have hlen : (pickB f j).length + 1 = (pickB f (j + 1)).length := by rw [pickB_yes (hft.out j hc)]; simp
        have HRun : Hid _ := hrun
        have HO2 : Hid _ := ho2
        have HB6 : Hid _ := hb6
        have HL : Hid _ := hlen
        clear ho hrun ho2 hb6 hgr hor hlt2 hlen hc
        go_wp2_with (at_builtin; refine wpList_append_run rfl _ _ 54 rfl _ _ _ _ rfl rfl HRun.out ?_)
        have ho9 := HO2.out
        rw [HL.out] at ho9
        rw [HL.out]
        exact ⟨⟨j + 1, by omega, by go_num, HB6.out, ho9⟩, by simp [intOf]; omega⟩
      · have hci : ¬ (car j : Int) = i := by omega
        have hpk := pickB_no (hff.out j hc)
        have HPK : Hid _ := hpk
        clear hc hpk
        go_wp2
        have ho9 := HO.out
        exact ⟨⟨j + 1, by omega, by go_num, HB.out, by rw [HPK.out]; exact ho9⟩, by simp [intOf]; omega⟩
    · obtain rfl : j = k := by omega
      go_wp2
      go_ret2
      exact ⟨av, _, cv, rfl, rfl, HV.out, HNN.out, HB.out⟩
theorem hcarried_bad (k r x : Int) (w : World) (s : Addr) (hs : w.cell? ⟨0, 0, none⟩ = some (errAt s)) (hk0 : -9223372036854775808 ≤ k) (hk1 : k ≤ 9223372036854775807) (hr0 : -9223372036854775808 ≤ r) (hr1 : r ≤ 9223372036854775807) (hL : ¬ LegalP k r) :
    Calls Tryd.prog 26 #[.int .i64 k, .int .i64 r, .int .i64 x] w fun e w' => e = .returned (.tuple #[.slice none 0 0, errAt s]) ∧ w = w' := by
  have HS : Hid _ := hs
  have H : Hid _ := hL
  clear hs hL
  go_enter Tryd.func26, Tryd.ntmps26
  go_wp2_with fail
  refine (bgroup_bad k r _ s HS.out hk0 hk1 hr0 hr1 H.out).mono ?_
  unfold errAt
  rintro e w' ⟨rfl, rfl⟩
  go_wp2
  go_ret2
  exact ⟨rfl, rfl⟩
theorem hcarried_no (k r : Nat) (x : Int) (w : World) (s : Addr) (hs : w.cell? ⟨11, 0, none⟩ = some (errAt s)) (h1 : 1 ≤ k) (h2 : 2 ≤ r) (h3 : k + r ≤ 16) (hx : ¬ (0 ≤ x ∧ x < r)) :
    Calls Tryd.prog 26 #[.int .i64 k, .int .i64 r, .int .i64 x] w fun e w' => e = .returned (.tuple #[.slice none 0 0, errAt s]) ∧ Below w.heap.size w w' := by
  have hlt := World.block_lt_of_cell? w _ hs
  simp at hlt
  have HX : Hid _ := hx
  unfold errAt at *
  clear hx
  go_enter Tryd.func26, Tryd.ntmps26
  go_wp2_with fail
  refine (bgroup_ok _ _ _ h1 h2 h3).mono ?_
  rintro e w' ⟨rfl, rfl⟩
  go_wp2_with fail
  refine (hthere_no _ _ _ HX.out).mono ?_
  rintro e w' ⟨rfl, rfl⟩
  go_wp2
  go_region
  go_wp2
  go_ret2
  exact ⟨rfl, (Below.refl _ _).drew⟩
end Go.Proofs.YtmlpijlcpeoeaaaDoor

/- What Solve answers of lists of another length, and what Express answers. -/
namespace Go.Proofs.YtmlpijlcpeoeaaaDoor
open Go.RowKit Gf
set_option linter.unusedVariables false
set_option maxRecDepth 20000
theorem SolOf.congr {A B : Mt} {r c : Nat} {v x : Nat → F} (h : SolOf A r c v x) (e : ∀ i, i < r → ∀ j, j < c → A i j = B i j) : SolOf B r c v x :=
  ⟨fun i hi => (h.sol i hi).trans (sumF_congr fun l hl => by rw [e i hi l hl]), fun l hl hn => h.off l hl (by rw [pivL_congr e]; exact hn)⟩
theorem Dep.congr {A B : Mt} {n c : Nat} {b : Nat → F} (h : Dep A n c b) (e : ∀ i, i < n → ∀ j, j < c → A i j = B i j) : Dep B n c b := by
  obtain ⟨x, hx⟩ := h
  exact ⟨x, fun i hi => (hx i hi).trans (sumF_congr fun l hl => by rw [e i hi l hl])⟩
/-- the answer of Solve or Express where the arguments don't fit -/
def noSol (s : Addr) : Value := .tuple #[.slice none 0 0, .bool false, errAt s]
theorem FormOk.nat {r c : Int} {l : Nat} (h : FormOk r c l) : ∃ r' c' : Nat, r = r' ∧ c = c' ∧ r' ≤ 64 ∧ c' ≤ 64 ∧ l = r' * c' := by
  obtain ⟨h0, h1, h2, h3, h4⟩ := h
  obtain ⟨r', rfl⟩ := Int.eq_ofNat_of_zero_le h0
  obtain ⟨c', rfl⟩ := Int.eq_ofNat_of_zero_le h2
  exact ⟨r', c', rfl, rfl, by omega, by omega, by exact_mod_cast h4⟩
end Go.Proofs.YtmlpijlcpeoeaaaDoor

/- What Inverse of package solve answers, of all matrices. -/
namespace Go.Proofs.YtmlpijlcpeoeaaaDoor
open Go.RowKit Gf
set_option linter.unusedVariables false
set_option maxRecDepth 20000
def slX (n : Nat) (g : Nat → Value) : Array Value := ((List.range n).map g).toArray
theorem slX_size (n : Nat) (g : Nat → Value) : (slX n g).size = n := by simp [slX]
theorem slX_at {n k : Nat} {g : Nat → Value} (h : k < n) : (slX n g)[k]? = some (g k) := by simp [slX, h]
theorem slX_set {n k : Nat} {g : Nat → Value} (v : Value) (h : k < n) : (slX n g).setIfInBounds k v = slX n (fun x => if x = k then v else g x) := by
  apply Array.ext_getElem?
  intro i
  rw [Array.getElem?_setIfInBounds]
  by_cases hi : i < n
  · rw [slX_at hi, slX_at hi, slX_size]
    by_cases e : k = i
    · subst e; simp [hi]
    · simp [e, show ¬ i = k from fun h => e h.symm]
  · rw [Array.getElem?_eq_none (by rw [slX_size]; omega), Array.getElem?_eq_none (by rw [slX_size]; omega), slX_size]
    simp; omega
theorem augL_one {n : Nat} {xs : List F} : ∀ i, i < n → ∀ j, j < n + n → augL n n xs (oneM n) i j = augI n (cellF n xs) i j := fun i hi j hj => by
  simp only [augL, augI, cellF]
  by_cases h : j < n
  · rw [if_pos h, if_pos h]
  · rw [if_neg h, if_neg h, oneM, at8_grid hi (by omega)]
    by_cases e : i = j - n
    · rw [if_pos e, if_pos (by omega)]
    · rw [if_neg e, if_neg (by omega)]
theorem row8T_tail {w : World} {b off n c : Nat} {f : Nat → F} (h : Row8T w (some ⟨b, off, none⟩) (rowF (c + n) f)) (hn : 0 < n) : Row8T w (some ⟨b, off + c, none⟩) (rowF n fun j => f (c + j)) := by
  rcases h with e | ⟨b', off', cs, fr, e, hb, h⟩
  · have := congrArg List.length e
    rw [rowF_len] at this
    simp at this; omega
  · cases e
    refine .inr ⟨b, off + c, cs, fr, rfl, hb, fun j hj => ?_⟩
    rw [rowF_len] at hj
    have := h (c + j) (by rw [rowF_len]; omega)
    rw [at8_rowF (by omega)] at this
    rw [at8_rowF hj, Nat.add_assoc]
    exact this
/-- a matrix that undoes another one, on either side -/
structure InvOf (n : Nat) (A B : Mt) : Prop where
  right : ∀ i, i < n → ∀ j, j < n → mulF n A B i j = if i = j then 1 else 0
  left : ∀ i, i < n → ∀ j, j < n → mulF n B A i j = if i = j then 1 else 0
set_option maxHeartbeats 8000000 in
theorem inverse_F (n l cap : Nat) (a : Option Addr) (xs : List F) (w : World) (hn : n ≤ 64) (hl : l = n * n) (hx : xs.length = n * n) (hcap : l ≤ cap) (hX : Row8 w a xs) (hnil : a = none → cap = 0) (s : Addr) (hs : w.cell? ⟨3, 0, none⟩ = some (errAt s)) :
    Calls Tryd.prog 60 #[.agg #[.int .i64 n, .int .i64 n, .slice a l cap]] w fun e w' =>
      ((pivL (cellF n xs) n n).length = n ∧ ∃ g m Y, e = .returned (.tuple #[.agg #[.int .i64 n, .int .i64 n, .slice (some ⟨g, 0, none⟩) m m], .nilIface]) ∧ m = n * n ∧ w.heap.size ≤ g ∧ w'.heap[g]? = some (.cells (vfs (grid n Y n)) 5 (0, 0)) ∧ InvOf n (cellF n xs) Y ∧ Below w.heap.size w w') ∨
      ((pivL (cellF n xs) n n).length ≠ n ∧ e = .returned (.tuple #[.agg #[.int .i64 0, .int .i64 0, .slice none 0 0], errAt s]) ∧ Below w.heap.size w w') := by
  have HL : Hid _ := hl
  have HX : Hid _ := hx
  have HRX : Hid (Row8 w a xs) := hX
  have HNA : Hid _ := hnil
  have HS : Hid _ := hs
  have hlt0 := World.block_lt_of_cell? w _ hs
  simp at hlt0
  clear hl hx hX hnil hs
  go_enter Tryd.func60, Tryd.ntmps60
  go_wp2_with fail
  refine Calls.mono (one_F n _ hn) ?_
  rintro e w2 ⟨g1, n1, rfl, hn1, hg1, hh1, hb2⟩
  have hal := (((Below.refl w.heap.size w).alloc (Nat.le_refl _) (.cells #[.int .i64 n, .int .i64 n, .slice a l cap] 65)).alloc (by simp) (.cells #[.int .i64 0, .int .i64 0, .slice none 0 0] 65))
  have hA := holds_cons (holds_later (holds_new (holds_new (holds_nil w) #[.int .i64 n, .int .i64 n, .slice a l cap] 65) #[.int .i64 0, .int .i64 0, .slice none 0 0] 65) hb2) hh1
  rw [World.size_alloc] at hA
  have HW2 : Hid (Below w.heap.size w w2) := hal.trans (hb2.mono (by simp; omega))
  have hA := holds_new hA #[.int .i64 n, .int .i64 n, .slice (some ⟨g1, 0, none⟩) n1 n1] 65
  have HW3 : Hid (Below w.heap.size w (w2.alloc (.cells #[.int .i64 n, .int .i64 n, .slice (some ⟨g1, 0, none⟩) n1 n1] 65))) := HW2.out.alloc HW2.out.size _
  have hsz : w.heap.size + 2 ≤ w2.heap.size := by have := hb2.size; simpa using this
  have c1 := cellAt (holds_at hA 0 rfl) 0 _ rfl
  have c2 := cellAt (holds_at hA 0 rfl) 1 _ rfl
  have c3 := cellAt (holds_at hA 0 rfl) 2 _ rfl
  have c4 := cellAt (holds_at hA 3 rfl) 0 _ rfl
  have c5 := cellAt (holds_at hA 3 rfl) 1 _ rfl
  have c6 := cellAt (holds_at hA 3 rfl) 2 _ rfl
  have HA : Hid _ := hA
  have HN1 : Hid _ := hn1
  clear hn1 hh1 hb2 hA HW2 hal
  go_wp2_with fail
  refine Calls.mono (eliminated_F n n n l cap n1 n1 a (some ⟨g1, 0, none⟩) xs (oneM n) _ hn hn hn HL.out HX.out hcap (row8_below HRX.out HW3.out) HNA.out HN1.out (by simp [oneM, grid_len]) (Nat.le_refl _) (holds_row HA.out 1 rfl) (fun h => by cases h)) ?_
  rintro e w4 ⟨M, av, cv, p, f', R', rfl, hM, hown, hrw, hred, hin, hback, hb4⟩
  have hA := holds_later HA.out hb4
  have hp : p = pivL (cellF n xs) n n := (hred.eq hin hback (by omega)).trans (pivL_congr fun i hi j hj => by simp [augL, cellF, hj])
  have hin2 := RowsIn.congr_right hin (A' := augI n (cellF n xs)) fun i hi j hj => (augL_one i hi j hj).symm
  have hback2 := RowsIn.congr_left hback (B' := augI n (cellF n xs)) fun i hi j hj => (augL_one i hi j hj).symm
  have HP : Hid _ := hp
  have HRW : Hid _ := hrw
  have HRED : Hid _ := hred
  have HIN : Hid _ := hin2
  have HBACK : Hid _ := hback2
  have HA4 : Hid _ := hA
  have HW4 : Hid (Below w.heap.size w w4) := HW3.out.trans (hb4.mono HW3.out.size)
  have hM2 : w2.heap.size + 1 ≤ M := by simpa using hM
  have hplen := hred.len
  have c1' := cellAt (holds_at hA 3 rfl) 1 _ rfl
  have k1 := holds_at hA 2 rfl
  clear hA hown hrw hred hin hback hin2 hback2 hb4 hp c1 c2 c3 c4 c5 c6 hM
  by_cases hfull : p.length = n
  · have HFULL : Hid _ := hfull
    rw [hfull]
    clear hfull
    go_wp2
    go_loopw [40] (fun i wr => ∃ (k : Nat) (g : Nat → Value), k ≤ n ∧ i = .int .i64 k ∧ w4.grownBy wr (some M) ∧ wr.heap[M]? = some (.cells (slX n g) 22 (0, 0)) ∧
      (∀ x, x < k → ∃ a' cap', g x = .slice a' n cap' ∧ Row8T wr a' (rowF n fun j => R' x (n + j))) ∧ ∀ x, k ≤ x → x < n → g x = .slice (f' x).1 (n + n) (f' x).2) (fun i _ => n - (intOf i).toNat)
    case atStart => exact ⟨0, fun x => .slice (f' x).1 (n + n) (f' x).2, by omega, rfl, World.grownBy.refl _ _, HRW.out.blk, fun x h => by omega, fun x _ _ => rfl⟩
    case round =>
      obtain ⟨k, g, hk, rfl, hgb, hs, hdone, hrest⟩ := hrel
      have HGB : Hid _ := hgb
      have HSS : Hid _ := hs
      have HDONE : Hid _ := hdone
      have HREST : Hid _ := hrest
      have zM := ltHeap HRW.out.blk
      have z0 := ltHeap (holds_at HA4.out 3 rfl)
      have c2 := cellAt (grown_block hgb (holds_at HA4.out 3 rfl) (by omega)) 1 _ rfl
      by_cases hlt : k < n
      · have c3 := cellAt hs k _ (slX_at hlt)
        rw [hrest k (Nat.le_refl _) hlt] at c3
        obtain ⟨bo, oo, mo, hfo, hmo, hboM, hbo, _, _⟩ := HRW.out.get hlt (show 0 < n + n by omega)
        rw [hfo] at c3
        have d3 : wr.frozen? ⟨M, k, none⟩ = false := frozen_of_row _ _ _ _ _ hs
        have HFO : Hid _ := hfo
        have hmn : n < mo := by omega
        have hNE : NoElems wr (some M) := noElems_some hs (by decide)
        have hgS : wr.grownBy (wr.setCell ⟨M, k, none⟩ (.slice (some ⟨bo, oo + n, none⟩) n (mo - n))) (some M) := grownBy_setCell (World.grownBy.refl _ _) _
        have hrow := row8T_grown (HRW.out.row k hlt) hgb (noElems_some HRW.out.blk (by decide))
        rw [hfo] at hrow
        have HROW : Hid _ := row8T_grown (row8T_tail hrow (by omega)) hgS hNE
        have HS1 : Hid ((wr.setCell ⟨M, k, none⟩ (.slice (some ⟨bo, oo + n, none⟩) n (mo - n))).heap[M]? = some (.cells (slX n fun x => if x = k then .slice (some ⟨bo, oo + n, none⟩) n (mo - n) else g x) 22 (0, 0))) := by
          show _ = _
          rw [heap_setCell_same _ _ _ _ _ _ hs, slX_set _ hlt]
        have HGS : Hid _ := hgS
        have HNE : Hid _ := hNE
        clear hgb hs hdone hrest hfo hgS hNE hrow
        go_wp2
        refine ⟨⟨k + 1, _, by omega, by go_num, grownBy_setCell HGB.out _, HS1.out, fun x hx => ?_, fun x h1 h2 => ?_⟩, by simp [intOf]; omega⟩
        · by_cases e : x = k
          · subst e
            rw [if_pos rfl]
            exact ⟨_, _, rfl, HROW.out⟩
          · rw [if_neg e]
            obtain ⟨a', cap', h1, h2⟩ := HDONE.out x (by omega)
            exact ⟨a', cap', h1, row8T_grown h2 HGS.out HNE.out⟩
        · show (if x = k then _ else g x) = _
          rw [if_neg (by omega)]
          exact HREST.out x (by omega) h2
      · obtain rfl : k = n := by omega
        have hW : Below w.heap.size w wr := below_grown HW4.out hgb (by omega)
        have HW5 : Hid _ := hW
        have hA5 : Holds wr [(w.heap.size + 1, .cells #[.int .i64 0, .int .i64 0, .slice none 0 0] 65 (0, 0))] := holds_cons (holds_nil _) (grown_block hgb (holds_at HA4.out 2 rfl) (by omega))
        have HA5 : Hid _ := hA5
        clear hgb hs hdone hrest hA5 hW
        have HR8 : Hid (Rows8 wr (some ⟨M, 0, none⟩) ((List.range k).map fun x => rowF k fun j => R' x (k + j))) := .inr ⟨M, 0, rfl, fun j x hx => by
          simp only [List.getElem?_map, Option.map_eq_some_iff] at hx
          obtain ⟨i, hi, rfl⟩ := hx
          obtain ⟨hjk, hi2⟩ := List.getElem?_eq_some_iff.1 hi
          simp only [List.length_range] at hjk
          simp only [List.getElem_range] at hi2
          subst hi2
          obtain ⟨a', cap', h1, h2⟩ := HDONE.out j hjk
          refine ⟨a', cap', ?_, h2.row8⟩
          rw [Nat.zero_add, rowF_len, ← h1]
          exact cellAt HSS.out j _ (slX_at hjk)⟩
        go_wp2_with fail
        refine Calls.mono (of_F k k k _ ((List.range k).map fun x => rowF k fun j => R' x (k + j)) _ hn (by simp) hn (fun x hx => ?_) HR8.out) ?_
        · obtain ⟨i, _, rfl⟩ := List.mem_map.1 hx
          exact rowF_len _ _
        rintro e w5 ⟨g5, m5, rfl, hm5, hg5, hh5, hb5⟩
        rw [← grid_flat k (fun x j => R' x (k + j))] at hh5
        have k1 := holds_at (holds_later HA5.out hb5) 0 rfl
        have c4 := cellAt k1 0 _ rfl
        have c5 := cellAt k1 1 _ rfl
        have c6 := cellAt k1 2 _ rfl
        have d4 : w5.frozen? ⟨w.heap.size + 1, 0, none⟩ = false := frozen_of_row _ _ _ _ _ k1
        have d5 : w5.frozen? ⟨w.heap.size + 1, 1, none⟩ = false := frozen_of_row _ _ _ _ _ k1
        have d6 : w5.frozen? ⟨w.heap.size + 1, 2, none⟩ = false := frozen_of_row _ _ _ _ _ k1
        have hgw : w.heap.size + 1 < g5 := by have := ltHeap (holds_at HA5.out 0 rfl); omega
        have HW6 : Hid (Below w.heap.size w w5) := HW5.out.trans (hb5.mono HW5.out.size)
        have HH5 : Hid _ := hh5
        have HM5 : Hid _ := hm5
        clear hh5 hm5 hb5 hg5 k1 c2
        go_wp2
        refine bodyPost_ret (v := .tuple #[.agg #[.int .i64 k, .int .i64 k, .slice (some ⟨g5, 0, none⟩) m5 m5], .nilIface]) (by simp [results, Tryd.results60, go_sem, c4, c5, c6]) rfl ?_
        refine .inl ⟨by rw [← HP.out]; exact HFULL.out, g5, m5, fun x j => R' x (k + j), rfl, HM5.out, by omega, ?_, ⟨inv_right HRED.out HFULL.out HBACK.out, inv_left HRED.out HFULL.out HIN.out⟩, ?_⟩
        · rw [heap_setCell_other _ _ _ _ (by show g5 ≠ w.heap.size + 1; omega), heap_setCell_other _ _ _ _ (by show g5 ≠ w.heap.size + 1; omega), heap_setCell_other _ _ _ _ (by show g5 ≠ w.heap.size + 1; omega)]
          exact HH5.out
        · exact ((HW6.out.setCell (by simp) _).setCell (by simp) _).setCell (by simp) _
  · have hlt : p.length < n := by omega
    have c4 := cellAt k1 0 _ rfl
    have c5 := cellAt k1 1 _ rfl
    have c6 := cellAt k1 2 _ rfl
    have d4 : w4.frozen? ⟨w.heap.size + 1, 0, none⟩ = false := frozen_of_row _ _ _ _ _ k1
    have d5 : w4.frozen? ⟨w.heap.size + 1, 1, none⟩ = false := frozen_of_row _ _ _ _ _ k1
    have d6 : w4.frozen? ⟨w.heap.size + 1, 2, none⟩ = false := frozen_of_row _ _ _ _ _ k1
    have c9 := cell_later HW4.out HS.out
    have HNF : Hid _ := hfull
    unfold errAt at *
    clear hfull k1
    go_wp2
    go_region
    go_wp2
    refine bodyPost_ret (v := .tuple #[.agg #[.int .i64 0, .int .i64 0, .slice none 0 0], .iface 140 (.pointer (some s))]) (by simp [results, Tryd.results60, go_sem, c4, c5, c6]) rfl ?_
    exact .inr ⟨by rw [← HP.out]; exact HNF.out, rfl, (((HW4.out.setCell (by simp) _).setCell (by simp) _).setCell (by simp) _).drew⟩
set_option maxHeartbeats 2000000 in
theorem inverse_bad (r c : Int) (l cap : Nat) (a : Option Addr) (w : World) (s : Addr) (hs : w.cell? ⟨2, 0, none⟩ = some (errAt s)) (h : ¬ (FormOk r c l ∧ r = c)) :
    Calls Tryd.prog 60 #[.agg #[.int .i64 r, .int .i64 c, .slice a l cap]] w fun e w' => e = .returned (.tuple #[.agg #[.int .i64 0, .int .i64 0, .slice none 0 0], errAt s]) ∧ Below w.heap.size w w' := by
  have H : Hid _ := h
  have hlt0 := World.block_lt_of_cell? w _ hs
  simp at hlt0
  have HS : Hid _ := cell?_alloc_old (.cells #[.int .i64 0, .int .i64 0, .slice none 0 0] 65) (cell?_alloc_old (.cells #[.int .i64 r, .int .i64 c, .slice a l cap] 65) hs)
  have hal := (((Below.refl w.heap.size w).alloc (Nat.le_refl _) (.cells #[.int .i64 r, .int .i64 c, .slice a l cap] 65)).alloc (by simp) (.cells #[.int .i64 0, .int .i64 0, .slice none 0 0] 65))
  clear h hs
  by_cases hc : 0 ≤ c ∧ c ≤ 64
  · obtain ⟨h0, h1⟩ := hc
    obtain ⟨n, rfl⟩ := Int.eq_ofNat_of_zero_le h0
    go_enter Tryd.func60, Tryd.ntmps60
    go_wp2_with fail
    refine Calls.mono (one_F n _ (by omega)) ?_
    rintro e w2 ⟨g1, n1, rfl, hn1, hg1, hh1, hb2⟩
    have hA := holds_cons (holds_later (holds_new (holds_new (holds_nil w) #[.int .i64 r, .int .i64 n, .slice a l cap] 65) #[.int .i64 0, .int .i64 0, .slice none 0 0] 65) hb2) hh1
    rw [World.size_alloc] at hA
    have HW2 : Hid (Below w.heap.size w w2) := hal.trans (hb2.mono (by simp; omega))
    have hA := holds_new hA #[.int .i64 n, .int .i64 n, .slice (some ⟨g1, 0, none⟩) n1 n1] 65
    have HW3 : Hid (Below w.heap.size w (w2.alloc (.cells #[.int .i64 n, .int .i64 n, .slice (some ⟨g1, 0, none⟩) n1 n1] 65))) := HW2.out.alloc HW2.out.size _
    have hsz : w.heap.size + 2 ≤ w2.heap.size := by have := hb2.size; simpa using this
    have c1 := cellAt (holds_at hA 0 rfl) 0 _ rfl
    have c2 := cellAt (holds_at hA 0 rfl) 1 _ rfl
    have c3 := cellAt (holds_at hA 0 rfl) 2 _ rfl
    have c4 := cellAt (holds_at hA 3 rfl) 0 _ rfl
    have c5 := cellAt (holds_at hA 3 rfl) 1 _ rfl
    have c6 := cellAt (holds_at hA 3 rfl) 2 _ rfl
    have HA : Hid _ := hA
    have HS3 : Hid _ := cell?_alloc_old (.cells #[.int .i64 n, .int .i64 n, .slice (some ⟨g1, 0, none⟩) n1 n1] 65) (cell_later hb2 HS.out)
    have HE : Hid (Calls Tryd.prog 83 #[.agg #[.int .i64 r, .int .i64 n, .slice a l cap], .agg #[.int .i64 n, .int .i64 n, .slice (some ⟨g1, 0, none⟩) n1 n1]] (w2.alloc (.cells #[.int .i64 n, .int .i64 n, .slice (some ⟨g1, 0, none⟩) n1 n1] 65)) fun e w' =>
        e = .returned (.tuple #[.slice none 0 0, .slice none 0 0, errAt s]) ∧ Below (w2.alloc (.cells #[.int .i64 n, .int .i64 n, .slice (some ⟨g1, 0, none⟩) n1 n1] 65)).heap.size (w2.alloc (.cells #[.int .i64 n, .int .i64 n, .slice (some ⟨g1, 0, none⟩) n1 n1] 65)) w') := by
      by_cases hf : FormOk r n l
      · obtain ⟨r', c', rfl, hc, h1, h2, h3⟩ := hf.nat
        have hc : n = c' := by omega
        subst hc
        exact eliminated_odd r' n n n l cap n1 n1 a _ _ s HS3.out h1 h2 h3 (fun e => H.out ⟨hf, e⟩)
      · exact eliminated_bad r n n n l cap n1 n1 a _ _ s HS3.out hf
    clear hn1 hh1 hb2 hA HW2 hal H
    go_wp2_with fail
    refine Calls.mono HE.out ?_
    rintro e w4 ⟨rfl, hb4⟩
    have k1 := holds_at (holds_later HA.out hb4) 2 rfl
    have HW4 : Hid (Below w.heap.size w w4) := HW3.out.trans (hb4.mono HW3.out.size)
    have b4 := cellAt k1 0 _ rfl
    have b5 := cellAt k1 1 _ rfl
    have b6 := cellAt k1 2 _ rfl
    have d4 : w4.frozen? ⟨w.heap.size + 1, 0, none⟩ = false := frozen_of_row _ _ _ _ _ k1
    have d5 : w4.frozen? ⟨w.heap.size + 1, 1, none⟩ = false := frozen_of_row _ _ _ _ _ k1
    have d6 : w4.frozen? ⟨w.heap.size + 1, 2, none⟩ = false := frozen_of_row _ _ _ _ _ k1
    unfold errAt at *
    clear k1 hb4 c1 c2 c3 c4 c5 c6 HE
    go_wp2
    refine bodyPost_ret (v := .tuple #[.agg #[.int .i64 0, .int .i64 0, .slice none 0 0], .iface 140 (.pointer (some s))]) (by simp [results, Tryd.results60, go_sem, b4, b5, b6]) rfl ?_
    exact ⟨rfl, ((HW4.out.setCell (by simp) _).setCell (by simp) _).setCell (by simp) _⟩
  · have HC : Hid _ := hc
    clear hc H
    go_enter Tryd.func60, Tryd.ntmps60
    go_wp2_with fail
    refine Calls.mono (one_bad c _ s HS.out HC.out) ?_
    rintro e w2 ⟨rfl, hb2⟩
    have hA := holds_later (holds_new (holds_new (holds_nil w) #[.int .i64 r, .int .i64 c, .slice a l cap] 65) #[.int .i64 0, .int .i64 0, .slice none 0 0] 65) hb2
    rw [World.size_alloc] at hA
    have HW2 : Hid (Below w.heap.size w w2) := hal.trans (hb2.mono (by simp; omega))
    have hA := holds_alloc hA (.cells #[.int .i64 0, .int .i64 0, .slice none 0 0] 65)
    have k1 := holds_at hA 0 rfl
    have b4 := cellAt k1 0 _ rfl
    have b5 := cellAt k1 1 _ rfl
    have b6 := cellAt k1 2 _ rfl
    have d4 : (w2.alloc (.cells #[.int .i64 0, .int .i64 0, .slice none 0 0] 65)).frozen? ⟨w.heap.size + 1, 0, none⟩ = false := frozen_of_row _ _ _ _ _ k1
    have d5 : (w2.alloc (.cells #[.int .i64 0, .int .i64 0, .slice none 0 0] 65)).frozen? ⟨w.heap.size + 1, 1, none⟩ = false := frozen_of_row _ _ _ _ _ k1
    have d6 : (w2.alloc (.cells #[.int .i64 0, .int .i64 0, .slice none 0 0] 65)).frozen? ⟨w.heap.size + 1, 2, none⟩ = false := frozen_of_row _ _ _ _ _ k1
    have HW3 : Hid (Below w.heap.size w (w2.alloc (.cells #[.int .i64 0, .int .i64 0, .slice none 0 0] 65))) := HW2.out.alloc HW2.out.size _
    unfold errAt at *
    clear hA k1 hb2
    go_wp2
    refine bodyPost_ret (v := .tuple #[.agg #[.int .i64 0, .int .i64 0, .slice none 0 0], .iface 140 (.pointer (some s))]) (by simp [results, Tryd.results60, go_sem, b4, b5, b6]) rfl ?_
    exact ⟨rfl, ((HW3.out.setCell (by simp) _).setCell (by simp) _).setCell (by simp) _⟩
end Go.Proofs.YtmlpijlcpeoeaaaDoor

/- What the document's own Split answers, and SameLists of two lists that are the same; nothing that was there turns. -/
namespace Go.Proofs.YtmlpijlcpeoeaaaDoor
open Go.RowKit Gf
set_option linter.unusedVariables false
set_option maxRecDepth 20000
/-- half v, made as far as byte i -/
def hfP (H : Nat) (xs : List F) (v i : Nat) : List F := rowF H (fun j => if j < i then at8 xs (v * H + j) else 0)
theorem hfP_len (H : Nat) (xs : List F) (v i : Nat) : (hfP H xs v i).length = H := rowF_len _ _
theorem hfP_zero (H : Nat) (xs : List F) (v : Nat) : zeros H = hfP H xs v 0 := rowF_eq (zeros_len H) fun j hj => by rw [at8_zeros, if_neg (by omega)]
theorem hfP_done (H : Nat) (xs : List F) (v : Nat) : hfP H xs v H = hf H xs v := rowF_congr fun j hj => by rw [if_pos hj]
theorem hfP_step {H : Nat} {xs : List F} {v i : Nat} (hi : i < H) : (hfP H xs v i).set i (at8 xs (v * H + i)) = hfP H xs v (i + 1) := by
  refine rowF_eq (by rw [List.length_set, hfP_len]) fun j hj => ?_
  by_cases h : j = i
  · subst h
    rw [if_pos (by omega)]
    simp [at8, hfP_len, hj]
  · have e : at8 ((hfP H xs v i).set i (at8 xs (v * H + i))) j = at8 (hfP H xs v i) j := by simp [at8, Ne.symm h]
    rw [e, hfP, at8_rowF hj]
    by_cases h2 : j < i
    · rw [if_pos h2, if_pos (by omega)]
    · rw [if_neg h2, if_neg (by omega)]
theorem hfP_over {H : Nat} {xs : List F} {v i : Nat} (h : xs.length ≤ v * H + i) : hfP H xs v i = hfP H xs v (i + 1) := rowF_congr fun j hj => by
  by_cases h1 : j < i
  · rw [if_pos h1, if_pos (by omega)]
  · rw [if_neg h1]
    by_cases h2 : j < i + 1
    · rw [if_pos h2, at8_over (by omega)]
    · rw [if_neg h2]
/-- lists as values: whole blocks -/
def slsV (H : Nat) (gs : List Nat) : List Value := gs.map fun g => .slice (some ⟨g, 0, none⟩) H H
theorem slsV_snoc (H : Nat) (gs : List Nat) (g : Nat) : slsV H gs ++ [.slice (some ⟨g, 0, none⟩) H H] = slsV H (gs ++ [g]) := by simp [slsV]
theorem rsplit_bad (k : Int) (a : Option Addr) (la ca : Nat) (w : World) (h : halfE k la ≠ 0) :
    Calls Tryd.prog 31 #[.int .i64 k, .slice a la ca] w fun e w' => e = .returned (.tuple #[.slice none 0 0, .int .i64 (halfE k la)]) ∧ w = w' := by
  have HF : Hid _ := fun w => rhalf_F k la w
  rw [halfV_no h] at HF
  have h' : ¬ ((halfE k la : Nat) : Int) = 0 := by omega
  generalize halfE k la = x at *
  clear h
  go_enter Tryd.func31, Tryd.ntmps31
  go_wp2_with fail
  refine Calls.mono (HF.out _) ?_
  rintro e w1 ⟨rfl, rfl⟩
  go_wp2_with fail
  go_ret2
  exact ⟨rfl, rfl⟩
set_option maxHeartbeats 2000000 in
theorem rsplit_ok (k n ca : Nat) (a : Option Addr) (xs : List F) (w : World) (h1 : 1 ≤ k) (h2 : k ≤ 14) (h3 : 1 ≤ n) (h4 : n ≤ 128 * k) (hn : n = xs.length) (hx : Row8 w a xs) :
    Calls Tryd.prog 31 #[.int .i64 k, .slice a n ca] w fun e w' => ∃ b c cap H, e = .returned (.tuple #[.slice b c cap, .int .i64 0]) ∧ c = 2 * k ∧ H = cntN (2 * k) n ∧ Rows8 w' b ((List.range c).map (hf H xs)) ∧ Below w.heap.size w w' := by
  have HF : Hid _ := fun w => rhalf_F k n w
  rw [halfV_ok h1 h2 h3 h4, halfE_ok h1 h2 h3 h4] at HF
  obtain ⟨k1, k2, k3, k4⟩ := cnt_half h1 h2 h3 h4
  obtain ⟨c, hc⟩ : ∃ c, c = 2 * k := ⟨_, rfl⟩
  rw [← hc] at HF k1 k2 k3 k4
  generalize hH : cntN c n = H at *
  have HCC : Hid _ := hc
  have HHH : Hid _ := hH
  have HKC : Hid ((2 : Int) * k = c) := by show _ = _; omega
  have hc28 : c ≤ 28 := by omega
  have HXL : Hid _ := hn
  have HX : Hid _ := hx
  have H8 : Hid _ := fun w => run_make8 H (by omega) w
  clear k3 k4 h3 h4 hc hH hn hx
  go_enter Tryd.func31, Tryd.ntmps31
  go_wp2_with fail
  refine Calls.mono (HF.out _) ?_
  rintro e w1 ⟨rfl, rfl⟩
  go_wp2
  have hown : (w.alloc (.cells #[] 22)).ownsRow w.heap.size 22 1 (.slice (some ⟨w.heap.size, 0, none⟩) 0 0) 0 (slsV H []) := ⟨rfl, .inr ⟨w.heap.size, 0, #[], rfl, Nat.le_refl _, heap_alloc_last _ _, by simp, by simp [maxLen], rfl, rfl⟩⟩
  go_loopw [8, 9] (fun s t wr => ∃ v : Nat, ∃ gs : List Nat, v ≤ c ∧ t = .int .i64 v ∧ gs.length = v ∧ Below w.heap.size w wr ∧ wr.ownsRow w.heap.size 22 1 s v (slsV H gs) ∧ ∀ (j g : Nat), gs[j]? = some g → wr.heap[g]? = some (.cells (vfs (hf H xs j)) 5 (0, 0))) (fun _ t _ => c - (intOf t).toNat)
  case atStart => exact ⟨0, [], by omega, rfl, rfl, (Below.refl _ _).alloc (Nat.le_refl _) _, hown, fun j g h => by simp at h⟩
  case round =>
    obtain ⟨v, gs, hv, rfl, hgs, hb, ho, hrows⟩ := hrel
    have HGS : Hid _ := hgs
    have HB : Hid _ := hb
    have HO : Hid _ := ho
    have HRO : Hid _ := hrows
    have hkc := HKC.out
    clear hgs hb hrows hown
    by_cases hlt : v < c
    · have m1 := H8.out wr
      have B1 : Hid _ := heap_alloc_last wr (.cells (vfs (zeros H)) 5)
      have HBW : Hid (Below wr.heap.size wr (wr.alloc (.cells (vfs (zeros H)) 5))) := (Below.refl _ _).alloc (Nat.le_refl _) _
      obtain ⟨p, hp⟩ : ∃ p, p = v * H := ⟨_, rfl⟩
      have hpm : p ≤ 1792 := by
        rw [hp]; exact Nat.le_trans (Nat.mul_le_mul (show v ≤ 28 by omega) k2) (by decide)
      have m4 : (v : Int) * (H : Int) = (p : Int) := by rw [hp]; simp
      have HP : Hid _ := hp
      have HM4 : Hid _ := m4
      clear ho hp m4
      go_wp2
      clear m1
      generalize hN : wr.heap.size = N at *
      generalize (wr.alloc (.cells (vfs (zeros H)) 5)) = W3 at *
      have HN : Hid _ := hN
      clear hN hkc
      generalize wr = wo at *
      go_loopw [11] (fun t wr => ∃ i : Nat, i ≤ H ∧ t = .int .i64 i ∧ W3.grownBy wr (some N) ∧ wr.heap[N]? = some (.cells (vfs (hfP H xs v i)) 5 (0, 0))) (fun t _ => H - (intOf t).toNat)
      case atStart => exact ⟨0, by omega, rfl, World.grownBy.refl _ _, by rw [← hfP_zero]; exact B1.out⟩
      case round =>
        obtain ⟨i, hi, rfl, hgb, hs⟩ := hrel
        have HG : Hid _ := hgb
        have HS : Hid _ := hs
        have hBWx : Below wo.heap.size wo W3 := by rw [HN.out]; exact HBW.out
        have HBR : Hid (Below N wo wr) := by
          show Below N wo wr
          have := below_grown hBWx hgb (by rw [HN.out]; exact Nat.le_refl _)
          rwa [HN.out] at this
        have hBw : Below w.heap.size w wr := HB.out.trans (HBR.out.mono (by rw [← HN.out]; exact HB.out.size))
        have HBw : Hid _ := hBw
        by_cases hlti : i < H
        · have hm4 := HM4.out
          obtain ⟨q, hq⟩ : ∃ q, q = p + i := ⟨_, rfl⟩
          have hq' : (p : Int) + (i : Int) = (q : Int) := by omega
          have HQ : Hid (q = v * H + i) := by show _ = _; rw [hq, HP.out]
          have hqm : q ≤ 4096 := by omega
          clear hq
          by_cases hqn : q < n
          · obtain ⟨b', off, rfl, hbl, hcl⟩ := row8_cell HX.out (show q < xs.length by rw [← HXL.out]; exact hqn)
            have c1 := cell_later hBw (hcl q (by rw [← HXL.out]; exact hqn))
            have c2 : wr.cell? ⟨N, i, none⟩ = some (.int .u8 ((at8 (hfP H xs v i) i).toNat : Int)) := cellAt hs i _ (vfs_get _ _ (by rw [hfP_len]; exact hlti))
            have c3 : wr.frozen? ⟨N, i, none⟩ = false := frozen_of_row _ _ _ _ _ hs
            have HT : Hid ((wr.setCell ⟨N, i, none⟩ (.int .u8 ((at8 xs q).toNat : Int))).heap[N]? = some (.cells (vfs (hfP H xs v (i + 1))) 5 (0, 0))) := by
              show _ = _
              rw [heap_setCell_same _ _ _ _ _ _ hs, vfs_set, HQ.out, hfP_step hlti]
            clear hgb hs hBw hcl
            go_wp2
            exact ⟨⟨i + 1, by omega, by go_num, grownBy_setCell HG.out _, HT.out⟩, by simp [intOf]; omega⟩
          · have ho9 : hfP H xs v i = hfP H xs v (i + 1) := hfP_over (by rw [← HQ.out, ← HXL.out]; omega)
            rw [ho9] at HS
            clear hgb hs hBw ho9
            go_wp2
            exact ⟨⟨i + 1, by omega, by go_num, HG.out, HS.out⟩, by simp [intOf]; omega⟩
        · obtain rfl : i = H := by omega
          have ho4 := World.ownsRow.alloc (own_below HO.out (by rw [HN.out]; exact HBR.out)) (.cells #[.slice (some ⟨N, 0, none⟩) i i] 22)
          obtain ⟨g2, cap2, w2, hrun, ho2, hgr, hor, hlt2⟩ := appendS (b := wr.heap.size) (c := 1) (x := .slice (some ⟨N, 0, none⟩) i i) 25 ho4 (cellAt (heap_alloc_last wr (.cells #[.slice (some ⟨N, 0, none⟩) i i] 22)) 0 _ rfl) rfl (by omega) (by have := hBw.size; simp; omega)
          rw [slsV_snoc] at ho2
          have hb6 := below_own (B := w.heap.size) (hBw.alloc hBw.size (.cells #[.slice (some ⟨N, 0, none⟩) i i] 22)) ho4 hgr (by have := hBw.size; simp; omega)
          have hkeep : ∀ (g : Nat) (ys : List F), wr.heap[g]? = some (.cells (vfs ys) 5 (0, 0)) → w2.heap[g]? = some (.cells (vfs ys) 5 (0, 0)) := fun g ys h =>
            own_other ho4 hgr ((Below.heap_alloc _ _ _ (ltHeap h)).trans h) (by decide)
          have HROW : Hid (∀ (j g : Nat), (gs ++ [N])[j]? = some g → w2.heap[g]? = some (.cells (vfs (hf i xs j)) 5 (0, 0))) := fun j g hj => by
            by_cases hjv : j < v
            · rw [List.getElem?_append_left (by rw [HGS.out]; exact hjv)] at hj
              exact hkeep g _ (heap_later (HRO.out j g hj) (by rw [HN.out]; exact HBR.out))
            · have hj2 : j = v := by
                have := (List.getElem?_eq_some_iff.1 hj).1
                rw [List.length_append, HGS.out, List.length_singleton] at this
                omega
              subst hj2
              rw [List.getElem?_append_right (by rw [HGS.out]; exact Nat.le_refl _), HGS.out, Nat.sub_self] at hj
              obtain rfl := Option.some.inj hj
              exact hkeep _ _ (by rw [← hfP_done]; exact hs)
          have HLEN : Hid ((gs ++ [N]).length = v + 1) := by show _ = _; rw [List.length_append, HGS.out]; rfl
          have HRun : Hid _ := hrun
          have HO2 : Hid _ := ho2
          have HB6 : Hid _ := hb6
          clear hgb hs hBw ho4 hrun ho2 hb6 hgr hor hlt2 hkeep
          go_wp2_with (at_builtin; refine wpList_append_run rfl _ _ 25 rfl _ _ _ _ rfl rfl HRun.out ?_)
          exact ⟨⟨v + 1, gs ++ [N], by omega, by go_num, HLEN.out, HB6.out, HO2.out, HROW.out⟩, by simp [intOf]; omega⟩
    · obtain rfl : v = c := by omega
      have hfin : ∃ b cap, u8 = .slice b v cap ∧ Rows8 wr b ((List.range v).map (hf H xs)) := by
        rcases ho.2 with ⟨_, h0⟩ | ⟨g, cap, cur, e, hg⟩
        · omega
        · refine ⟨some ⟨g, 0, none⟩, cap, e, .inr ⟨g, 0, rfl, fun j ys hj => ?_⟩⟩
          have hjv : j < v := by have := (List.getElem?_eq_some_iff.1 hj).1; simpa using this
          rw [List.getElem?_map, List.getElem?_range hjv] at hj
          obtain rfl := Option.some.inj hj
          obtain ⟨g', hg'⟩ : ∃ g', gs[j]? = some g' := ⟨_, List.getElem?_eq_getElem (by rw [HGS.out]; exact hjv)⟩
          have hrow := HRO.out j g' hg'
          have hoe := ho
          rw [e] at hoe
          refine ⟨some ⟨g', 0, none⟩, H, ?_, row8_own hrow⟩
          rw [Nat.zero_add, hoe.cellAt j (by rw [Nat.mul_one]; exact hjv), hf_len]
          simp [slsV, hg']
      obtain ⟨b9, cap9, rfl, hr9⟩ := hfin
      have HR9 : Hid _ := hr9
      clear hr9 ho
      go_wp2
      go_ret2
      exact ⟨b9, v, cap9, H, rfl, HCC.out, by rw [← HCC.out]; exact HHH.out.symm, HR9.out, HB.out⟩
end Go.Proofs.YtmlpijlcpeoeaaaDoor

/- What the document's own Encode answers, of all numbers and lists of bytes; nothing that was there turns. -/
namespace Go.Proofs.YtmlpijlcpeoeaaaDoor
open Go.RowKit Gf
set_option linter.unusedVariables false
set_option maxRecDepth 20000
theorem rimage_F (k r h H l cap : Nat) (a : Option Addr) (L : List (List F)) (w : World) (h1 : 1 ≤ k) (h2 : 2 ≤ r) (h3 : k + r ≤ 16) (hh : h < 2 * (k + r)) (hH : H ≤ 64) (hl : 2 * k ≤ L.length) (hll : l = L.length) (hl9 : l ≤ 140737488355328) (hL : ∀ xs ∈ L, xs.length = H) (hR : Rows8 w a L) :
    Calls Tryd.prog 23 #[.int .i64 k, .int .i64 r, .int .i64 h, .slice a l cap, .int .i64 H] w fun e w' => ∃ g, e = .returned (.slice (some ⟨g, 0, none⟩) H H) ∧ w.heap.size ≤ g ∧
      w'.heap[g]? = some (.cells (vfs (imgL k (carN (groupN k r)) H (bytesD L) h)) 5 (0, 0)) ∧ Below w.heap.size w w' := by
  by_cases hk : h < 2 * k
  · have e : imgL k (carN (groupN k r)) H (bytesD L) h = rowF H (bytesD L h) := rowF_congr fun b _ => img_data hk b
    rw [e]
    exact rimage_data k r h H l cap a L w (by omega) hk hH hl hll hL hR
  · obtain ⟨i, p, hi, hp, e⟩ : ∃ i p, i < r ∧ p < 2 ∧ h = 2 * (k + i) + p := ⟨h / 2 - k, h % 2, by omega, by omega, by omega⟩
    rw [e]
    exact rimage_par k r i p H l cap a L w h1 h2 h3 hi hp hH hl hll hl9 hL hR
theorem rencode_illegal (k r : Int) (a : Option Addr) (la ca : Nat) (w : World) (hk0 : -9223372036854775808 ≤ k) (hk1 : k ≤ 9223372036854775807) (hr0 : -9223372036854775808 ≤ r) (hr1 : r ≤ 9223372036854775807) (h : ¬ LegalP k r) :
    Calls Tryd.prog 13 #[.int .i64 k, .int .i64 r, .slice a la ca] w fun e w' => e = .returned (.tuple #[.slice none 0 0, .int .i64 1]) ∧ w = w' := by
  have H : Hid _ := h
  clear h
  go_enter Tryd.func13, Tryd.ntmps13
  go_wp2_with fail
  refine Calls.mono (legal_no k r _ hk0 hk1 hr0 hr1 H.out) ?_
  rintro e w1 ⟨rfl, rfl⟩
  go_wp2_with fail
  go_ret2
  exact ⟨rfl, rfl⟩
theorem rencode_bad (k r : Nat) (a : Option Addr) (la ca : Nat) (w : World) (h1 : 1 ≤ k) (h2 : 2 ≤ r) (h3 : k + r ≤ 16) (h : halfE k la ≠ 0) :
    Calls Tryd.prog 13 #[.int .i64 k, .int .i64 r, .slice a la ca] w fun e w' => e = .returned (.tuple #[.slice none 0 0, .int .i64 (halfE k la)]) ∧ w = w' := by
  have HS : Hid _ := fun u => rsplit_bad k a la ca u h
  have h' : ((halfE k la : Int) != 0) = true := by simp only [bne_iff_ne, ne_eq]; omega
  generalize halfE k la = x at *
  clear h
  go_enter Tryd.func13, Tryd.ntmps13
  go_wp2_with fail
  refine Calls.mono (legal_yes k r _ h1 h2 h3) ?_
  rintro e w1 ⟨rfl, rfl⟩
  go_wp2_with fail
  refine Calls.mono (HS.out _) ?_
  rintro e w1 ⟨rfl, rfl⟩
  go_wp2_with fail
  go_ret2
  exact ⟨rfl, rfl⟩
set_option maxHeartbeats 4000000 in
theorem rencode_ok (k r n ca : Nat) (a : Option Addr) (xs : List F) (w : World) (h1 : 1 ≤ k) (h2 : 2 ≤ r) (h3 : k + r ≤ 16) (h4 : 1 ≤ n) (h5 : n ≤ 128 * k) (hn : n = xs.length) (hx : Row8 w a xs) :
    Calls Tryd.prog 13 #[.int .i64 k, .int .i64 r, .slice a n ca] w fun e w' => ∃ b c cap H, e = .returned (.tuple #[.slice b c cap, .int .i64 0]) ∧ c = 2 * (k + r) ∧ H = cntN (2 * k) n ∧ Rows8 w' b (encL k r H xs) ∧ Below w.heap.size w w' := by
  have HS : Hid _ := rsplit_ok k n ca a xs w h1 (by omega) h4 h5 hn hx
  obtain ⟨k1, k2, _, _⟩ := cnt_half h1 (show k ≤ 14 by omega) h4 h5
  obtain ⟨c, hc⟩ : ∃ c, c = 2 * (k + r) := ⟨_, rfl⟩
  have HKC : Hid ((2 : Int) * ((k : Int) + r) = c) := by show _ = _; omega
  have HCC : Hid _ := hc
  have hc32 : c ≤ 32 := by omega
  clear hn hx hc h5
  go_enter Tryd.func13, Tryd.ntmps13
  go_wp2_with fail
  refine Calls.mono (legal_yes k r _ h1 h2 h3) ?_
  rintro e w1 ⟨rfl, rfl⟩
  go_wp2_with fail
  refine Calls.mono HS.out ?_
  rintro e w2 ⟨b2, c2, cap2, H, rfl, hc2, hH, hr2, hb⟩
  have HC2 : Hid _ := hc2
  have HHH : Hid _ := hH
  have HB2 : Hid _ := hb
  have HR2 : Hid _ := hr2
  have kH : H ≤ 64 := by rw [hH]; exact k2
  have hc20 : 0 < c2 := by omega
  have HIM : Hid (∀ (h : Nat) (u : World), h < c → Below w2.heap.size w2 u → Calls Tryd.prog 23 #[.int .i64 k, .int .i64 r, .int .i64 h, .slice b2 c2 cap2, .int .i64 H] u fun e w' => ∃ g, e = .returned (.slice (some ⟨g, 0, none⟩) H H) ∧ u.heap.size ≤ g ∧
      w'.heap[g]? = some (.cells (vfs (imgL k (carN (groupN k r)) H (strD H xs) h)) 5 (0, 0)) ∧ Below u.heap.size u w') := fun h u hh hu => by
    have := rimage_F k r h H c2 cap2 b2 ((List.range c2).map (hf H xs)) u h1 h2 h3 (by rw [← HCC.out]; exact hh) kH (by simp; omega) (by simp) (by omega) (fun ys hy => by obtain ⟨v, _, rfl⟩ := List.mem_map.1 hy; exact hf_len _ _ _) (rows8_below hr2 hu)
    rwa [img_stripe (by omega)] at this
  obtain ⟨bL, off, rfl, hbL, hcl⟩ := rows8_at hr2 (show 0 < ((List.range c2).map (hf H xs)).length by simp; omega)
  obtain ⟨a0, cap0, e0, _⟩ := hcl 0 (hf H xs 0) (by rw [List.getElem?_map, List.getElem?_range hc20]; rfl)
  rw [hf_len, Nat.add_zero] at e0
  have HE0 : Hid _ := e0
  clear hc2 hH hb hr2 hcl e0
  go_wp2
  have hown : (w2.alloc (.cells #[] 22)).ownsRow w2.heap.size 22 1 (.slice (some ⟨w2.heap.size, 0, none⟩) 0 0) 0 (slsV H []) := ⟨rfl, .inr ⟨w2.heap.size, 0, #[], rfl, Nat.le_refl _, heap_alloc_last _ _, by simp, by simp [maxLen], rfl, rfl⟩⟩
  go_loopw [10, 11] (fun s t wr => ∃ v : Nat, ∃ gs : List Nat, v ≤ c ∧ t = .int .i64 v ∧ gs.length = v ∧ Below w2.heap.size w2 wr ∧ wr.ownsRow w2.heap.size 22 1 s v (slsV H gs) ∧ ∀ (j g : Nat), gs[j]? = some g → wr.heap[g]? = some (.cells (vfs (imgL k (carN (groupN k r)) H (strD H xs) j)) 5 (0, 0))) (fun _ t _ => c - (intOf t).toNat)
  case atStart => exact ⟨0, [], by omega, rfl, rfl, (Below.refl _ _).alloc (Nat.le_refl _) _, hown, fun j g h => by simp at h⟩
  case round =>
    obtain ⟨v, gs, hv, rfl, hgs, hb2, ho, hrows⟩ := hrel
    have HGS : Hid _ := hgs
    have HBR : Hid _ := hb2
    have HO : Hid _ := ho
    have HRO : Hid _ := hrows
    have hkc := HKC.out
    have c1 := cell_later hb2 HE0.out
    clear hgs hb2 hrows hown
    by_cases hlt : v < c
    · clear ho
      go_wp2_with fail
      refine Calls.mono (HIM.out v _ hlt HBR.out) ?_
      rintro e w3 ⟨N, rfl, hN, hh3, hb3⟩
      have hbR : Below w2.heap.size w2 w3 := HBR.out.trans (hb3.mono HBR.out.size)
      have ho4 := World.ownsRow.alloc (own_below HO.out hb3) (.cells #[.slice (some ⟨N, 0, none⟩) H H] 22)
      obtain ⟨g2, capG, w4, hrun, ho2, hgr, hor, hlt2⟩ := appendS (b := w3.heap.size) (c := 1) (x := .slice (some ⟨N, 0, none⟩) H H) 25 ho4 (cellAt (heap_alloc_last w3 (.cells #[.slice (some ⟨N, 0, none⟩) H H] 22)) 0 _ rfl) rfl (by omega) (by have := hbR.size; simp; omega)
      rw [slsV_snoc] at ho2
      have hb6 := below_own (B := w2.heap.size) (hbR.alloc hbR.size (.cells #[.slice (some ⟨N, 0, none⟩) H H] 22)) ho4 hgr (by have := hbR.size; simp; omega)
      have hkeep : ∀ (g : Nat) (ys : List F), w3.heap[g]? = some (.cells (vfs ys) 5 (0, 0)) → w4.heap[g]? = some (.cells (vfs ys) 5 (0, 0)) := fun g ys h =>
        own_other ho4 hgr ((Below.heap_alloc _ _ _ (ltHeap h)).trans h) (by decide)
      have HROW : Hid (∀ (j g : Nat), (gs ++ [N])[j]? = some g → w4.heap[g]? = some (.cells (vfs (imgL k (carN (groupN k r)) H (strD H xs) j)) 5 (0, 0))) := fun j g hj => by
        by_cases hjv : j < v
        · rw [List.getElem?_append_left (by rw [HGS.out]; exact hjv)] at hj
          exact hkeep g _ (heap_later (HRO.out j g hj) hb3)
        · have hj2 : j = v := by
            have := (List.getElem?_eq_some_iff.1 hj).1
            rw [List.length_append, HGS.out, List.length_singleton] at this
            omega
          subst hj2
          rw [List.getElem?_append_right (by rw [HGS.out]; exact Nat.le_refl _), HGS.out, Nat.sub_self] at hj
          obtain rfl := Option.some.inj hj
          exact hkeep _ _ hh3
      have HLEN : Hid ((gs ++ [N]).length = v + 1) := by show _ = _; rw [List.length_append, HGS.out]; rfl
      have HRun : Hid _ := hrun
      have HO2 : Hid _ := ho2
      have HB6 : Hid _ := hb6
      clear hbR ho4 hrun ho2 hb6 hgr hor hlt2 hkeep hb3 hh3 c1
      go_wp2_with (at_builtin; refine wpList_append_run rfl _ _ 25 rfl _ _ _ _ rfl rfl HRun.out ?_)
      exact ⟨⟨v + 1, gs ++ [N], by omega, by go_num, HLEN.out, HB6.out, HO2.out, HROW.out⟩, by simp [intOf]; omega⟩
    · obtain rfl : v = c := by omega
      have hfin : ∃ b cap, u10 = .slice b v cap ∧ Rows8 wr b (encL k r H xs) := by
        rcases ho.2 with ⟨_, h0⟩ | ⟨g, cap, cur, e, hg⟩
        · have := HCC.out; omega
        · refine ⟨some ⟨g, 0, none⟩, cap, e, .inr ⟨g, 0, rfl, fun j ys hj => ?_⟩⟩
          have hjv : j < v := by have := (List.getElem?_eq_some_iff.1 hj).1; rw [encL_len] at this; rw [HCC.out]; exact this
          rw [encL_at (by rw [← HCC.out]; exact hjv)] at hj
          obtain rfl := Option.some.inj hj
          obtain ⟨g', hg'⟩ : ∃ g', gs[j]? = some g' := ⟨_, List.getElem?_eq_getElem (by rw [HGS.out]; exact hjv)⟩
          have hrow := HRO.out j g' hg'
          have hoe := ho
          rw [e] at hoe
          refine ⟨some ⟨g', 0, none⟩, H, ?_, row8_own hrow⟩
          rw [Nat.zero_add, hoe.cellAt j (by rw [Nat.mul_one]; exact hjv), imgL_len]
          simp [slsV, hg']
      obtain ⟨b9, cap9, rfl, hr9⟩ := hfin
      have HR9 : Hid _ := hr9
      clear hr9 ho c1
      go_wp2
      go_ret2
      exact ⟨b9, v, cap9, H, rfl, HCC.out, HHH.out, HR9.out, HB2.out.trans (HBR.out.mono HB2.out.size)⟩
end Go.Proofs.YtmlpijlcpeoeaaaDoor

/- The document's own answers for elimination: a matrix's span, what is a combination, the rank. -/
namespace Go.Proofs.YtmlpijlcpeoeaaaDoor
open Go.RowKit Gf
set_option linter.unusedVariables false
set_option maxRecDepth 20000
set_option maxHeartbeats 4000000 in
theorem rexpress_F (A : Mt) (B SB c n t : Nat) (vR vM vF vB : Value) (fr fm : Nat → Option Addr × Nat) (V : Mt) (Ms : Nat → List F) (f bs : List Nat) (a : Option Addr) (l cap : Nat) (xs : List F) (w : World)
    (hS : SpanW w B SB c n t t t t vR vM vF vB fr fm V Ms f bs) (hSO : SpanOf A c n t V (madeF Ms) (f.getD · 0)) (hc : c ≤ 64) (hn : n ≤ 64) (hl : l = c) (hx : xs.length = c) (hX : Row8 w a xs) (hnil : a = none → cap = 0) :
    Calls Tryd.prog 64 #[.pointer (some ⟨SB, 0, none⟩), .slice a l cap] w fun e w' =>
      (∃ g x, e = .returned (.tuple #[.slice (some ⟨g, 0, none⟩) n n, .bool true]) ∧ w.heap.size ≤ g ∧ w'.heap[g]? = some (.cells (vfs (rowF n x)) 5 (0, 0)) ∧ SolOf (tr A) c n (at8 xs) x ∧ Below w.heap.size w w') ∨
      (e = .returned (.tuple #[.slice none 0 0, .bool false]) ∧ ¬ Dep (tr A) c n (at8 xs) ∧ Below w.heap.size w w') := by
  have ht : t ≤ n := by rw [hSO.len]; exact pivL_le _ _ _
  have HSO : Hid _ := hSO
  have HS : Hid _ := hS
  have HR : Hid _ := rest_F B SB c n t vR vM vF vB fr fm V Ms f bs a l cap xs w hS hc hn (by omega) hSO.lt hl hx hX hnil
  clear hS hSO hl hx hX hnil
  go_enter Tryd.func64, Tryd.ntmps64
  go_wp2_with fail
  refine Calls.mono HR.out ?_
  rintro e w1 ⟨g1, cap1, g2, cap2, rfl, hw, hu, hg1, hg2, hb⟩
  generalize hWW : wN V (f.getD · 0) (at8 xs) t = WW at *
  generalize hUU : uN V (madeF Ms) (f.getD · 0) (at8 xs) t = UU at *
  have HWW : Hid _ := hWW
  have HUU : Hid _ := hUU
  have HS1 : Hid _ := HS.out.below hb
  have HB1 : Hid _ := hb
  have HW1 : Hid _ := hw
  have HU1 : Hid _ := hu
  clear hWW hUU hb hu HR HS
  go_wp2
  go_loopw [19] (fun i wr => ∃ k : Nat, k ≤ c ∧ i = .int .i64 k ∧ wr = w1 ∧ ∀ j, j < k → WW j = 0) (fun i _ => c - (intOf i).toNat)
  case atStart => exact ⟨0, by omega, rfl, rfl, fun j h => by omega⟩
  case round =>
    obtain ⟨k, hk, rfl, rfl, hz⟩ := hrel
    have HZ : Hid _ := hz
    clear hz
    by_cases hlt : k < c
    · have c1 := (has8_cell hw (j := k) (by rw [rowF_len]; exact hlt)).1
      rw [at8_rowF hlt] at c1
      by_cases hzero : WW k = 0
      · rw [hzero] at c1
        clear hw
        go_wp2
        exact ⟨⟨k + 1, by omega, by go_num, by first | rfl | trivial, fun j hj => by
          by_cases e : j = k
          · rw [e]; exact hzero
          · exact HZ.out j (by omega)⟩, by simp [intOf]; omega⟩
      · have hnz : ((WW k).toNat : Int) ≠ 0 := by
          intro e; exact hzero (F.val_eq_zero.1 (by omega))
        clear hw
        go_wp2
        exact bodyPost_ret (v := .tuple #[.slice none 0 0, .bool false]) (by simp [results, Tryd.results64, go_sem]) rfl (.inr ⟨rfl, fun hd => hzero (by rw [← HWW.out]; exact HSO.out.rest_zero hd k hlt), HB1.out⟩)
    · obtain rfl : k = c := by omega
      have c1 := cellAt HS1.out.box 4 _ rfl
      have hmk := run_make8 n (by omega)
      have hcp := run_copy8 wr.heap.size n n (some ⟨g2, 0, none⟩) n cap2 (zeros n) (rowF n UU) (wr.alloc (.cells (vfs (zeros n)) 5)) 3 (zeros_len _).symm (rowF_len _ _).symm (by rw [rowF_len, zeros_len]; exact Nat.le_refl _) (heap_alloc_last wr _) (row8_alloc (row8_has HU1.out) _)
      have e1 : rowF n UU ++ (zeros n).drop (rowF n UU).length = rowF n UU := by
        rw [rowF_len, zeros_drop, Nat.sub_self]; simp [zeros]
      rw [e1, World.setRow_alloc_new] at hcp
      have HCP : Hid _ := hcp
      have HM : Hid _ := heap_alloc_last wr (.cells (vfs (rowF n UU)) 5)
      have HB2 : Hid (Below w.heap.size w (wr.alloc (.cells (vfs (rowF n UU)) 5))) := HB1.out.alloc HB1.out.size _
      have hsz := HB1.out.size
      have hcp := HCP.out
      clear hw e1
      go_wp2
      refine bodyPost_ret (v := .tuple #[.slice (some ⟨wr.heap.size, 0, none⟩) n n, .bool true]) (by simp [results, Tryd.results64, go_sem]) rfl (.inl ⟨wr.heap.size, UU, rfl, hsz, HM.out, ⟨fun j hj => ?_, fun l hl hn => ?_⟩, HB2.out⟩)
      · rw [← HUU.out]
        exact HSO.out.rest_dep (fun j hj => by rw [HWW.out]; exact HZ.out j hj) j hj
      · rw [← HUU.out]
        exact HSO.out.offs (at8 xs) t (Nat.le_refl _) l hl hn
/-- the rows of a matrix as lists' cells: 0 behind their end -/
def rowsF (c : Nat) (xs : List F) : Mt := fun i => at8 (rowAt c xs i)
theorem rowsF_cell {c : Nat} {xs : List F} {i j : Nat} (hj : j < c) : rowsF c xs i j = cellF c xs i j := at8_rowAt hj
theorem tr_rowsF {c r : Nat} {xs : List F} : ∀ i, i < c → ∀ j, j < r → tr (rowsF c xs) i j = tr (cellF c xs) i j := fun i hi j _ => rowsF_cell hi
set_option maxHeartbeats 4000000 in
theorem rof_F (r c l cap : Nat) (a : Option Addr) (xs : List F) (w : World) (hr : r ≤ 64) (hc : c ≤ 64) (hl : l = r * c) (hx : xs.length = r * c) (hcap : l ≤ cap) (hX : Row8 w a xs) (hnil : a = none → cap = 0) :
    Calls Tryd.prog 63 #[.agg #[.int .i64 r, .int .i64 c, .slice a l cap]] w fun e w' => ∃ SB t vR vM vF vB fr fm V Ms f, e = .returned (.pointer (some ⟨SB, 0, none⟩)) ∧ w.heap.size ≤ SB ∧
      SpanW w' w.heap.size SB c r t t t t vR vM vF vB fr fm V Ms f (pivL (tr (rowsF c xs)) c r) ∧ SpanOf (rowsF c xs) c r t V (madeF Ms) (f.getD · 0) ∧ Below w.heap.size w w' := by
  have HL : Hid _ := hl
  have HX : Hid _ := hx
  have HRX : Hid (Row8 w a xs) := hX
  have HNA : Hid _ := hnil
  have hA := holds_new (holds_new (holds_nil w) #[.int .i64 r, .int .i64 c, .slice a l cap] 65) #[.int .i64 c, .slice none 0 0, .slice none 0 0, .slice none 0 0, .int .i64 0, .slice none 0 0] 121
  rw [World.size_alloc] at hA
  have HA : Hid _ := hA
  have hB : Below w.heap.size w ((w.alloc (.cells #[.int .i64 r, .int .i64 c, .slice a l cap] 65)).alloc (.cells #[.int .i64 c, .slice none 0 0, .slice none 0 0, .slice none 0 0, .int .i64 0, .slice none 0 0] 121)) := ((Below.refl w.heap.size w).alloc (Nat.le_refl _) _).alloc (by simp) _
  have HB : Hid _ := hB
  clear hl hx hX hnil hA hB
  go_enter Tryd.func63, Tryd.ntmps63
  go_wp2
  generalize hW0 : ((w.alloc (.cells #[.int .i64 r, .int .i64 c, .slice a l cap] 65)).alloc (.cells #[.int .i64 c, .slice none 0 0, .slice none 0 0, .slice none 0 0, .int .i64 0, .slice none 0 0] 121)) = W0 at *
  clear hW0
  go_loopw [4] (fun i wr => ∃ k : Nat, k ≤ r ∧ i = .int .i64 k ∧ wr.heap[w.heap.size]? = some (.cells #[.int .i64 r, .int .i64 c, .slice a l cap] 65 (0, 0)) ∧ Below w.heap.size w wr ∧ Below (w.heap.size + 1) W0 wr ∧ ∃ t vR vM vF vB fr fm V Ms f,
    SpanW wr (w.heap.size + 1) (w.heap.size + 1) c k t t t t vR vM vF vB fr fm V Ms f (pivL (tr (rowsF c xs)) c k) ∧ SpanOf (rowsF c xs) c k t V (madeF Ms) (f.getD · 0)) (fun i _ => r - (intOf i).toNat)
  case atStart =>
    refine ⟨0, by omega, rfl, holds_at HA.out 1 rfl, HB.out, Below.refl _ _, 0, _, _, _, _, fun _ => (none, 0), fun _ => (none, 0), fun _ _ => 0, fun _ => [], [], ⟨holds_at HA.out 0 rfl, ⟨rfl, .inl ⟨rfl, rfl⟩⟩, ⟨rfl, .inl ⟨rfl, rfl⟩⟩, ⟨rfl, .inl ⟨rfl, rfl⟩⟩, ⟨by simp [pivL, natV], .inl ⟨rfl, rfl⟩⟩, rfl, by simp [pivL], fun i h => by omega, fun i h => by omega, fun i h => by omega, .inl rfl, .inl rfl, .inl rfl, .inl rfl⟩, SpanOf.start _ _ _ _ _⟩
  case round =>
    obtain ⟨k, hk, rfl, hbox, hbw, hb0, t, vR, vM, vF, vB, fr, fm, V, Ms, f, hsp, hso⟩ := hrel
    have c1 := cellAt hbox 0 _ rfl
    have HBOX : Hid _ := hbox
    have HBW : Hid _ := hbw
    have HB0 : Hid _ := hb0
    have HSP : Hid _ := hsp
    have HSO : Hid _ := hso
    have hsz := hsp.box
    have zz := ltHeap hsz
    clear hbox hbw hb0 hsp hso hsz
    by_cases hlt : k < r
    · have c2 := cellAt HBOX.out 1 _ rfl
      have c3 := cellAt HBOX.out 2 _ rfl
      go_wp2_with fail
      refine Calls.mono (rrow_F r c k l cap a xs _ hr hc hlt HL.out HX.out hcap (row8_below HRX.out HBW.out) HNA.out) ?_
      rintro e w2 ⟨g2, cap2, rfl, hg2, hh2, hb2⟩
      have hS2 := HSP.out.below hb2
      have HS2 : Hid _ := hS2
      have HBX2 : Hid _ := heap_later HBOX.out hb2
      have HB2 : Hid _ := hb2
      have HH2 : Hid _ := row8_has hh2
      have hsz2 := hb2.size
      have HRL : Hid ((rowAt c xs k).length = c) := rowAt_len HX.out hlt
      clear hS2 hb2 hh2 c1 c2 c3
      go_wp2_with fail
      refine Calls.mono (radd_F (rowsF c xs) (w.heap.size + 1) (w.heap.size + 1) c k t vR vM vF vB fr fm V Ms f (some ⟨g2, 0, none⟩) cap2 (rowAt c xs k) _ HS2.out HSO.out rfl hc (by omega) HRL.out HH2.out (fun h => by cases h) (by omega) (Nat.le_refl _)) ?_
      rintro e w3 ⟨rfl, hb3, t', vR', vM', vF', vB', fr', fm', V', Ms', f', hsp3, hso3⟩
      have HB3 : Hid (Below w.heap.size w w3) := (HBW.out.trans (HB2.out.mono HBW.out.size)).trans (hb3.mono (by omega))
      have HB03 : Hid (Below (w.heap.size + 1) W0 w3) := (HB0.out.trans (HB2.out.mono (by omega))).trans hb3
      have HBX3 : Hid _ := (hb3.block w.heap.size (by omega)).trans HBX2.out
      have HSP3 : Hid _ := hsp3
      have HSO3 : Hid _ := hso3
      clear hb3 hsp3 hso3
      go_wp2
      exact ⟨⟨k + 1, by omega, by go_num, HBX3.out, HB3.out, HB03.out, t', vR', vM', vF', vB', fr', fm', V', Ms', f', HSP3.out, HSO3.out⟩, by simp [intOf]; omega⟩
    · obtain rfl : k = r := by omega
      go_wp2
      go_ret
      have h := HSP.out
      exact ⟨w.heap.size + 1, t, vR, vM, vF, vB, fr, fm, V, Ms, f, rfl, by omega, ⟨h.box, own_lower h.rows (by omega), own_lower h.made (by omega), own_lower h.firsts (by omega), own_lower h.basis (by omega), h.fl, h.bl, h.rowT, h.madeT, h.ml, h.ne1, h.ne2, h.ne3, h.ne4⟩, HSO.out, HBW.out⟩
end Go.Proofs.YtmlpijlcpeoeaaaDoor

/- What the document's own Row of package half's chapter answers, of all legal numbers; nothing that was there turns. -/
namespace Go.Proofs.YtmlpijlcpeoeaaaDoor
open Go.RowKit Gf
set_option linter.unusedVariables false
set_option maxRecDepth 20000
theorem half_unit {k c s p : Nat} {car : Nat → Nat} (hc : c = 2 * k) (hs : s < k) (hp : p < 2) : (zeros c).set (2 * s + p) 1 = rowF c (halfF k car (2 * s + p)) := by
  rw [colP_zero c (halfF k car (2 * s + p)), colP, rowF_set]
  refine rowF_congr fun v hv => ?_
  by_cases e : v = 2 * s + p
  · rw [if_pos e, e]
    unfold halfF
    rw [if_pos rfl, show (2 * s + p) / 2 = s by omega, genF, if_pos hs, if_pos rfl]
  · rw [if_neg e, if_neg (Nat.not_lt_zero v)]
    simp only [halfF]
    rw [show (2 * s + p) / 2 = s by omega]
    by_cases h2 : v % 2 = (2 * s + p) % 2
    · rw [if_pos h2, genF, if_pos hs, if_neg (by omega)]
    · rw [if_neg h2, if_neg (by omega)]
set_option maxHeartbeats 4000000 in
theorem rrow_unit (k r h s p : Nat) (w : World) (h1 : 1 ≤ k) (h2 : 2 ≤ r) (h3 : k + r ≤ 16) (hh : h = 2 * s + p) (hp : p < 2) (hs : s < k) :
    Calls Tryd.prog 62 #[.int .i64 k, .int .i64 r, .int .i64 h] w fun e w' => ∃ g n, e = .returned (.slice (some ⟨g, 0, none⟩) n n) ∧ n = 2 * k ∧ w.heap.size ≤ g ∧
      w'.heap[g]? = some (.cells (vfs (rowF (2 * k) (halfF k (carN (groupN k r)) h))) 5 (0, 0)) ∧ Below w.heap.size w w' := by
  obtain ⟨c, hc⟩ : ∃ c, c = 2 * k := ⟨_, rfl⟩
  have ec : (2 : Int) * (k : Int) = c := by omega
  have hu := half_unit (car := carN (groupN k r)) hc hs hp
  rw [← hc, hh]
  rw [← hh]
  rw [← hh] at hu
  have HU : Hid _ := hu
  have e1 : (h : Int) / 2 = s := by omega
  have e2 : (h : Int) % 2 = p := by omega
  have hlt : h < c := by omega
  have hc32 : c ≤ 32 := by omega
  have hmk := run_make8 c (by omega)
  have HH : Hid _ := hh
  clear hc hu hh
  go_enter Tryd.func62, Tryd.ntmps62
  have B1 := heap_alloc_last w (.cells (vfs (zeros c)) 5)
  have HB : Hid _ := (Below.refl w.heap.size w).alloc (Nat.le_refl _) (.cells (vfs (zeros c)) 5)
  have c5 := cellAt B1 h _ (vfs_get _ _ (by rw [zeros_len]; exact hlt))
  have c6 := frozen_of_row _ w.heap.size h _ _ B1
  have HB1 : Hid _ := B1
  clear B1
  go_wp2
  go_ret
  refine ⟨w.heap.size, c, rfl, rfl, Nat.le_refl _, ?_, (Below.refl w.heap.size w).alloc (Nat.le_refl _) _⟩
  rw [← HU.out, ← vfs_set]
  exact heap_alloc_last w _
theorem parM_at {k r i j : Nat} (hi : i < r) (hj : j < k) : at8 (parM k r) (i * k + j) = cyN (k + i) j := at8_grid hi hj
theorem half_even {k h i q p : Nat} {car : Nat → Nat} (hh : h = 2 * (k + i) + p) (hp : p < 2) : halfF k car h (2 * q + p) = cyN (k + i) q := by
  simp only [halfF]
  rw [if_pos (by omega), show h / 2 = k + i by omega, show (2 * q + p) / 2 = q by omega, genF, if_neg (by omega)]
theorem half_odd {k h i q : Nat} {car : Nat → Nat} (hh : h = 2 * (k + i)) : halfF k car h (2 * q + 1) = 0 := by
  simp only [halfF]
  rw [if_neg (by omega), if_neg (by omega)]
theorem half_car {k h i q : Nat} {car : Nat → Nat} (hh : h = 2 * (k + i) + 1) : halfF k car h (2 * q) = if car q = i then 1 else 0 := by
  simp only [halfF]
  rw [if_neg (by omega), show h / 2 = k + i by omega, show 2 * q / 2 = q by omega]
  by_cases e : car q = i
  · rw [if_pos e, if_pos ⟨by omega, by omega, by omega⟩]
  · rw [if_neg e, if_neg (fun h => e (by omega))]
theorem colP_at {r j : Nat} {f : Nat → F} (h : j < r) (k : Nat) (hk : k ≤ j) : at8 (colP r f k) j = 0 := by
  rw [colP, at8_rowF h, if_neg (by omega)]
set_option maxHeartbeats 4000000 in
theorem rrow_0 (k r h i : Nat) (w : World) (h1 : 1 ≤ k) (h2 : 2 ≤ r) (h3 : k + r ≤ 16) (hh : h = 2 * (k + i) + 0) (hi : i < r) :
    Calls Tryd.prog 62 #[.int .i64 k, .int .i64 r, .int .i64 h] w fun e w' => ∃ g n, e = .returned (.slice (some ⟨g, 0, none⟩) n n) ∧ n = 2 * k ∧ w.heap.size ≤ g ∧
      w'.heap[g]? = some (.cells (vfs (rowF (2 * k) (halfF k (carN (groupN k r)) h))) 5 (0, 0)) ∧ Below w.heap.size w w' := by
  obtain ⟨c, hc⟩ : ∃ c, c = 2 * k := ⟨_, rfl⟩
  have ec : (2 : Int) * (k : Int) = c := by omega
  have HCA : Hid _ := fun j w (hj : j ≤ 1000) => rcarrier_F k r j w h1 h2 h3 hj
  generalize carN (groupN k r) = car at *
  rw [← hc]
  obtain ⟨s, hs⟩ : ∃ s, s = k + i := ⟨_, rfl⟩
  have e1 : (h : Int) / 2 = s := by omega
  have e2 : (h : Int) % 2 = 0 := by omega
  have e3 : (s : Int) - k = i := by omega
  have hks : (k : Int) ≤ s := by omega
  have hs16 : s ≤ 16 := by omega
  have hh33 : h ≤ 33 := by omega
  obtain ⟨ik, hik⟩ : ∃ ik, ik = i * k := ⟨_, rfl⟩
  have e4 : (i : Int) * k = ik := by rw [hik]; simp
  have hik2 : ik + k ≤ 256 := by
    have h4 := Nat.mul_le_mul (show i + 1 ≤ 16 by omega) (show k ≤ 16 by omega)
    rw [Nat.succ_mul] at h4; omega
  have hikr : ik + k ≤ r * k := by
    have h4 := Nat.mul_le_mul_right k (show i + 1 ≤ r by omega)
    rw [Nat.succ_mul] at h4; omega
  have hc32 : c ≤ 32 := by omega
  have hmk := run_make8 c (by omega)
  have HH : Hid _ := hh
  have HC : Hid _ := hc
  have HIK : Hid _ := hik
  have HIKR : Hid _ := hikr
  have HI : Hid _ := hi
  clear hc hh hs hik hikr hi
  go_enter Tryd.func62, Tryd.ntmps62
  go_wp2_with fail
  have B1 := heap_alloc_last w (.cells (vfs (zeros c)) 5)
  have HB : Hid _ := (Below.refl w.heap.size w).alloc (Nat.le_refl _) (.cells (vfs (zeros c)) 5)
  have HA : Hid (Holds (w.alloc (.cells (vfs (zeros c)) 5)) [(w.heap.size, .cells (vfs (zeros c)) 5 (0, 0))]) := holds_cons (holds_nil _) B1
  clear B1
  refine Calls.mono (rparity_F k r _ h1 h2 h3) ?_
  rintro e w2 ⟨g, m, rfl, hm, hg, hh2, hb2⟩
  have HA2 : Hid _ := holds_new (holds_cons (holds_later HA.out hb2) hh2) #[.int .i64 r, .int .i64 k, .slice (some ⟨g, 0, none⟩) m m] 65
  have hB2 := HB.out.trans (hb2.mono HB.out.size)
  have HB2 : Hid _ := hB2.alloc hB2.size (.cells #[.int .i64 r, .int .i64 k, .slice (some ⟨g, 0, none⟩) m m] 65)
  have HM : Hid _ := hm
  have hz := hB2.size
  have HGN : Hid (w.heap.size < g) := by simp only [World.size_alloc] at hg; exact hg
  clear hb2 hh2 hm hB2 HA HB hmk hg
  go_wp2
  generalize hMM : w2.heap.size = M at *
  generalize (w2.alloc (.cells #[.int .i64 r, .int .i64 k, .slice (some ⟨g, 0, none⟩) m m] 65)) = W3 at *
  clear hMM
  obtain ⟨f, hf⟩ : ∃ f, f = halfF k car h := ⟨_, rfl⟩
  have HF : Hid _ := hf
  clear hf
  go_loopw [11] (fun v wr => ∃ j : Nat, j ≤ k ∧ v = .int .i64 j ∧ Below w.heap.size w wr ∧ Holds wr [(M, .cells #[.int .i64 r, .int .i64 k, .slice (some ⟨g, 0, none⟩) m m] 65 (0, 0)), (g, .cells (vfs (parM k r)) 5 (0, 0)), (w.heap.size, .cells (vfs (colP c f (2 * j))) 5 (0, 0))]) (fun v _ => k - (intOf v).toNat)
  case atStart => exact ⟨0, by omega, rfl, HB2.out, by rw [Nat.mul_zero, ← colP_zero]; exact HA2.out⟩
  case round =>
    obtain ⟨j, hj, rfl, hb, hh⟩ := hrel
    have HB : Hid _ := hb
    have HH1 : Hid _ := hh
    clear hb hh
    by_cases hlt : j < k
    · have c1 := cellAt (holds_at HH1.out 0 rfl) 2 _ rfl
      have hjc : 2 * j < c := by have := HC.out; omega
      have c2 := cellAt (holds_at HH1.out 2 rfl) (2 * j) _ (vfs_get _ _ (by rw [colP_len]; exact hjc))
      rw [colP_at hjc (2 * j) (by omega)] at c2
      have hc2 : (((0 : F).toNat : Nat) : Int) = 0 := rfl
      rw [hc2] at c2
      have c3 := frozen_of_row _ w.heap.size (2 * j) _ _ (holds_at HH1.out 2 rfl)
      have hpa : at8 (parM k r) (ik + j) = cyN (k + i) j := by rw [HIK.out]; exact parM_at HI.out hlt
      have c4 := cellAt (holds_at HH1.out 1 rfl) (ik + j) _ (vfs_get _ _ (by have := HIKR.out; rw [parM_len]; omega))
      rw [hpa] at c4
      have hx := xor_val 0 (cyN (k + i) j)
      rw [hc2, show ga 0 (cyN (k + i) j) = cyN (k + i) j from F.zero_add _] at hx
      have hfo : f (2 * j) = cyN (k + i) j := by rw [HF.out]; exact half_even (q := j) HH.out (by decide)
      rw [← hfo] at c4 hx
      have HFO : Hid _ := hfo
      clear hpa hc2 hfo
      have hjm : ik + j < m := by have := HIKR.out; rw [HM.out]; omega
      go_upto_region 10 with fail
      go_region
      have hL : (colP c f (2 * j)).set (2 * j) (f (2 * j)) = colP c f (2 * (j + 1)) := by
        rw [colP_step, colP_skip (by rw [HF.out]; exact half_odd HH.out)]
        rfl
      have k1 : (wr.setCell ⟨w.heap.size, 2 * j, none⟩ (.int .u8 ((f (2 * j)).toNat : Int))).drew.heap[w.heap.size]? = some (.cells (vfs (colP c f (2 * (j + 1)))) 5 (0, 0)) := by
        rw [← hL, ← vfs_set]
        exact heap_setCell_same _ _ _ _ _ _ (holds_at HH1.out 2 rfl)
      have kA : (wr.setCell ⟨w.heap.size, 2 * j, none⟩ (.int .u8 ((f (2 * j)).toNat : Int))).drew.heap[M]? = some (.cells #[.int .i64 r, .int .i64 k, .slice (some ⟨g, 0, none⟩) m m] 65 (0, 0)) := (heap_setCell_other _ _ _ _ (hkind_ne (holds_at HH1.out 0 rfl) (holds_at HH1.out 2 rfl) (by decide))).trans (holds_at HH1.out 0 rfl)
      have kG : (wr.setCell ⟨w.heap.size, 2 * j, none⟩ (.int .u8 ((f (2 * j)).toNat : Int))).drew.heap[g]? = some (.cells (vfs (parM k r)) 5 (0, 0)) := (heap_setCell_other _ _ _ _ (by have := HGN.out; show g ≠ w.heap.size; omega)).trans (holds_at HH1.out 1 rfl)
      have HBx : Hid _ := (HB.out.setCell (p := ⟨w.heap.size, 2 * j, none⟩) (Nat.le_refl _) (.int .u8 ((f (2 * j)).toNat : Int))).drew
      have HHx : Hid _ := holds_cons (holds_cons (holds_cons (holds_nil _) k1) kG) kA
      clear k1 kA kG c1 c2 c3 c4 hx
      generalize (wr.setCell ⟨w.heap.size, 2 * j, none⟩ (.int .u8 ((f (2 * j)).toNat : Int))).drew = wx at *
      go_wp2
      exact ⟨⟨j + 1, by omega, by go_num, HBx.out, HHx.out⟩, by simp [intOf]; omega⟩
    · obtain rfl : j = k := by omega
      have k1 := holds_at HH1.out 2 rfl
      rw [← HC.out, colP_done, HF.out] at k1
      have HK1 : Hid _ := k1
      clear k1
      go_wp2
      go_ret
      exact ⟨w.heap.size, c, rfl, rfl, Nat.le_refl _, HK1.out, HB.out⟩
set_option maxHeartbeats 4000000 in
theorem rrow_1 (k r h i : Nat) (w : World) (h1 : 1 ≤ k) (h2 : 2 ≤ r) (h3 : k + r ≤ 16) (hh : h = 2 * (k + i) + 1) (hi : i < r) :
    Calls Tryd.prog 62 #[.int .i64 k, .int .i64 r, .int .i64 h] w fun e w' => ∃ g n, e = .returned (.slice (some ⟨g, 0, none⟩) n n) ∧ n = 2 * k ∧ w.heap.size ≤ g ∧
      w'.heap[g]? = some (.cells (vfs (rowF (2 * k) (halfF k (carN (groupN k r)) h))) 5 (0, 0)) ∧ Below w.heap.size w w' := by
  obtain ⟨c, hc⟩ : ∃ c, c = 2 * k := ⟨_, rfl⟩
  have ec : (2 : Int) * (k : Int) = c := by omega
  have HCA : Hid _ := fun j w (hj : j ≤ 1000) => rcarrier_F k r j w h1 h2 h3 hj
  generalize carN (groupN k r) = car at *
  rw [← hc]
  obtain ⟨s, hs⟩ : ∃ s, s = k + i := ⟨_, rfl⟩
  have e1 : (h : Int) / 2 = s := by omega
  have e2 : (h : Int) % 2 = 1 := by omega
  have e3 : (s : Int) - k = i := by omega
  have hks : (k : Int) ≤ s := by omega
  have hs16 : s ≤ 16 := by omega
  have hh33 : h ≤ 33 := by omega
  obtain ⟨ik, hik⟩ : ∃ ik, ik = i * k := ⟨_, rfl⟩
  have e4 : (i : Int) * k = ik := by rw [hik]; simp
  have hik2 : ik + k ≤ 256 := by
    have h4 := Nat.mul_le_mul (show i + 1 ≤ 16 by omega) (show k ≤ 16 by omega)
    rw [Nat.succ_mul] at h4; omega
  have hikr : ik + k ≤ r * k := by
    have h4 := Nat.mul_le_mul_right k (show i + 1 ≤ r by omega)
    rw [Nat.succ_mul] at h4; omega
  have hc32 : c ≤ 32 := by omega
  have hmk := run_make8 c (by omega)
  have HH : Hid _ := hh
  have HC : Hid _ := hc
  have HIK : Hid _ := hik
  have HIKR : Hid _ := hikr
  have HI : Hid _ := hi
  clear hc hh hs hik hikr hi
  go_enter Tryd.func62, Tryd.ntmps62
  go_wp2_with fail
  have B1 := heap_alloc_last w (.cells (vfs (zeros c)) 5)
  have HB : Hid _ := (Below.refl w.heap.size w).alloc (Nat.le_refl _) (.cells (vfs (zeros c)) 5)
  have HA : Hid (Holds (w.alloc (.cells (vfs (zeros c)) 5)) [(w.heap.size, .cells (vfs (zeros c)) 5 (0, 0))]) := holds_cons (holds_nil _) B1
  clear B1
  refine Calls.mono (rparity_F k r _ h1 h2 h3) ?_
  rintro e w2 ⟨g, m, rfl, hm, hg, hh2, hb2⟩
  have HA2 : Hid _ := holds_new (holds_cons (holds_later HA.out hb2) hh2) #[.int .i64 r, .int .i64 k, .slice (some ⟨g, 0, none⟩) m m] 65
  have hB2 := HB.out.trans (hb2.mono HB.out.size)
  have HB2 : Hid _ := hB2.alloc hB2.size (.cells #[.int .i64 r, .int .i64 k, .slice (some ⟨g, 0, none⟩) m m] 65)
  have HM : Hid _ := hm
  have hz := hB2.size
  have HGN : Hid (w.heap.size < g) := by simp only [World.size_alloc] at hg; exact hg
  clear hb2 hh2 hm hB2 HA HB hmk hg
  go_wp2
  generalize hMM : w2.heap.size = M at *
  generalize (w2.alloc (.cells #[.int .i64 r, .int .i64 k, .slice (some ⟨g, 0, none⟩) m m] 65)) = W3 at *
  clear hMM
  obtain ⟨f, hf⟩ : ∃ f, f = halfF k car h := ⟨_, rfl⟩
  have HF : Hid _ := hf
  clear hf
  go_loopw [11] (fun v wr => ∃ j : Nat, j ≤ k ∧ v = .int .i64 j ∧ Below w.heap.size w wr ∧ Holds wr [(M, .cells #[.int .i64 r, .int .i64 k, .slice (some ⟨g, 0, none⟩) m m] 65 (0, 0)), (g, .cells (vfs (parM k r)) 5 (0, 0)), (w.heap.size, .cells (vfs (colP c f (2 * j))) 5 (0, 0))]) (fun v _ => k - (intOf v).toNat)
  case atStart => exact ⟨0, by omega, rfl, HB2.out, by rw [Nat.mul_zero, ← colP_zero]; exact HA2.out⟩
  case round =>
    obtain ⟨j, hj, rfl, hb, hh⟩ := hrel
    have HB : Hid _ := hb
    have HH1 : Hid _ := hh
    clear hb hh
    by_cases hlt : j < k
    · have c1 := cellAt (holds_at HH1.out 0 rfl) 2 _ rfl
      have hjc : 2 * j + 1 < c := by have := HC.out; omega
      have c2 := cellAt (holds_at HH1.out 2 rfl) (2 * j + 1) _ (vfs_get _ _ (by rw [colP_len]; exact hjc))
      rw [colP_at hjc (2 * j) (by omega)] at c2
      have hc2 : (((0 : F).toNat : Nat) : Int) = 0 := rfl
      rw [hc2] at c2
      have c3 := frozen_of_row _ w.heap.size (2 * j + 1) _ _ (holds_at HH1.out 2 rfl)
      have hpa : at8 (parM k r) (ik + j) = cyN (k + i) j := by rw [HIK.out]; exact parM_at HI.out hlt
      have c4 := cellAt (holds_at HH1.out 1 rfl) (ik + j) _ (vfs_get _ _ (by have := HIKR.out; rw [parM_len]; omega))
      rw [hpa] at c4
      have hx := xor_val 0 (cyN (k + i) j)
      rw [hc2, show ga 0 (cyN (k + i) j) = cyN (k + i) j from F.zero_add _] at hx
      have hfo : f (2 * j + 1) = cyN (k + i) j := by rw [HF.out]; exact half_even (q := j) HH.out (by decide)
      rw [← hfo] at c4 hx
      have HFO : Hid _ := hfo
      clear hpa hc2 hfo
      have hjm : ik + j < m := by have := HIKR.out; rw [HM.out]; omega
      go_upto_region 10 with fail
      go_region
      obtain ⟨L1, hL⟩ : ∃ L1, L1 = (colP c f (2 * j)).set (2 * j + 1) (f (2 * j + 1)) := ⟨_, rfl⟩
      have k1 : (wr.setCell ⟨w.heap.size, 2 * j + 1, none⟩ (.int .u8 ((f (2 * j + 1)).toNat : Int))).drew.heap[w.heap.size]? = some (.cells (vfs L1) 5 (0, 0)) := by
        rw [hL, ← vfs_set]
        exact heap_setCell_same _ _ _ _ _ _ (holds_at HH1.out 2 rfl)
      have kA : (wr.setCell ⟨w.heap.size, 2 * j + 1, none⟩ (.int .u8 ((f (2 * j + 1)).toNat : Int))).drew.heap[M]? = some (.cells #[.int .i64 r, .int .i64 k, .slice (some ⟨g, 0, none⟩) m m] 65 (0, 0)) := (heap_setCell_other _ _ _ _ (hkind_ne (holds_at HH1.out 0 rfl) (holds_at HH1.out 2 rfl) (by decide))).trans (holds_at HH1.out 0 rfl)
      have kG : (wr.setCell ⟨w.heap.size, 2 * j + 1, none⟩ (.int .u8 ((f (2 * j + 1)).toNat : Int))).drew.heap[g]? = some (.cells (vfs (parM k r)) 5 (0, 0)) := (heap_setCell_other _ _ _ _ (by have := HGN.out; show g ≠ w.heap.size; omega)).trans (holds_at HH1.out 1 rfl)
      have HBx : Hid _ := (HB.out.setCell (p := ⟨w.heap.size, 2 * j + 1, none⟩) (Nat.le_refl _) (.int .u8 ((f (2 * j + 1)).toNat : Int))).drew
      have HHx : Hid _ := holds_cons (holds_cons (holds_cons (holds_nil _) k1) kG) kA
      clear k1 kA kG c1 c2 c3 c4 hx
      generalize (wr.setCell ⟨w.heap.size, 2 * j + 1, none⟩ (.int .u8 ((f (2 * j + 1)).toNat : Int))).drew = wx at *
      have HL : Hid _ := hL
      clear hL
      go_wp2_with fail
      refine (HCA.out j _ (by omega)).mono ?_
      rintro e wy ⟨rfl, rfl⟩
      by_cases hcar : car j = i
      · have hff : f (2 * j) = 1 := by rw [HF.out, half_car HH.out, if_pos hcar]
        have hL2 : L1.set (2 * j) 1 = colP c f (2 * (j + 1)) := by
          rw [HL.out, ← hff, List.set_comm _ _ (by omega), colP_step, colP_step]
          rfl
        have c2 := cellAt (holds_at HHx.out 2 rfl) (2 * j) _ (vfs_get _ _ (by rw [HL.out, List.length_set, colP_len]; omega))
        have c0 : at8 L1 (2 * j) = 0 := by
          have := colP_at (f := f) (show 2 * j < c by omega) (2 * j) (Nat.le_refl _)
          rw [HL.out]
          simp only [at8] at this ⊢
          rw [List.getD_eq_getElem?_getD, List.getElem?_set_ne (by omega), ← List.getD_eq_getElem?_getD]
          exact this
        rw [c0, show (((0 : F).toNat : Nat) : Int) = 0 from rfl] at c2
        have c3 := frozen_of_row _ w.heap.size (2 * j) _ _ (holds_at HHx.out 2 rfl)
        have hx1 : bits .xor .u8 0 1 = 1 := by decide
        have hci : (car j : Int) = i := by omega
        have HL2 : Hid _ := hL2
        clear hL2 c0 hff hcar
        go_wp2
        have k1 : (wx.setCell ⟨w.heap.size, 2 * j, none⟩ (.int .u8 1)).heap[w.heap.size]? = some (.cells (vfs (colP c f (2 * (j + 1)))) 5 (0, 0)) := by
          rw [heap_setCell_same _ _ _ _ _ _ (holds_at HHx.out 2 rfl), ← HL2.out, ← vfs_set]
          rfl
        have kA : (wx.setCell ⟨w.heap.size, 2 * j, none⟩ (.int .u8 1)).heap[M]? = some (.cells #[.int .i64 r, .int .i64 k, .slice (some ⟨g, 0, none⟩) m m] 65 (0, 0)) := (heap_setCell_other _ _ _ _ (hkind_ne (holds_at HHx.out 0 rfl) (holds_at HHx.out 2 rfl) (by decide))).trans (holds_at HHx.out 0 rfl)
        have kG : (wx.setCell ⟨w.heap.size, 2 * j, none⟩ (.int .u8 1)).heap[g]? = some (.cells (vfs (parM k r)) 5 (0, 0)) := (heap_setCell_other _ _ _ _ (by have := HGN.out; show g ≠ w.heap.size; omega)).trans (holds_at HHx.out 1 rfl)
        exact ⟨⟨j + 1, by omega, by go_num, HBx.out.setCell (Nat.le_refl _) _, holds_cons (holds_cons (holds_cons (holds_nil _) k1) kG) kA⟩, by simp [intOf]; omega⟩
      · have hff : f (2 * j) = 0 := by rw [HF.out, half_car HH.out, if_neg hcar]
        have hL2 : L1 = colP c f (2 * (j + 1)) := by
          rw [HL.out, colP_skip hff, colP_step]
          rfl
        rw [hL2] at HHx
        have hci : ¬ (car j : Int) = i := by omega
        clear hL2 hff hcar
        go_wp2
        exact ⟨⟨j + 1, by omega, by go_num, HBx.out, HHx.out⟩, by simp [intOf]; omega⟩
    · obtain rfl : j = k := by omega
      have k1 := holds_at HH1.out 2 rfl
      rw [← HC.out, colP_done, HF.out] at k1
      have HK1 : Hid _ := k1
      clear k1
      go_wp2
      go_ret
      exact ⟨w.heap.size, c, rfl, rfl, Nat.le_refl _, HK1.out, HB.out⟩
theorem hrrow_F (k r h : Nat) (w : World) (h1 : 1 ≤ k) (h2 : 2 ≤ r) (h3 : k + r ≤ 16) (hh : h < 2 * (k + r)) :
    Calls Tryd.prog 62 #[.int .i64 k, .int .i64 r, .int .i64 h] w fun e w' => ∃ g n, e = .returned (.slice (some ⟨g, 0, none⟩) n n) ∧ n = 2 * k ∧ w.heap.size ≤ g ∧
      w'.heap[g]? = some (.cells (vfs (rowF (2 * k) (halfF k (carN (groupN k r)) h))) 5 (0, 0)) ∧ Below w.heap.size w w' := by
  by_cases hs : h / 2 < k
  · exact rrow_unit k r h (h / 2) (h % 2) w h1 h2 h3 (by omega) (by omega) hs
  · rcases (show h % 2 = 0 ∨ h % 2 = 1 by omega) with e | e
    · exact rrow_0 k r h (h / 2 - k) w h1 h2 h3 (by omega) (by omega)
    · exact rrow_1 k r h (h / 2 - k) w h1 h2 h3 (by omega) (by omega)
end Go.Proofs.YtmlpijlcpeoeaaaDoor

/- What the document's own Rows of package half's chapter answers, of all legal numbers; nothing that was there turns. -/
namespace Go.Proofs.YtmlpijlcpeoeaaaDoor
open Go.RowKit Gf
set_option linter.unusedVariables false
set_option maxRecDepth 20000
theorem hown_set {w : World} {B g i n : Nat} {v x : Value} {e : TypeId} {s : Nat} {xs : List Value} (h : w.ownsRow B e s v n xs) (hg : g < B) : (w.setCell ⟨g, i, none⟩ x).ownsRow B e s v n xs :=
  ⟨h.1, h.2.imp id fun ⟨g2, cap, cur, h1, h2, h3, h4⟩ => ⟨g2, cap, cur, h1, h2, (heap_setCell_other _ _ _ _ (by show g2 ≠ g; omega)).trans h3, h4⟩⟩
end Go.Proofs.YtmlpijlcpeoeaaaDoor

/- What the document's own Variables answers, of all legal numbers of halves whose rows tell all data halves; nothing that was there turns. -/
namespace Go.Proofs.YtmlpijlcpeoeaaaDoor
open Go.RowKit Gf
set_option linter.unusedVariables false
set_option maxRecDepth 20000
theorem rowsF_grid {c n : Nat} {f : Mt} : ∀ i, i < n → ∀ j, j < c → rowsF c (grid c f n) i j = f i j := fun i hi j hj => by
  rw [rowsF, rowAt_grid hi, at8_rowF hj]
theorem Dep.unit {A : Mt} {c n v : Nat} (h : Dep (tr A) c n (unitF v)) : Dep (tr (rowsF c (grid c A n))) c n (at8 (rowF c (unitF v))) := by
  obtain ⟨x, hx⟩ := h
  refine ⟨x, fun i hi => ?_⟩
  rw [at8_rowF hi, hx i hi]
  exact sumF_congr fun l hl => by rw [show tr (rowsF c (grid c A n)) i l = tr A i l from rowsF_grid l hl i hi]
theorem sol_unit {A : Mt} {c n v : Nat} {x : Nat → F} (h : SolOf (tr (rowsF c (grid c A n))) c n (at8 (rowF c (unitF v))) x) : ∀ u, u < c → unitF v u = sumF (fun l => gm (A l u) (x l)) n := fun u hu => by
  have := h.sol u hu
  rw [at8_rowF hu] at this
  rw [this]
  exact sumF_congr fun l hl => by rw [show tr (rowsF c (grid c A n)) u l = A l u from rowsF_grid l hl u hu]
/-- a sum made as far as byte b of list i -/
def varP (H : Nat) (f : Nat → Nat → F) (i b : Nat) : List F := rowF H (fun q => sumF (f q) (if q < b then i + 1 else i))
theorem varP_len (H : Nat) (f : Nat → Nat → F) (i b : Nat) : (varP H f i b).length = H := rowF_len _ _
theorem varP_zero (H : Nat) (f : Nat → Nat → F) : zeros H = varP H f 0 0 := rowF_eq (zeros_len H) fun j hj => by rw [at8_zeros, if_neg (by omega)]; rfl
theorem varP_done (H : Nat) (f : Nat → Nat → F) (i : Nat) : varP H f i H = varP H f (i + 1) 0 := rowF_congr fun j hj => by rw [if_pos hj, if_neg (by omega)]
theorem varP_full (H : Nat) (f : Nat → Nat → F) (i : Nat) : varP H f i 0 = rowF H (fun q => sumF (f q) i) := rowF_congr fun j hj => by rw [if_neg (by omega)]
theorem varP_at {H : Nat} {f : Nat → Nat → F} {i b : Nat} (hb : b < H) : at8 (varP H f i b) b = sumF (f b) i := by rw [varP, at8_rowF hb, if_neg (by omega)]
theorem varP_set {H : Nat} {f : Nat → Nat → F} {i b : Nat} (hb : b < H) : (varP H f i b).set b (ga (sumF (f b) i) (f b i)) = varP H f i (b + 1) := by
  refine rowF_eq (by rw [List.length_set, varP_len]) fun j hj => ?_
  by_cases h : j = b
  · subst h
    rw [if_pos (by omega)]
    simp [at8, varP_len, hj, sumF]
  · have e : at8 ((varP H f i b).set b (ga (sumF (f b) i) (f b i))) j = at8 (varP H f i b) j := by simp [at8, Ne.symm h]
    rw [e, varP, at8_rowF hj]
    by_cases h2 : j < b
    · rw [if_pos h2, if_pos (by omega)]
    · rw [if_neg h2, if_neg (by omega)]
theorem slice_cap {w : World} {B n cap : Nat} {a : Option Addr} {e : TypeId} {xs : List Value} (h : w.ownsRow B e 1 (.slice a n cap) n xs) : n ≤ cap := by
  rcases h.2 with ⟨e1, e2⟩ | ⟨g, c2, cur, e1, _, _, h3, _⟩
  · omega
  · cases e1; exact h3
set_option maxHeartbeats 16000000 in
theorem rvars_F (k r H ln cn lr cr : Nat) (an ar : Option Addr) (nl : List Nat) (L : List (List F)) (D : Nat → Nat → F) (w : World) (h1 : 1 ≤ k) (h2 : 2 ≤ r) (h3 : k + r ≤ 16) (hH : H ≤ 64)
    (hln : ln = nl.length) (hlr : ln = L.length) (hlr2 : lr = ln) (hln32 : ln ≤ 32) (hnl : ∀ i, i < ln → nl.getD i 0 < 2 * (k + r)) (hL : ∀ xs ∈ L, xs.length = H) (hN : RowI w an (castL nl)) (hR : Rows8 w ar L)
    (hdep : ∀ v, v < 2 * k → Dep (tr (numM k (carN (groupN k r)) nl)) (2 * k) ln (unitF v))
    (hD : ∀ i, i < ln → ∀ b, b < H → bytesD L i b = sumF (fun u => gm (numM k (carN (groupN k r)) nl i u) (D u b)) (2 * k)) :
    Calls Tryd.prog 38 #[.int .i64 k, .int .i64 r, .slice an ln cn, .slice ar lr cr, .int .i64 H] w fun e w' => ∃ b c cap, e = .returned (.tuple #[.slice b c cap, .bool true]) ∧ c = 2 * k ∧
      Rows8 w' b ((List.range (2 * k)).map fun v => rowF H (D v)) ∧ Below w.heap.size w w' := by
  have HRF : Hid _ := fun h w hh => hrrow_F k r h w h1 h2 h3 hh
  have HNL : Hid _ := hnl
  obtain ⟨A, hA⟩ : ∃ A, A = numM k (carN (groupN k r)) nl := ⟨_, rfl⟩
  have HAI : Hid (∀ i, A i = halfF k (carN (groupN k r)) (nl.getD i 0)) := fun i => by rw [hA]; rfl
  rw [← hA] at hdep hD
  obtain ⟨c, hc⟩ : ∃ c, c = 2 * k := ⟨_, rfl⟩
  rw [← hc] at HRF hdep hD ⊢
  have HCC : Hid _ := hc
  have ec : (2 : Int) * (k : Int) = c := by omega
  have hc32 : c ≤ 32 := by omega
  have hc1 : 1 ≤ c := by omega
  have HDEP : Hid _ := hdep
  have HD : Hid _ := hD
  have HLN : Hid _ := hln
  have HLR : Hid _ := hlr
  have HL : Hid _ := hL
  have HN : Hid (RowI w an (castL nl)) := hN
  have HR : Hid (Rows8 w ar L) := hR
  subst hlr2
  clear hA hc hdep hD hln hlr hL hN hR hnl
  go_enter Tryd.func38, Tryd.ntmps38
  go_wp2
  have hA := holds_new (holds_nil w) #[.int .i64 lr, .int .i64 c, .slice none 0 0] 65
  have B4 : Hid (Below w.heap.size w (w.alloc (.cells #[.int .i64 lr, .int .i64 c, .slice none 0 0] 65))) := (Below.refl _ _).alloc (Nat.le_refl _) _
  have HH : Hid _ := hA
  have z0 : w.heap.size + 1 ≤ (w.alloc (.cells #[.int .i64 lr, .int .i64 c, .slice none 0 0] 65)).heap.size := by simp
  clear hA
  generalize (w.alloc (.cells #[.int .i64 lr, .int .i64 c, .slice none 0 0] 65)) = W at *
  generalize hM : w.heap.size = M at *
  have HMM : Hid _ := hM
  clear hM
  go_loopw [31] (fun i wr => ∃ j : Nat, ∃ v : Value, j ≤ lr ∧ i = .int .i64 j ∧ Below M w wr ∧ M + 1 ≤ wr.heap.size ∧ wr.heap[M]? = some (.cells #[.int .i64 lr, .int .i64 c, v] 65 (0, 0)) ∧ wr.ownsRow (M + 1) 5 1 v (j * c) ((grid c A j).map vf)) (fun i _ => lr - (intOf i).toNat)
  case atStart => exact ⟨0, .slice none 0 0, by omega, rfl, B4.out, z0, holds_at HH.out 0 rfl, by rw [Nat.zero_mul]; exact World.ownsRow_nil _ _ _ _⟩
  case round =>
    obtain ⟨j, v, hj, rfl, hbw, hzr, hm, hown⟩ := hrel
    obtain ⟨av, capv, rfl, hrv, hnv, hnn⟩ := ownB_slice hown
    have HBW : Hid _ := hbw
    have HM : Hid _ := hm
    have HO : Hid _ := hown
    have HRV : Hid _ := hrv
    have HNN : Hid _ := hnn
    clear hbw hown hrv hnv hnn
    by_cases hlt : j < lr
    · obtain ⟨bN, oN, eN, hbN, hcN⟩ := rowI_cell HN.out (show j < (castL nl).length by rw [castL_len, ← HLN.out]; exact hlt)
      subst eN
      obtain ⟨h, hh⟩ : ∃ h, h = nl.getD j 0 := ⟨_, rfl⟩
      have hcj := hcN j (by rw [castL_len, ← HLN.out]; exact hlt)
      have ehj : (castL nl).getD j 0 = (h : Int) := by
        rw [hh]; simp only [castL, List.getD_eq_getElem?_getD, List.getElem?_map]
        cases nl[j]? <;> rfl
      rw [ehj] at hcj
      have c9 := cell_later (by rw [HMM.out]; exact HBW.out : Below w.heap.size w wr) hcj
      have hlh : h < 2 * (k + r) := by rw [hh]; exact HNL.out j hlt
      have hAj : A j = halfF k (carN (groupN k r)) h := by rw [HAI.out j, ← hh]
      have HAJ : Hid _ := hAj
      have HLH : Hid _ := hlh
      clear hcN hcj ehj hh hAj hlh hbN
      have hlk : j * c + c ≤ 4096 := by
        have h1 := Nat.mul_le_mul (show j + 1 ≤ 32 by omega) (show c ≤ 32 by omega)
        rw [Nat.succ_mul] at h1; omega
      obtain ⟨l, hl⟩ : ∃ l, l = j * c := ⟨_, rfl⟩
      rw [← hl] at hm HM HO hlk
      go_upto_region 5 with fail
      have HL5 : Hid _ := hl
      clear hl hm c9
      refine wp_region_noPanic ?_
      refine wp_region_held_drew (S := fun u => Below M w u) (by kernel_rfl) ?_ (fun hHeld => ?_)
      · exact HBW.out.drew
      refine wpAnyH_take (i := 0) (oi := { dst := some 35, op := Op.fieldAddr 65 (Operand.tmp 12) 2, type := 0, pos := "ref.go:55", after := #[], guard := none }) (v := ?_) rfl (by kernel_rfl) (by kernel_rfl) (by kernel_rfl) (fun _ _ _ h => h) (Or.inl ⟨by rfl, ?_⟩) hHeld ?_
      rotate_left
      · intro u hSw
        go_simp
        try with_reducible rfl
      try simp only [Act.put, List.setIfInBounds_toArray, List.set_cons_zero, List.set_cons_succ]
      refine wpAnyH_take (i := 2) (oi := { dst := some 37, op := Op.move (Operand.tmp 0), type := 3, pos := "ref.go:55", after := #[], guard := none }) (v := ?_) rfl (by kernel_rfl) (by kernel_rfl) (by kernel_rfl) (fun _ _ _ h => h) (Or.inl ⟨by rfl, ?_⟩) hHeld ?_
      rotate_left
      · intro u hSw
        go_simp
        try with_reducible rfl
      try simp only [Act.put, List.setIfInBounds_toArray, List.set_cons_zero, List.set_cons_succ]
      refine wpAnyH_take (i := 3) (oi := { dst := some 38, op := Op.move (Operand.tmp 1), type := 3, pos := "ref.go:55", after := #[], guard := none }) (v := ?_) rfl (by kernel_rfl) (by kernel_rfl) (by kernel_rfl) (fun _ _ _ h => h) (Or.inl ⟨by rfl, ?_⟩) hHeld ?_
      rotate_left
      · intro u hSw
        go_simp
        try with_reducible rfl
      try simp only [Act.put, List.setIfInBounds_toArray, List.set_cons_zero, List.set_cons_succ]
      refine wpAnyH_take (i := 4) (oi := { dst := some 39, op := Op.move (Operand.tmp 14), type := 3, pos := "ref.go:55", after := #[], guard := none }) (v := ?_) rfl (by kernel_rfl) (by kernel_rfl) (by kernel_rfl) (fun _ _ _ h => h) (Or.inl ⟨by rfl, ?_⟩) hHeld ?_
      rotate_left
      · intro u hSw
        go_simp
        try with_reducible rfl
      try simp only [Act.put, List.setIfInBounds_toArray, List.set_cons_zero, List.set_cons_succ]
      refine wpAnyH_ready (rs := [1, 5]) (by kernel_rfl) (by simp) ?_
      refine (AllReadyH.cons (o := { dst := some 36, op := Op.load 22 (Operand.tmp 35), type := 22, pos := "ref.go:55", after := #[{ on := 0, ground := Ground.data }], guard := none }) rfl (fun K hK => ?_) (AllReadyH.cons (o := { dst := some 40, op := Op.call { callee := Callee.value (Operand.func 62), args := #[Operand.tmp 37, Operand.tmp 38, Operand.tmp 39], argTypes := #[3, 3, 3] }, type := 22, pos := "ref.go:55", after := #[{ on := 2, ground := Ground.data }, { on := 3, ground := Ground.data }, { on := 4, ground := Ground.data }], guard := none }) rfl (fun K hK => ?_) AllReadyH.nil))
      · have cL := cellAt (show wr.drew.heap[M]? = _ from HM.out) 2 _ rfl
        go_simp
        refine hK.out _ _ ?_ (fun hHeld => ?_)
        · exact HBW.out.drew
        clear hK K
        try simp only [Act.put, List.setIfInBounds_toArray, List.set_cons_zero, List.set_cons_succ]
        refine wpAnyH_ready (rs := [5]) (by kernel_rfl) (by simp) ?_
        refine (AllReadyH.cons (o := { dst := some 40, op := Op.call { callee := Callee.value (Operand.func 62), args := #[Operand.tmp 37, Operand.tmp 38, Operand.tmp 39], argTypes := #[3, 3, 3] }, type := 22, pos := "ref.go:55", after := #[{ on := 2, ground := Ground.data }, { on := 3, ground := Ground.data }, { on := 4, ground := Ground.data }], guard := none }) rfl (fun K hK => ?_) AllReadyH.nil)
        go_simp
        refine Calls.mono (HRF.out h _ HLH.out) ?_
        rintro e w6 ⟨g6, n6, rfl, hn6, hg6, hh6, hb6⟩
        obtain rfl : n6 = c := hn6
        rw [← HAJ.out] at hh6
        have hB6 : Below M w w6 := Below.trans HBW.out.drew (Below.mono hb6 (show M ≤ wr.heap.size by omega))
        have hM6 := heap_later (w := wr.drew) HM.out hb6
        have ho6 : w6.ownsRow (M + 1) 5 1 (.slice av l capv) l ((grid n6 A j).map vf) := own_below (w := wr.drew) HO.out hb6
        have hz6 := hb6.size
        have hzd : M + 1 ≤ wr.drew.heap.size := hzr
        obtain ⟨v', w7, hrun, ho7, hgr⟩ := appendB (m := n6) (c := n6) 22 ho6 (rowF_len n6 (A j)).symm (by omega) (row8_own hh6) (fun h => by cases h) (by omega)
        have hM7 := own_other ho6 hgr hM6 (by decide)
        have hB7 : Below M w w7 := below_own hB6 (own_mono (B' := M) ho6 (by omega)) hgr (by omega)
        have hz7 := hgr.size
        obtain ⟨a7, cap7, rfl, h7, h8, h9⟩ := ownB_slice ho7
        clear h7 h8 h9
        have HRun : Hid _ := hrun
        have HO7 : Hid _ := ho7
        have HM6 : Hid _ := hM6
        have HM7 : Hid _ := hM7
        have HB6 : Hid _ := hB6
        have HB7 : Hid _ := hB7
        have HZ7 : Hid (M + 1 ≤ w7.heap.size) := by show _ ≤ _; omega
        clear hg6 hh6 hb6 hB6 hM6 ho6 hz6 hzd hrun ho7 hgr hM7 hB7 hz7
        go_wp2_with fail
        refine hK.out _ _ ?_ (fun hHeld => ?_)
        · exact HB6.out
        clear hK K
        try simp only [Act.put, List.setIfInBounds_toArray, List.set_cons_zero, List.set_cons_succ]
        refine wpAnyH_ready (rs := [6]) (by kernel_rfl) (by simp) ?_
        refine (AllReadyH.cons (o := { dst := some 41, op := Op.call { callee := Callee.builtin Builtin.append, args := #[Operand.tmp 36, Operand.tmp 40], argTypes := #[22, 22] }, type := 22, pos := "ref.go:55", after := #[{ on := 1, ground := Ground.data }, { on := 5, ground := Ground.data }, { on := 5, ground := Ground.chain }], guard := none }) rfl (fun K hK => ?_) AllReadyH.nil)
        refine wanted_append_run rfl _ _ 22 rfl _ _ _ _ rfl rfl HRun.out ?_
        refine hK.out _ _ ?_ (fun hHeld => ?_)
        · exact HB7.out
        clear hK K
        try simp only [Act.put, List.setIfInBounds_toArray, List.set_cons_zero, List.set_cons_succ]
        refine wpAnyH_take (i := 7) (oi := { dst := some 42, op := Op.fieldAddr 65 (Operand.tmp 12) 2, type := 0, pos := "ref.go:55", after := #[{ on := 0, ground := Ground.phase }, { on := 1, ground := Ground.phase }, { on := 2, ground := Ground.phase }, { on := 3, ground := Ground.phase }, { on := 4, ground := Ground.phase }, { on := 5, ground := Ground.phase }, { on := 6, ground := Ground.phase }], guard := none }) (v := ?_) rfl (by kernel_rfl) (by kernel_rfl) (by kernel_rfl) (fun _ _ _ h => h) (Or.inl ⟨by rfl, ?_⟩) hHeld ?_
        rotate_left
        · intro u hSw
          go_simp
          try with_reducible rfl
        try simp only [Act.put, List.setIfInBounds_toArray, List.set_cons_zero, List.set_cons_succ]
        refine wpAnyH_ready (rs := [8]) (by kernel_rfl) (by simp) ?_
        refine (AllReadyH.cons (o := { dst := none, op := Op.store 22 (Operand.tmp 42) (Operand.tmp 41), type := 0, pos := "ref.go:55", after := #[{ on := 7, ground := Ground.data }, { on := 6, ground := Ground.data }, { on := 6, ground := Ground.chain }, { on := 0, ground := Ground.phase }, { on := 1, ground := Ground.phase }, { on := 2, ground := Ground.phase }, { on := 3, ground := Ground.phase }, { on := 4, ground := Ground.phase }, { on := 5, ground := Ground.phase }, { on := 6, ground := Ground.phase }], guard := none }) rfl (fun K hK => ?_) AllReadyH.nil)
        have cS := cellAt HM7.out 2 _ rfl
        have hM8 : w7.frozen? ⟨M, 2, none⟩ = false := frozen_of_row _ _ _ _ _ HM7.out
        go_simp
        refine hK.out _ _ ?_ (fun hHeld => ?_)
        · exact HB7.out.setCell (Nat.le_refl _) _
        clear hK K
        try simp only [Act.put, List.setIfInBounds_toArray, List.set_cons_zero, List.set_cons_succ]
        refine wpAnyH_done (by kernel_rfl) ?_ _
        refine NoPanic.normal ?_
        clear cS hM8
        have k1 : (w7.setCell ⟨M, 2, none⟩ (.slice a7 (l + n6) cap7)).heap[M]? = some (.cells #[.int .i64 lr, .int .i64 n6, .slice a7 (l + n6) cap7] 65 (0, 0)) := heap_setCell_same _ _ _ _ _ _ HM7.out
        have HB8 : Hid (Below M w (w7.setCell ⟨M, 2, none⟩ (.slice a7 (l + n6) cap7))) := HB7.out.setCell (Nat.le_refl _) _
        have ho8 : (w7.setCell ⟨M, 2, none⟩ (.slice a7 (l + n6) cap7)).ownsRow (M + 1) 5 1 (.slice a7 (l + n6) cap7) ((j + 1) * n6) ((grid n6 A (j + 1)).map vf) := by
          have hl := HL5.out
          rw [Nat.succ_mul, ← hl]
          exact hown_set HO7.out (by omega)
        have HK1 : Hid _ := k1
        have HO8 : Hid _ := ho8
        have HZ8 : Hid (M + 1 ≤ (w7.setCell ⟨M, 2, none⟩ (.slice a7 (l + n6) cap7)).heap.size) := by have := HZ7.out; show _ ≤ _; simpa using this
        clear k1 ho8
        go_wp2
        exact ⟨⟨j + 1, _, by omega, by go_num, HB8.out, HZ8.out, HK1.out, HO8.out⟩, by simp [intOf]; omega⟩
      · go_simp
        refine Calls.mono (HRF.out h _ HLH.out) ?_
        rintro e w6 ⟨g6, n6, rfl, hn6, hg6, hh6, hb6⟩
        obtain rfl : n6 = c := hn6
        rw [← HAJ.out] at hh6
        have hB6 : Below M w w6 := Below.trans HBW.out.drew (Below.mono hb6 (show M ≤ wr.heap.size by omega))
        have hM6 := heap_later (w := wr.drew) HM.out hb6
        have ho6 : w6.ownsRow (M + 1) 5 1 (.slice av l capv) l ((grid n6 A j).map vf) := own_below (w := wr.drew) HO.out hb6
        have hz6 := hb6.size
        have hzd : M + 1 ≤ wr.drew.heap.size := hzr
        obtain ⟨v', w7, hrun, ho7, hgr⟩ := appendB (m := n6) (c := n6) 22 ho6 (rowF_len n6 (A j)).symm (by omega) (row8_own hh6) (fun h => by cases h) (by omega)
        have hM7 := own_other ho6 hgr hM6 (by decide)
        have hB7 : Below M w w7 := below_own hB6 (own_mono (B' := M) ho6 (by omega)) hgr (by omega)
        have hz7 := hgr.size
        obtain ⟨a7, cap7, rfl, h7, h8, h9⟩ := ownB_slice ho7
        clear h7 h8 h9
        have HRun : Hid _ := hrun
        have HO7 : Hid _ := ho7
        have HM6 : Hid _ := hM6
        have HM7 : Hid _ := hM7
        have HB6 : Hid _ := hB6
        have HB7 : Hid _ := hB7
        have HZ7 : Hid (M + 1 ≤ w7.heap.size) := by show _ ≤ _; omega
        clear hg6 hh6 hb6 hB6 hM6 ho6 hz6 hzd hrun ho7 hgr hM7 hB7 hz7
        go_wp2_with fail
        refine hK.out _ _ ?_ (fun hHeld => ?_)
        · exact HB6.out
        clear hK K
        try simp only [Act.put, List.setIfInBounds_toArray, List.set_cons_zero, List.set_cons_succ]
        refine wpAnyH_ready (rs := [1]) (by kernel_rfl) (by simp) ?_
        refine (AllReadyH.cons (o := { dst := some 36, op := Op.load 22 (Operand.tmp 35), type := 22, pos := "ref.go:55", after := #[{ on := 0, ground := Ground.data }], guard := none }) rfl (fun K hK => ?_) AllReadyH.nil)
        have cL := cellAt HM6.out 2 _ rfl
        go_simp
        refine hK.out _ _ ?_ (fun hHeld => ?_)
        · exact HB6.out
        clear hK K
        try simp only [Act.put, List.setIfInBounds_toArray, List.set_cons_zero, List.set_cons_succ]
        refine wpAnyH_ready (rs := [6]) (by kernel_rfl) (by simp) ?_
        refine (AllReadyH.cons (o := { dst := some 41, op := Op.call { callee := Callee.builtin Builtin.append, args := #[Operand.tmp 36, Operand.tmp 40], argTypes := #[22, 22] }, type := 22, pos := "ref.go:55", after := #[{ on := 1, ground := Ground.data }, { on := 5, ground := Ground.data }, { on := 5, ground := Ground.chain }], guard := none }) rfl (fun K hK => ?_) AllReadyH.nil)
        refine wanted_append_run rfl _ _ 22 rfl _ _ _ _ rfl rfl HRun.out ?_
        refine hK.out _ _ ?_ (fun hHeld => ?_)
        · exact HB7.out
        clear hK K
        try simp only [Act.put, List.setIfInBounds_toArray, List.set_cons_zero, List.set_cons_succ]
        refine wpAnyH_take (i := 7) (oi := { dst := some 42, op := Op.fieldAddr 65 (Operand.tmp 12) 2, type := 0, pos := "ref.go:55", after := #[{ on := 0, ground := Ground.phase }, { on := 1, ground := Ground.phase }, { on := 2, ground := Ground.phase }, { on := 3, ground := Ground.phase }, { on := 4, ground := Ground.phase }, { on := 5, ground := Ground.phase }, { on := 6, ground := Ground.phase }], guard := none }) (v := ?_) rfl (by kernel_rfl) (by kernel_rfl) (by kernel_rfl) (fun _ _ _ h => h) (Or.inl ⟨by rfl, ?_⟩) hHeld ?_
        rotate_left
        · intro u hSw
          go_simp
          try with_reducible rfl
        try simp only [Act.put, List.setIfInBounds_toArray, List.set_cons_zero, List.set_cons_succ]
        refine wpAnyH_ready (rs := [8]) (by kernel_rfl) (by simp) ?_
        refine (AllReadyH.cons (o := { dst := none, op := Op.store 22 (Operand.tmp 42) (Operand.tmp 41), type := 0, pos := "ref.go:55", after := #[{ on := 7, ground := Ground.data }, { on := 6, ground := Ground.data }, { on := 6, ground := Ground.chain }, { on := 0, ground := Ground.phase }, { on := 1, ground := Ground.phase }, { on := 2, ground := Ground.phase }, { on := 3, ground := Ground.phase }, { on := 4, ground := Ground.phase }, { on := 5, ground := Ground.phase }, { on := 6, ground := Ground.phase }], guard := none }) rfl (fun K hK => ?_) AllReadyH.nil)
        have cS := cellAt HM7.out 2 _ rfl
        have hM8 : w7.frozen? ⟨M, 2, none⟩ = false := frozen_of_row _ _ _ _ _ HM7.out
        go_simp
        refine hK.out _ _ ?_ (fun hHeld => ?_)
        · exact HB7.out.setCell (Nat.le_refl _) _
        clear hK K
        try simp only [Act.put, List.setIfInBounds_toArray, List.set_cons_zero, List.set_cons_succ]
        refine wpAnyH_done (by kernel_rfl) ?_ _
        refine NoPanic.normal ?_
        clear cS hM8
        have k1 : (w7.setCell ⟨M, 2, none⟩ (.slice a7 (l + n6) cap7)).heap[M]? = some (.cells #[.int .i64 lr, .int .i64 n6, .slice a7 (l + n6) cap7] 65 (0, 0)) := heap_setCell_same _ _ _ _ _ _ HM7.out
        have HB8 : Hid (Below M w (w7.setCell ⟨M, 2, none⟩ (.slice a7 (l + n6) cap7))) := HB7.out.setCell (Nat.le_refl _) _
        have ho8 : (w7.setCell ⟨M, 2, none⟩ (.slice a7 (l + n6) cap7)).ownsRow (M + 1) 5 1 (.slice a7 (l + n6) cap7) ((j + 1) * n6) ((grid n6 A (j + 1)).map vf) := by
          have hl := HL5.out
          rw [Nat.succ_mul, ← hl]
          exact hown_set HO7.out (by omega)
        have HK1 : Hid _ := k1
        have HO8 : Hid _ := ho8
        have HZ8 : Hid (M + 1 ≤ (w7.setCell ⟨M, 2, none⟩ (.slice a7 (l + n6) cap7)).heap.size) := by have := HZ7.out; show _ ≤ _; simpa using this
        clear k1 ho8
        go_wp2
        exact ⟨⟨j + 1, _, by omega, by go_num, HB8.out, HZ8.out, HK1.out, HO8.out⟩, by simp [intOf]; omega⟩
    · obtain rfl : lr = j := by omega
      have q0 := cellAt hm 0 _ rfl
      have q1 := cellAt hm 1 _ rfl
      have q2 := cellAt hm 2 _ rfl
      have hlc : lr * c ≤ capv := slice_cap HO.out
      obtain ⟨l, hl⟩ : ∃ l, l = lr * c := ⟨_, rfl⟩
      rw [← hl] at q2 hlc
      have HL5 : Hid _ := hl
      clear hl hm
      go_wp2_with fail
      refine Calls.mono (rof_F lr c l capv av (grid c A lr) _ (by omega) (by omega) HL5.out (grid_len _ _ _) hlc HRV.out HNN.out) ?_
      rintro e w2 ⟨SB, t, vR, vM, vF, vB, fr, fm, V, Ms, f, rfl, hSB, hsp, hso, hb2⟩
      generalize hB0 : wr.heap.size = B0 at hsp
      have HSP : Hid (SpanW w2 B0 SB c lr t t t t vR vM vF vB fr fm V Ms f (pivL (tr (rowsF c (grid c A lr))) c lr)) := hsp
      have HSO : Hid (SpanOf (rowsF c (grid c A lr)) c lr t V (madeF Ms) (f.getD · 0)) := hso
      have HB2 : Hid (Below w.heap.size w w2) := by
        have h1 : Below w.heap.size w wr := by rw [HMM.out]; exact HBW.out
        exact h1.trans (hb2.mono h1.size)
      have z2 : M + 1 ≤ w2.heap.size := Nat.le_trans hzr hb2.size
      clear hsp hso hb2 hSB q0 q1 q2 HO HRV HM HBW hzr hB0
      go_wp2
      have hown : (w2.alloc (.cells #[] 22)).ownsRow w2.heap.size 22 1 (.slice (some ⟨w2.heap.size, 0, none⟩) 0 0) 0 (slsV H []) := ⟨rfl, .inr ⟨w2.heap.size, 0, #[], rfl, Nat.le_refl _, heap_alloc_last _ _, by simp, by simp [maxLen], rfl, rfl⟩⟩
      clear HH B4 z0
      generalize wr = w0 at *
      go_loopw [16, 17] (fun s t wr => ∃ v : Nat, ∃ gs : List Nat, v ≤ c ∧ t = .int .i64 v ∧ gs.length = v ∧ Below w2.heap.size w2 wr ∧ wr.ownsRow w2.heap.size 22 1 s v (slsV H gs) ∧ ∀ (j g : Nat), gs[j]? = some g → wr.heap[g]? = some (.cells (vfs (rowF H (D j))) 5 (0, 0))) (fun _ t _ => c - (intOf t).toNat)
      case atStart => exact ⟨0, [], by omega, rfl, rfl, (Below.refl _ _).alloc (Nat.le_refl _) _, hown, fun j g h => by simp at h⟩
      case round =>
        obtain ⟨v, gs, hv, rfl, hgs, hb2, ho, hrows⟩ := hrel
        have HGS : Hid (gs.length = v) := hgs
        have HBR : Hid (Below w2.heap.size w2 wr) := hb2
        have HO : Hid (wr.ownsRow w2.heap.size 22 1 u16 v (slsV H gs)) := ho
        have HRO : Hid (∀ (j g : Nat), gs[j]? = some g → wr.heap[g]? = some (.cells (vfs (rowF H (D j))) 5 (0, 0))) := hrows
        have hkc := ec
        clear hgs hb2 hrows hown
        by_cases hlt2 : v < c
        · clear ho
          go_wp2_with fail
          refine Calls.mono (rone_F c _ (by omega)) ?_
          rintro e w3 ⟨g1, n1, rfl, hn1, hg1, hh1, hb3⟩
          have HB3 : Hid (Below w2.heap.size w2 w3) := HBR.out.trans (hb3.mono HBR.out.size)
          have hO3 := own_below HO.out hb3
          have HO3 : Hid (w3.ownsRow w2.heap.size 22 1 u16 v (slsV H gs)) := hO3
          have HRO3 : Hid (∀ (j g : Nat), gs[j]? = some g → w3.heap[g]? = some (.cells (vfs (rowF H (D j))) 5 (0, 0))) := fun j g hj => heap_later (HRO.out j g hj) hb3
          have HH1 : Hid (w3.heap[g1]? = some (.cells (vfs (oneM c)) 5 (0, 0))) := hh1
          have HN1 : Hid (n1 = c * c) := hn1
          clear hb3 hO3 hh1 hg1 hn1 HBR HO HRO
          go_wp2_with fail
          refine Calls.mono (rrow_F c c v n1 n1 (some ⟨g1, 0, none⟩) (oneM c) _ (by omega) (by omega) hlt2 HN1.out (oneM_len c) (Nat.le_refl _) (row8_own HH1.out) (fun h => by cases h)) ?_
          rintro e w4 ⟨g2, cap2, rfl, hg2, hh2, hb4⟩
          rw [oneM, rowAt_grid hlt2] at hh2
          have HB4 : Hid (Below w2.heap.size w2 w4) := HB3.out.trans (hb4.mono HB3.out.size)
          have hO4 := own_below HO3.out hb4
          have HO4 : Hid (w4.ownsRow w2.heap.size 22 1 u16 v (slsV H gs)) := hO4
          have HRO4 : Hid (∀ (j g : Nat), gs[j]? = some g → w4.heap[g]? = some (.cells (vfs (rowF H (D j))) 5 (0, 0))) := fun j g hj => heap_later (HRO3.out j g hj) hb4
          have HH2 : Hid (Has8 w4 g2 (rowF c (unitF v)) cap2) := hh2
          have hs4 := SpanW.below HSP.out HB4.out
          have HS4 : Hid (SpanW w4 B0 SB c lr t t t t vR vM vF vB fr fm V Ms f (pivL (tr (rowsF c (grid c A lr))) c lr)) := hs4
          clear hb4 hO4 hg2 hh2 hs4 HB3 HO3 HRO3 HH1 HN1
          go_wp2_with fail
          refine Calls.mono (rexpress_F (rowsF c (grid c A lr)) _ SB c lr t vR vM vF vB fr fm V Ms f _ (some ⟨g2, 0, none⟩) c cap2 (rowF c (unitF v)) _ HS4.out HSO.out (by omega) (by omega) rfl (rowF_len _ _) (row8_has HH2.out) (fun h => by cases h)) ?_
          rintro e w5 (⟨gx, x, rfl, hgx, hhx, hsol, hb5⟩ | ⟨_, hno, _⟩)
          rotate_left
          · exact absurd (Dep.unit (HDEP.out v hlt2)) hno
          have HB5 : Hid (Below w2.heap.size w2 w5) := HB4.out.trans (hb5.mono HB4.out.size)
          have hO5 := own_below HO4.out hb5
          have HO5 : Hid (w5.ownsRow w2.heap.size 22 1 u16 v (slsV H gs)) := hO5
          have HRO5 : Hid (∀ (j g : Nat), gs[j]? = some g → w5.heap[g]? = some (.cells (vfs (rowF H (D j))) 5 (0, 0))) := fun j g hj => heap_later (HRO4.out j g hj) hb5
          have HX5 : Hid (w5.heap[gx]? = some (.cells (vfs (rowF lr x)) 5 (0, 0))) := hhx
          have HSOL : Hid (∀ u, u < c → unitF v u = sumF (fun l => gm (A l u) (x l)) lr) := sol_unit hsol
          have zx : gx < w5.heap.size := ltHeap hhx
          clear hb5 hO5 hgx hhx hsol HB4 HO4 HRO4 HH2 HS4
          have hmk := run_make8 H (by omega) w5
          have hz : zeros H = varP H (fun q l => gm (x l) (bytesD L l q)) 0 0 := varP_zero H _
          rw [hz] at hmk
          go_wp2
          clear hmk hz
          obtain ⟨fS, hfS⟩ : ∃ fS : Nat → Nat → F, fS = fun q l => gm (x l) (bytesD L l q) := ⟨_, rfl⟩
          have HFS : Hid (∀ q l, fS q l = gm (x l) (bytesD L l q)) := fun q l => by rw [hfS]
          rw [← hfS]
          clear hfS
          obtain ⟨g0, hg0⟩ : ∃ g0, g0 = w5.heap.size := ⟨_, rfl⟩
          have X1 : Hid ((w5.alloc (.cells (vfs (varP H fS 0 0)) 5)).heap[gx]? = some (.cells (vfs (rowF lr x)) 5 (0, 0))) := (Below.heap_alloc _ _ _ zx).trans HX5.out
          have X2 : Hid ((w5.alloc (.cells (vfs (varP H fS 0 0)) 5)).heap[g0]? = some (.cells (vfs (varP H fS 0 0)) 5 (0, 0))) := by rw [hg0]; exact heap_alloc_last _ _
          have X3 : Hid (Below w5.heap.size w5 (w5.alloc (.cells (vfs (varP H fS 0 0)) 5))) := (Below.refl _ _).alloc (Nat.le_refl _) _
          have zg : gx ≠ g0 := by omega
          rw [← hg0]
          have HG0 : Hid (g0 = w5.heap.size) := hg0
          clear hg0 zx HX5
          generalize (w5.alloc (.cells (vfs (varP H fS 0 0)) 5)) = W6 at *
          generalize wr = w1 at *
          go_loopw [69] (fun t wr => ∃ i : Nat, i ≤ lr ∧ t = .int .i64 i ∧ W6.grownBy wr (some g0) ∧ wr.heap[g0]? = some (.cells (vfs (varP H fS i 0)) 5 (0, 0))) (fun t _ => lr - (intOf t).toNat)
          case atStart => exact ⟨0, by omega, rfl, World.grownBy.refl _ _, X2.out⟩
          case round =>
            obtain ⟨i, hi, rfl, hgb, hs⟩ := hrel
            have HG : Hid (W6.grownBy wr (some g0)) := hgb
            have HS : Hid (wr.heap[g0]? = some (.cells (vfs (varP H fS i 0)) 5 (0, 0))) := hs
            clear hgb hs
            by_cases hlt3 : i < lr
            · have cx := cellAt (grown_block HG.out X1.out zg) i _ (vfs_get _ _ (by rw [rowF_len]; exact hlt3))
              rw [at8_rowF hlt3] at cx
              go_wp2
              generalize wr = wo at *
              go_loopw [23] (fun t wr => ∃ b : Nat, b ≤ H ∧ t = .int .i64 b ∧ W6.grownBy wr (some g0) ∧ wr.heap[g0]? = some (.cells (vfs (varP H fS i b)) 5 (0, 0))) (fun t _ => H - (intOf t).toNat)
              case atStart => exact ⟨0, by omega, rfl, HG.out, HS.out⟩
              case round =>
                obtain ⟨b, hb, rfl, hgb, hs⟩ := hrel
                have HG2 : Hid (W6.grownBy wr (some g0)) := hgb
                have HS2 : Hid (wr.heap[g0]? = some (.cells (vfs (varP H fS i b)) 5 (0, 0))) := hs
                clear cx
                by_cases hlt4 : b < H
                · have hBw : ∀ u, W6.grownBy u (some g0) → Below w.heap.size w u := fun u hu => by
                    have h5 : Below w.heap.size w w5 := HB2.out.trans (HB5.out.mono HB2.out.size)
                    have h6 : Below w.heap.size w W6 := h5.trans (X3.out.mono h5.size)
                    exact below_grown h6 hu (by rw [HG0.out]; exact h5.size)
                  have hvl : i < L.length := by rw [← HLR.out]; exact hlt3
                  obtain ⟨bL, off, rfl, hbL, hcl⟩ := rows8_at HR.out hvl
                  obtain ⟨xs, hxs⟩ : ∃ xs, L[i]? = some xs := ⟨_, List.getElem?_eq_getElem hvl⟩
                  obtain ⟨a', cap', e1, e2⟩ := hcl i xs hxs
                  have hxl : xs.length = H := HL.out xs (List.mem_of_getElem? hxs)
                  obtain ⟨b', off', rfl, hb', he2⟩ := row8_cell e2 (show b < xs.length by rw [hxl]; exact hlt4)
                  have hDv : bytesD L i b = at8 xs b := by simp [bytesD, List.getD_eq_getElem?_getD, hxs]
                  have C3 : ∀ u, W6.grownBy u (some g0) → u.cell? ⟨bL, off + i, none⟩ = some (.slice (some ⟨b', off', none⟩) H cap') := fun u hu => by rw [← hxl]; exact cell_later (hBw u hu) e1
                  have C4 : ∀ u, W6.grownBy u (some g0) → u.cell? ⟨b', off' + b, none⟩ = some (.int .u8 ((bytesD L i b).toNat : Int)) := fun u hu => by rw [hDv]; exact cell_later (hBw u hu) (he2 b (by rw [hxl]; exact hlt4))
                  obtain ⟨sj, hsj⟩ : ∃ sj, sj = sumF (fS b) i := ⟨_, rfl⟩
                  have c0 : wr.drew.cell? ⟨g0, b, none⟩ = some (.int .u8 (sj.toNat : Int)) := by
                    rw [cellAt (w := wr.drew) hs b _ (vfs_get _ _ (by rw [varP_len]; exact hlt4)), varP_at hlt4, hsj]
                  have d0 : wr.drew.frozen? ⟨g0, b, none⟩ = false := frozen_of_row _ _ _ _ _ (show wr.drew.heap[g0]? = _ from hs)
                  have HT : Hid ((wr.drew.setCell ⟨g0, b, none⟩ (.int .u8 ((ga sj (gm (x i) (bytesD L i b))).toNat : Int))).heap[g0]? = some (.cells (vfs (varP H fS i (b + 1))) 5 (0, 0))) := by
                    show _ = _
                    rw [heap_setCell_same _ _ _ _ _ _ (show wr.drew.heap[g0]? = _ from hs), vfs_set, hsj, ← HFS.out, varP_set hlt4]
                  have ex := xor_val sj (gm (x i) (bytesD L i b))
                  have hS0 : W6.grownBy wr.drew (some g0) := grownBy_drew hgb
                  clear hgb hs hcl hxs e1 e2 he2 hDv hsj hBw
                  go_upto_region 22 with fail
                  refine wp_region_noPanic ?_
                  refine wp_region_held_drew (S := fun u => W6.grownBy u (some g0)) (by kernel_rfl) ?_ (fun hHeld => ?_)
                  · exact hS0
                  refine wpAnyH_take (i := 0) (oi := { dst := some 79, op := Op.move (Operand.tmp 20), type := 22, pos := "ref.go:67", after := #[], guard := none }) (v := ?_) rfl (by kernel_rfl) (by kernel_rfl) (by kernel_rfl) (fun _ _ _ h => h) (Or.inl ⟨by rfl, ?_⟩) hHeld ?_
                  rotate_left
                  · intro u hSw
                    go_simp
                    try with_reducible rfl
                  try simp only [Act.put, List.setIfInBounds_toArray, List.set_cons_zero, List.set_cons_succ]
                  refine wpAnyH_take (i := 1) (oi := { dst := some 80, op := Op.move (Operand.tmp 23), type := 3, pos := "ref.go:67", after := #[], guard := none }) (v := ?_) rfl (by kernel_rfl) (by kernel_rfl) (by kernel_rfl) (fun _ _ _ h => h) (Or.inl ⟨by rfl, ?_⟩) hHeld ?_
                  rotate_left
                  · intro u hSw
                    go_simp
                    try with_reducible rfl
                  try simp only [Act.put, List.setIfInBounds_toArray, List.set_cons_zero, List.set_cons_succ]
                  refine wpAnyH_take (i := 2) (oi := { dst := some 81, op := Op.indexAddr 22 (Operand.tmp 79) (Operand.tmp 80), type := 0, pos := "ref.go:67", after := #[{ on := 0, ground := Ground.data }, { on := 1, ground := Ground.data }], guard := none }) (v := ?_) rfl (by kernel_rfl) (by kernel_rfl) (by kernel_rfl) (fun _ _ _ h => h) (Or.inl ⟨by rfl, ?_⟩) hHeld ?_
                  rotate_left
                  · intro u hSw
                    go_simp
                    try with_reducible rfl
                  try simp only [Act.put, List.setIfInBounds_toArray, List.set_cons_zero, List.set_cons_succ]
                  refine wpAnyH_take (i := 4) (oi := { dst := some 83, op := Op.move (Operand.tmp 22), type := 5, pos := "ref.go:67", after := #[], guard := none }) (v := ?_) rfl (by kernel_rfl) (by kernel_rfl) (by kernel_rfl) (fun _ _ _ h => h) (Or.inl ⟨by rfl, ?_⟩) hHeld ?_
                  rotate_left
                  · intro u hSw
                    go_simp
                    try with_reducible rfl
                  try simp only [Act.put, List.setIfInBounds_toArray, List.set_cons_zero, List.set_cons_succ]
                  refine wpAnyH_take (i := 5) (oi := { dst := some 84, op := Op.move (Operand.tmp 3), type := 25, pos := "ref.go:67", after := #[], guard := none }) (v := ?_) rfl (by kernel_rfl) (by kernel_rfl) (by kernel_rfl) (fun _ _ _ h => h) (Or.inl ⟨by rfl, ?_⟩) hHeld ?_
                  rotate_left
                  · intro u hSw
                    go_simp
                    try with_reducible rfl
                  try simp only [Act.put, List.setIfInBounds_toArray, List.set_cons_zero, List.set_cons_succ]
                  refine wpAnyH_take (i := 6) (oi := { dst := some 85, op := Op.move (Operand.tmp 21), type := 3, pos := "ref.go:67", after := #[], guard := none }) (v := ?_) rfl (by kernel_rfl) (by kernel_rfl) (by kernel_rfl) (fun _ _ _ h => h) (Or.inl ⟨by rfl, ?_⟩) hHeld ?_
                  rotate_left
                  · intro u hSw
                    go_simp
                    try with_reducible rfl
                  try simp only [Act.put, List.setIfInBounds_toArray, List.set_cons_zero, List.set_cons_succ]
                  refine wpAnyH_take (i := 7) (oi := { dst := some 86, op := Op.indexAddr 25 (Operand.tmp 84) (Operand.tmp 85), type := 0, pos := "ref.go:67", after := #[{ on := 5, ground := Ground.data }, { on := 6, ground := Ground.data }], guard := none }) (v := ?_) rfl (by kernel_rfl) (by kernel_rfl) (by kernel_rfl) (fun _ _ _ h => h) (Or.inl ⟨by rfl, ?_⟩) hHeld ?_
                  rotate_left
                  · intro u hSw
                    go_simp
                    try with_reducible rfl
                  try simp only [Act.put, List.setIfInBounds_toArray, List.set_cons_zero, List.set_cons_succ]
                  refine wpAnyH_take (i := 8) (oi := { dst := some 87, op := Op.load 22 (Operand.tmp 86), type := 22, pos := "ref.go:67", after := #[{ on := 7, ground := Ground.data }], guard := none }) (v := ?_) rfl (by kernel_rfl) (by kernel_rfl) (by kernel_rfl) (fun _ _ _ h => h) (Or.inl ⟨by rfl, ?_⟩) hHeld ?_
                  rotate_left
                  · intro u hSw
                    have q0 := C3 u hSw
                    go_simp
                    try with_reducible rfl
                  try simp only [Act.put, List.setIfInBounds_toArray, List.set_cons_zero, List.set_cons_succ]
                  refine wpAnyH_take (i := 9) (oi := { dst := some 88, op := Op.move (Operand.tmp 23), type := 3, pos := "ref.go:67", after := #[], guard := none }) (v := ?_) rfl (by kernel_rfl) (by kernel_rfl) (by kernel_rfl) (fun _ _ _ h => h) (Or.inl ⟨by rfl, ?_⟩) hHeld ?_
                  rotate_left
                  · intro u hSw
                    go_simp
                    try with_reducible rfl
                  try simp only [Act.put, List.setIfInBounds_toArray, List.set_cons_zero, List.set_cons_succ]
                  refine wpAnyH_take (i := 10) (oi := { dst := some 89, op := Op.indexAddr 22 (Operand.tmp 87) (Operand.tmp 88), type := 0, pos := "ref.go:67", after := #[{ on := 8, ground := Ground.data }, { on := 9, ground := Ground.data }], guard := none }) (v := ?_) rfl (by kernel_rfl) (by kernel_rfl) (by kernel_rfl) (fun _ _ _ h => h) (Or.inl ⟨by rfl, ?_⟩) hHeld ?_
                  rotate_left
                  · intro u hSw
                    go_simp
                    try with_reducible rfl
                  try simp only [Act.put, List.setIfInBounds_toArray, List.set_cons_zero, List.set_cons_succ]
                  refine wpAnyH_take (i := 11) (oi := { dst := some 90, op := Op.load 5 (Operand.tmp 89), type := 5, pos := "ref.go:67", after := #[{ on := 10, ground := Ground.data }], guard := none }) (v := ?_) rfl (by kernel_rfl) (by kernel_rfl) (by kernel_rfl) (fun _ _ _ h => h) (Or.inl ⟨by rfl, ?_⟩) hHeld ?_
                  rotate_left
                  · intro u hSw
                    have q0 := C4 u hSw
                    go_simp
                    try with_reducible rfl
                  try simp only [Act.put, List.setIfInBounds_toArray, List.set_cons_zero, List.set_cons_succ]
                  refine wpAnyH_ready (rs := [3, 12]) (by kernel_rfl) (by simp) ?_
                  refine (AllReadyH.cons (o := { dst := some 82, op := Op.load 5 (Operand.tmp 81), type := 5, pos := "ref.go:67", after := #[{ on := 2, ground := Ground.data }], guard := none }) rfl (fun K hK => ?_) (AllReadyH.cons (o := { dst := some 91, op := Op.call { callee := Callee.value (Operand.func 44), args := #[Operand.tmp 83, Operand.tmp 90], argTypes := #[5, 5] }, type := 5, pos := "ref.go:67", after := #[{ on := 4, ground := Ground.data }, { on := 11, ground := Ground.data }], guard := none }) rfl (fun K hK => ?_) AllReadyH.nil))
                  · go_simp
                    refine hK.out _ _ ?_ (fun hHeld => ?_)
                    · exact hS0
                    clear hK K
                    try simp only [Act.put, List.setIfInBounds_toArray, List.set_cons_zero, List.set_cons_succ]
                    refine wpAnyH_ready (rs := [12]) (by kernel_rfl) (by simp) ?_
                    refine (AllReadyH.cons (o := { dst := some 91, op := Op.call { callee := Callee.value (Operand.func 44), args := #[Operand.tmp 83, Operand.tmp 90], argTypes := #[5, 5] }, type := 5, pos := "ref.go:67", after := #[{ on := 4, ground := Ground.data }, { on := 11, ground := Ground.data }], guard := none }) rfl (fun K hK => ?_) AllReadyH.nil)
                    go_simp
                    refine Calls.mono (rmul_F (x i) (bytesD L i b) _) ?_
                    rintro e wi ⟨rfl, rfl⟩
                    go_wp2_with fail
                    refine hK.out _ _ ?_ (fun hHeld => ?_)
                    · exact hS0
                    clear hK K
                    try simp only [Act.put, List.setIfInBounds_toArray, List.set_cons_zero, List.set_cons_succ]
                    refine wpAnyH_take (i := 13) (oi := { dst := some 92, op := Op.binOp BinOp.xor 5 (Operand.tmp 82) (Operand.tmp 91) 5, type := 5, pos := "ref.go:67", after := #[{ on := 3, ground := Ground.data }, { on := 12, ground := Ground.data }], guard := none }) (v := ?_) rfl (by kernel_rfl) (by kernel_rfl) (by kernel_rfl) (fun _ _ _ h => h) (Or.inl ⟨by rfl, ?_⟩) hHeld ?_
                    rotate_left
                    · intro u hSw
                      go_simp
                      try with_reducible rfl
                    try simp only [Act.put, List.setIfInBounds_toArray, List.set_cons_zero, List.set_cons_succ]
                    refine wpAnyH_take (i := 14) (oi := { dst := some 93, op := Op.indexAddr 22 (Operand.tmp 79) (Operand.tmp 80), type := 0, pos := "ref.go:67", after := #[{ on := 0, ground := Ground.data }, { on := 1, ground := Ground.data }, { on := 0, ground := Ground.phase }, { on := 1, ground := Ground.phase }, { on := 2, ground := Ground.phase }, { on := 3, ground := Ground.phase }, { on := 4, ground := Ground.phase }, { on := 5, ground := Ground.phase }, { on := 6, ground := Ground.phase }, { on := 7, ground := Ground.phase }, { on := 8, ground := Ground.phase }, { on := 9, ground := Ground.phase }, { on := 10, ground := Ground.phase }, { on := 11, ground := Ground.phase }, { on := 12, ground := Ground.phase }, { on := 13, ground := Ground.phase }], guard := none }) (v := ?_) rfl (by kernel_rfl) (by kernel_rfl) (by kernel_rfl) (fun _ _ _ h => h) (Or.inl ⟨by rfl, ?_⟩) hHeld ?_
                    rotate_left
                    · intro u hSw
                      go_simp
                      try with_reducible rfl
                    try simp only [Act.put, List.setIfInBounds_toArray, List.set_cons_zero, List.set_cons_succ]
                    refine wpAnyH_ready (rs := [15]) (by kernel_rfl) (by simp) ?_
                    refine (AllReadyH.cons (o := { dst := none, op := Op.store 5 (Operand.tmp 93) (Operand.tmp 92), type := 0, pos := "ref.go:67", after := #[{ on := 14, ground := Ground.data }, { on := 13, ground := Ground.data }, { on := 12, ground := Ground.chain }, { on := 0, ground := Ground.phase }, { on := 1, ground := Ground.phase }, { on := 2, ground := Ground.phase }, { on := 3, ground := Ground.phase }, { on := 4, ground := Ground.phase }, { on := 5, ground := Ground.phase }, { on := 6, ground := Ground.phase }, { on := 7, ground := Ground.phase }, { on := 8, ground := Ground.phase }, { on := 9, ground := Ground.phase }, { on := 10, ground := Ground.phase }, { on := 11, ground := Ground.phase }, { on := 12, ground := Ground.phase }, { on := 13, ground := Ground.phase }], guard := none }) rfl (fun K hK => ?_) AllReadyH.nil)
                    go_simp
                    refine hK.out _ _ ?_ (fun hHeld => ?_)
                    · exact grownBy_setCell hS0 _
                    clear hK K
                    try simp only [Act.put, List.setIfInBounds_toArray, List.set_cons_zero, List.set_cons_succ]
                    refine wpAnyH_done (by kernel_rfl) ?_ _
                    refine NoPanic.normal ?_
                    go_wp2
                    exact ⟨⟨b + 1, by omega, by go_num, grownBy_setCell hS0 _, HT.out⟩, by simp [intOf]; omega⟩
                  · go_simp
                    refine Calls.mono (rmul_F (x i) (bytesD L i b) _) ?_
                    rintro e wi ⟨rfl, rfl⟩
                    go_wp2_with fail
                    refine hK.out _ _ ?_ (fun hHeld => ?_)
                    · exact hS0
                    clear hK K
                    try simp only [Act.put, List.setIfInBounds_toArray, List.set_cons_zero, List.set_cons_succ]
                    refine wpAnyH_ready (rs := [3]) (by kernel_rfl) (by simp) ?_
                    refine (AllReadyH.cons (o := { dst := some 82, op := Op.load 5 (Operand.tmp 81), type := 5, pos := "ref.go:67", after := #[{ on := 2, ground := Ground.data }], guard := none }) rfl (fun K hK => ?_) AllReadyH.nil)
                    go_simp
                    refine hK.out _ _ ?_ (fun hHeld => ?_)
                    · exact hS0
                    clear hK K
                    try simp only [Act.put, List.setIfInBounds_toArray, List.set_cons_zero, List.set_cons_succ]
                    refine wpAnyH_take (i := 13) (oi := { dst := some 92, op := Op.binOp BinOp.xor 5 (Operand.tmp 82) (Operand.tmp 91) 5, type := 5, pos := "ref.go:67", after := #[{ on := 3, ground := Ground.data }, { on := 12, ground := Ground.data }], guard := none }) (v := ?_) rfl (by kernel_rfl) (by kernel_rfl) (by kernel_rfl) (fun _ _ _ h => h) (Or.inl ⟨by rfl, ?_⟩) hHeld ?_
                    rotate_left
                    · intro u hSw
                      go_simp
                      try with_reducible rfl
                    try simp only [Act.put, List.setIfInBounds_toArray, List.set_cons_zero, List.set_cons_succ]
                    refine wpAnyH_take (i := 14) (oi := { dst := some 93, op := Op.indexAddr 22 (Operand.tmp 79) (Operand.tmp 80), type := 0, pos := "ref.go:67", after := #[{ on := 0, ground := Ground.data }, { on := 1, ground := Ground.data }, { on := 0, ground := Ground.phase }, { on := 1, ground := Ground.phase }, { on := 2, ground := Ground.phase }, { on := 3, ground := Ground.phase }, { on := 4, ground := Ground.phase }, { on := 5, ground := Ground.phase }, { on := 6, ground := Ground.phase }, { on := 7, ground := Ground.phase }, { on := 8, ground := Ground.phase }, { on := 9, ground := Ground.phase }, { on := 10, ground := Ground.phase }, { on := 11, ground := Ground.phase }, { on := 12, ground := Ground.phase }, { on := 13, ground := Ground.phase }], guard := none }) (v := ?_) rfl (by kernel_rfl) (by kernel_rfl) (by kernel_rfl) (fun _ _ _ h => h) (Or.inl ⟨by rfl, ?_⟩) hHeld ?_
                    rotate_left
                    · intro u hSw
                      go_simp
                      try with_reducible rfl
                    try simp only [Act.put, List.setIfInBounds_toArray, List.set_cons_zero, List.set_cons_succ]
                    refine wpAnyH_ready (rs := [15]) (by kernel_rfl) (by simp) ?_
                    refine (AllReadyH.cons (o := { dst := none, op := Op.store 5 (Operand.tmp 93) (Operand.tmp 92), type := 0, pos := "ref.go:67", after := #[{ on := 14, ground := Ground.data }, { on := 13, ground := Ground.data }, { on := 12, ground := Ground.chain }, { on := 0, ground := Ground.phase }, { on := 1, ground := Ground.phase }, { on := 2, ground := Ground.phase }, { on := 3, ground := Ground.phase }, { on := 4, ground := Ground.phase }, { on := 5, ground := Ground.phase }, { on := 6, ground := Ground.phase }, { on := 7, ground := Ground.phase }, { on := 8, ground := Ground.phase }, { on := 9, ground := Ground.phase }, { on := 10, ground := Ground.phase }, { on := 11, ground := Ground.phase }, { on := 12, ground := Ground.phase }, { on := 13, ground := Ground.phase }], guard := none }) rfl (fun K hK => ?_) AllReadyH.nil)
                    go_simp
                    refine hK.out _ _ ?_ (fun hHeld => ?_)
                    · exact grownBy_setCell hS0 _
                    clear hK K
                    try simp only [Act.put, List.setIfInBounds_toArray, List.set_cons_zero, List.set_cons_succ]
                    refine wpAnyH_done (by kernel_rfl) ?_ _
                    refine NoPanic.normal ?_
                    go_wp2
                    exact ⟨⟨b + 1, by omega, by go_num, grownBy_setCell hS0 _, HT.out⟩, by simp [intOf]; omega⟩
                · obtain rfl : H = b := by omega
                  rw [varP_done] at hs
                  have HS3 : Hid (wr.heap[g0]? = some (.cells (vfs (varP H fS (i + 1) 0)) 5 (0, 0))) := hs
                  clear hgb hs HS HS2
                  go_wp2
                  exact ⟨⟨i + 1, by omega, by go_num, HG2.out, HS3.out⟩, by simp [intOf]; omega⟩
            · obtain rfl : lr = i := by omega
              have hfin : varP H fS lr 0 = rowF H (D v) := by
                rw [varP_full]
                refine rowF_congr fun q hq => ?_
                have e1 : sumF (fS q) lr = sumF (fun l => gm (x l) (bytesD L l q)) lr := sumF_congr fun l _ => HFS.out q l
                exact e1.trans (var_sol (v := v) (A := A) (x := x) (R := fun l => bytesD L l q) (D := fun u => D u q) hlt2 HSOL.out fun l hl => HD.out l hl q hq)
              have hs := HS.out
              rw [hfin] at hs
              have HSF : Hid (wr.heap[g0]? = some (.cells (vfs (rowF H (D v))) 5 (0, 0))) := hs
              have h6 : Below w5.heap.size w5 wr := grownBy_below' X3.out HG.out (by rw [HG0.out]; exact Nat.le_refl _)
              have HB6 : Hid (Below w2.heap.size w2 wr) := HB5.out.trans (h6.mono HB5.out.size)
              have hO6 := own_below HO5.out h6
              have HRO6 : Hid (∀ (j g : Nat), gs[j]? = some g → wr.heap[g]? = some (.cells (vfs (rowF H (D j))) 5 (0, 0))) := fun j g hj => heap_later (HRO5.out j g hj) h6
              have ho7 := World.ownsRow.alloc hO6 (.cells #[.slice (some ⟨g0, 0, none⟩) H H] 22)
              obtain ⟨gO, capG, w8, hrun, ho8, hgr, hor, hlt8⟩ := appendS (b := wr.heap.size) (c := 1) (x := .slice (some ⟨g0, 0, none⟩) H H) 25 ho7 (cellAt (heap_alloc_last wr (.cells #[.slice (some ⟨g0, 0, none⟩) H H] 22)) 0 _ rfl) rfl (by omega) (by have := HB6.out.size; simp; omega)
              rw [slsV_snoc] at ho8
              have hb8 := below_own (B := w2.heap.size) (HB6.out.alloc HB6.out.size (.cells #[.slice (some ⟨g0, 0, none⟩) H H] 22)) ho7 hgr (by have := HB6.out.size; simp; omega)
              have hkeep : ∀ (g : Nat) (ys : List F), wr.heap[g]? = some (.cells (vfs ys) 5 (0, 0)) → w8.heap[g]? = some (.cells (vfs ys) 5 (0, 0)) := fun g ys h =>
                own_other ho7 hgr ((Below.heap_alloc _ _ _ (ltHeap h)).trans h) (by decide)
              have HROW : Hid (∀ (j g : Nat), (gs ++ [g0])[j]? = some g → w8.heap[g]? = some (.cells (vfs (rowF H (D j))) 5 (0, 0))) := fun j g hj => by
                by_cases hjv : j < v
                · rw [List.getElem?_append_left (by rw [HGS.out]; exact hjv)] at hj
                  exact hkeep g _ (HRO6.out j g hj)
                · have hj2 : j = v := by
                    have := (List.getElem?_eq_some_iff.1 hj).1
                    rw [List.length_append, HGS.out, List.length_singleton] at this
                    omega
                  subst hj2
                  rw [List.getElem?_append_right (by rw [HGS.out]; exact Nat.le_refl _), HGS.out, Nat.sub_self] at hj
                  obtain rfl := Option.some.inj hj
                  exact hkeep _ _ HSF.out
              have HLEN : Hid ((gs ++ [g0]).length = v + 1) := by show _ = _; rw [List.length_append, HGS.out]; rfl
              have HRun : Hid _ := hrun
              have HO8 : Hid _ := ho8
              have HB8 : Hid _ := hb8
              clear ho7 hrun ho8 hb8 hgr hor hlt8 hkeep h6 hO6 hs hfin
              go_wp2_with (at_builtin; refine wpList_append_run rfl _ _ 25 rfl _ _ _ _ rfl rfl HRun.out ?_)
              exact ⟨⟨v + 1, gs ++ [g0], by omega, by go_num, HLEN.out, HB8.out, HO8.out, HROW.out⟩, by simp [intOf]; omega⟩
        · obtain rfl : c = v := by omega
          have hfin : ∃ b cap, u16 = .slice b c cap ∧ Rows8 wr b ((List.range c).map fun v => rowF H (D v)) := by
            rcases ho.2 with ⟨_, h0⟩ | ⟨g, cap, cur, e, hg⟩
            · omega
            · refine ⟨some ⟨g, 0, none⟩, cap, e, .inr ⟨g, 0, rfl, fun j ys hj => ?_⟩⟩
              have hjv : j < c := by have := (List.getElem?_eq_some_iff.1 hj).1; simpa using this
              rw [List.getElem?_map, List.getElem?_range hjv] at hj
              obtain rfl := Option.some.inj hj
              obtain ⟨g', hg'⟩ : ∃ g', gs[j]? = some g' := ⟨_, List.getElem?_eq_getElem (by rw [HGS.out]; exact hjv)⟩
              have hrow := HRO.out j g' hg'
              have hoe := ho
              rw [e] at hoe
              refine ⟨some ⟨g', 0, none⟩, H, ?_, row8_own hrow⟩
              rw [Nat.zero_add, hoe.cellAt j (by rw [Nat.mul_one]; exact hjv), rowF_len]
              simp [slsV, hg']
          obtain ⟨b9, cap9, rfl, hr9⟩ := hfin
          have HR9 : Hid (Rows8 wr b9 ((List.range c).map fun v => rowF H (D v))) := hr9
          clear hr9 ho
          go_wp2
          go_ret2
          exact ⟨b9, c, cap9, rfl, rfl, HR9.out, HB2.out.trans (HBR.out.mono HB2.out.size)⟩
end Go.Proofs.YtmlpijlcpeoeaaaDoor
