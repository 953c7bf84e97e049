/- The walk of BaseSquares: at all numbers and choices. -/
import Derived.Test.YtokepcikpkffpaaDoorBaseF
import Derived.Test.YtokepcikpkffpaaDoorHolds
import Derived.Test.YtokepcikpkffpaaDoorOwn
import Derived.Test.YtokepcikpkffpaaDoorMatS
import Derived.Test.YtokepcikpkffpaaDoorRefOf
import Derived.Test.YtokepcikpkffpaaDoorRegHeld
import Derived.Deep.DeepCutAuto
import Derived.Test.YtokepcikpkffpaaDoorSolveX
import Derived.Test.YtokepcikpkffpaaDoorMatAl
import Derived.Test.YtokepcikpkffpaaDoorMatOf
import Derived.Test.YtokepcikpkffpaaDoorErrs
import Derived.BigRegion
/- alive of stage 4. -/
namespace Go.Proofs.YtokepcikpkffpaaDoor
open Go.RowKit Gf
set_option linter.unusedVariables false
set_option maxRecDepth 20000
theorem alive_par : parM 2 2 = [142, 244, 244, 142] := by decide +kernel
set_option maxHeartbeats 2000000 in
theorem alive4_ok (w : World) : Calls Tryd.prog 8 #[] w fun e w' => e = .returned (.bool true) ∧ Below w.heap.size w w' := by
  go_enter Tryd.func8, Tryd.ntmps8
  go_wp2_with fail
  refine Calls.mono (parity_F 2 2 _ (by decide) (by decide) (by decide)) ?_
  rintro e w2 ⟨g, m, rfl, hm, hg, hh, hb⟩
  obtain rfl : m = 4 := hm
  rw [alive_par] at hh
  have HW2 : Hid (Below w.heap.size w w2) := hb
  have hA := holds_new (holds_cons (holds_nil w2) hh) #[.int .i64 2, .int .i64 2, .slice (some ⟨g, 0, none⟩) 4 4] 30
  have c1 := cellAt (holds_at hA 0 rfl) 0 _ rfl
  have c2 := cellAt (holds_at hA 0 rfl) 1 _ rfl
  have c3 := cellAt (holds_at hA 0 rfl) 2 _ rfl
  have hcv := conv8 (ca := 4) (show 4 = ([142, 244, 244, 142] : List F).length from rfl) (holds_row hA 1 rfl)
  rw [show str8 [142, 244, 244, 142] = { data := #[142, 244, 244, 142] } by decide +kernel] at hcv
  have h2 : ((w2.alloc (.cells #[.int .i64 2, .int .i64 2, .slice (some ⟨g, 0, none⟩) 4 4] 30)).alloc (.cells #[.int .u8 142, .int .u8 244, .int .u8 244, .int .u8 142] 5)).heap[w2.heap.size + 1]? = some (.cells (vfs [142, 244, 244, 142]) 5 (0, 0)) := by
    have := heap_alloc_last (w2.alloc (.cells #[.int .i64 2, .int .i64 2, .slice (some ⟨g, 0, none⟩) 4 4] 30)) (.cells #[.int .u8 142, .int .u8 244, .int .u8 244, .int .u8 142] 5)
    rw [World.size_alloc] at this
    exact this
  have hcv2 := conv8 (ca := 4) (show 4 = ([142, 244, 244, 142] : List F).length from rfl) (row8_own h2)
  rw [show str8 [142, 244, 244, 142] = { data := #[142, 244, 244, 142] } by decide +kernel] at hcv2
  clear hb hh hA h2
  go_wp2
  go_ret
  exact ⟨rfl, (HW2.out.alloc HW2.out.size _).alloc (by have := HW2.out.size; simp; omega) _⟩
end Go.Proofs.YtokepcikpkffpaaDoor

/- What the statements' own choice of numbers answers: so many numbers, rising, all below the bound; nothing that was there turns. -/
namespace Go.Proofs.YtokepcikpkffpaaDoor
open Go.RowKit Gf
set_option linter.unusedVariables false
set_option maxRecDepth 20000
/-- marks in memory -/
def bvs (n : Nat) (f : Nat → Bool) : Array Value := ((List.range n).map fun i => Value.bool (f i)).toArray
theorem bvs_size (n : Nat) (f : Nat → Bool) : (bvs n f).size = n := by simp [bvs]
theorem bvs_get {n i : Nat} {f : Nat → Bool} (h : i < n) : (bvs n f)[i]? = some (.bool (f i)) := by simp [bvs, h]
def upB (f : Nat → Bool) (i : Nat) : Nat → Bool := fun j => f j || decide (j = i)
theorem bvs_set {n i : Nat} {f : Nat → Bool} : (bvs n f).setIfInBounds i (.bool true) = bvs n (upB f i) := by
  apply Array.ext_getElem?
  intro j
  simp only [bvs, Array.getElem?_setIfInBounds, List.size_toArray, List.length_map, List.length_range, List.getElem?_toArray, List.getElem?_map, upB]
  by_cases h : i = j
  · subst h; by_cases h2 : i < n <;> simp [h2]
  · rw [if_neg h]
    by_cases h2 : j < n <;> simp [h2, Ne.symm h]
theorem madeB (n : Nat) : madeCells (Value.bool false).cells n = bvs n (fun _ => false) := by
  apply Array.ext_getElem?
  intro i
  by_cases h : i < n <;> simp [madeCells, bvs, Value.cells, h, Nat.mod_one]
theorem run_makeB (n : Nat) (hn : n ≤ 65536) (w : World) :
    (Instr.makeSlice 62 (.int .i64 (n : Int)) (.int .i64 (n : Int))).run Tryd.prog w = .ok (.slice (some ⟨w.heap.size, 0, none⟩) n n) (w.alloc (.cells (bvs n (fun _ => false)) 4)) := by
  have hi : (Tryd.prog.info? 4).map (fun i => (i.size, i.bytes, i.zero)) = some (1, 1, some (.bool false)) := by kernel_rfl
  cases hq : Tryd.prog.info? 4 with
  | none => simp [hq] at hi
  | some i =>
    simp only [hq, Option.map_some, Option.some.injEq, Prod.mk.injEq] at hi
    have := run_make (P := Tryd.prog) w 62 4 i _ Tryd.underlying62 hq hi.2.2 .i64 .i64 n n (by omega) (by omega) (by rw [hi.2.1]; omega) (by omega)
    rw [this, hi.1]
    simp only [Int.toNat_natCast, Nat.mul_one, madeB]
/-- how many are marked -/
def cntB (f : Nat → Bool) (n : Nat) : Nat := ((List.range n).filter f).length
theorem cntB_le (f : Nat → Bool) (n : Nat) : cntB f n ≤ n := by have := List.length_filter_le f (List.range n); simpa [cntB] using this
theorem cntB_succ (f : Nat → Bool) (n : Nat) : cntB f (n + 1) = cntB f n + if f n then 1 else 0 := by
  simp only [cntB, List.range_succ, List.filter_append, List.length_append, List.filter_cons, List.filter_nil]
  split <;> rfl
theorem cntB_same {f g : Nat → Bool} : ∀ {n : Nat}, (∀ i, i < n → f i = g i) → cntB f n = cntB g n
  | 0, _ => rfl
  | n + 1, h => by rw [cntB_succ, cntB_succ, cntB_same (n := n) (fun i hi => h i (by omega)), h n (by omega)]
theorem cntB_up {f : Nat → Bool} {i : Nat} (hf : f i = false) : ∀ {n : Nat}, i < n → cntB (upB f i) n = cntB f n + 1
  | 0, h => absurd h (Nat.not_lt_zero _)
  | n + 1, h => by
    rw [cntB_succ, cntB_succ]
    by_cases e : i = n
    · subst e
      rw [cntB_same (f := upB f i) (g := f) (fun j hj => by simp [upB, Nat.ne_of_lt hj]), hf]
      simp [upB]
    · rw [cntB_up hf (n := n) (by omega)]
      have : upB f i n = f n := by simp [upB, Ne.symm e]
      rw [this]; omega
theorem cntB_all {f : Nat → Bool} : ∀ {n : Nat}, (∀ i, i < n → f i = true) → cntB f n = n
  | 0, _ => rfl
  | n + 1, h => by rw [cntB_succ, cntB_all (n := n) (fun i hi => h i (by omega)), h n (by omega)]; rfl
theorem cntB_none (n : Nat) : cntB (fun _ => false) n = 0 := by simp [cntB]
/-- the marked numbers -/
def pickB (f : Nat → Bool) (n : Nat) : List Nat := (List.range n).filter f
theorem pickB_same {f g : Nat → Bool} {n : Nat} (h : ∀ i, i < n → f i = g i) : pickB f n = pickB g n := List.filter_congr fun i hi => h i (by simpa using hi)
theorem pickB_yes {f : Nat → Bool} {n : Nat} (h : f n = true) : pickB f (n + 1) = pickB f n ++ [n] := by simp [pickB, List.range_succ, h]
theorem pickB_no {f : Nat → Bool} {n : Nat} (h : f n = false) : pickB f (n + 1) = pickB f n := by simp [pickB, List.range_succ, h]
theorem pickB_up {f : Nat → Bool} {n : Nat} : pickB (upB f n) n = pickB f n := pickB_same fun i hi => by simp [upB, Nat.ne_of_lt hi]
theorem pickB_sorted (f : Nat → Bool) (n : Nat) : (pickB f n).Pairwise (· < ·) := List.pairwise_lt_range.filter _
theorem pickB_lt {f : Nat → Bool} {n : Nat} : ∀ x ∈ pickB f n, x < n := fun x hx => by simpa using (List.mem_filter.1 hx).1
/-- numbers as values -/
def nvs (L : List Nat) : List Value := L.map fun i => Value.int .i64 ((i : Nat) : Int)
theorem nvs_snoc (L : List Nat) (i : Nat) : nvs L ++ [.int .i64 (i : Int)] = nvs (L ++ [i]) := by simp [nvs]
theorem own_setCell {w : World} {B n g i : Nat} {v x : Value} {e : TypeId} {s : Nat} {xs : List Value} (h : w.ownsRow B e s v n xs) (hg : g < B) : (w.setCell ⟨g, i, none⟩ x).ownsRow B e s v n xs := by
  refine ⟨h.1, h.2.imp id fun ⟨b, cap, cur, h1, h2, h3, h4⟩ => ⟨b, cap, cur, h1, h2, (heap_setCell_other _ _ _ _ (by show b ≠ g; omega)).trans h3, h4⟩⟩
theorem mod_place (x : Int) {n : Nat} (hn : 1 ≤ n) : (-(n : Int) < x.tmod n ∧ x.tmod n < n) ∧ ∃ j : Nat, j < n ∧ x.tmod n % (n : Int) = j := by
  have h1 : -(n : Int) < x.tmod n := by
    rcases Int.le_total 0 x with h | h
    · have := Int.tmod_nonneg n h; omega
    · have h2 := Int.neg_tmod (a := -x) (b := (n : Int))
      have h3 := Int.tmod_lt_of_pos (-x) (show (0 : Int) < n by omega)
      rw [Int.neg_neg] at h2; omega
  have h2 := Int.tmod_lt_of_pos x (show (0 : Int) < n by omega)
  have h3 : 0 ≤ x.tmod n % (n : Int) := Int.emod_nonneg _ (by omega)
  have h4 := Int.emod_lt_of_pos (x.tmod n) (show (0 : Int) < n by omega)
  exact ⟨⟨h1, h2⟩, (x.tmod n % (n : Int)).toNat, by omega, by omega⟩
set_option maxHeartbeats 1000000 in
theorem chosen_F (n k ln cn : Nat) (an : Option Addr) (ns : List Int) (w : World) (hn : 1 ≤ n) (hn2 : n ≤ 256) (hk1 : 1 ≤ k) (hk : k ≤ n) (hln : ln = ns.length) (hm : ln ≤ 140737488355328) (hI : RowI w an ns) (hbd : ∀ x ∈ ns, -9223372036854775808 ≤ x ∧ x ≤ 9223372036854775807) :
    Calls Tryd.prog 21 #[.int .i64 n, .int .i64 k, .slice an ln cn] w fun e w' => ∃ g cap L, e = .returned (.slice (some ⟨g, 0, none⟩) k cap) ∧ L.Pairwise (· < ·) ∧ L.length = k ∧ (∀ x ∈ L, x < n) ∧ w'.ownsRow w.heap.size 3 1 (.slice (some ⟨g, 0, none⟩) k cap) k (nvs L) ∧ Below w.heap.size w w' := by
  have hmk := run_makeB n (by omega)
  have HLN : Hid _ := hln
  have HI : Hid _ := hI
  have HBD : Hid _ := hbd
  clear hln hI hbd
  go_enter Tryd.func21, Tryd.ntmps21
  go_wp2
  have B0 : Hid _ := heap_alloc_last w (.cells (bvs n (fun _ => false)) 4)
  have B1 : Hid (Below w.heap.size w (w.alloc (.cells (bvs n (fun _ => false)) 4))) := (Below.refl w.heap.size w).alloc (Nat.le_refl _) _
  have hz : (w.alloc (.cells (bvs n (fun _ => false)) 4)).heap.size = w.heap.size + 1 := by simp
  have HZ : Hid _ := hz
  clear hmk hz
  generalize (w.alloc (.cells (bvs n (fun _ => false)) 4)) = W1 at *
  go_loopw [8, 18] (fun c i wr => ∃ (j m : Nat) (f : Nat → Bool), j ≤ ln ∧ i = .int .i64 j ∧ c = .int .i64 m ∧ m = cntB f n ∧ m ≤ k ∧ Below w.heap.size w wr ∧ W1.grownBy wr (some w.heap.size) ∧ wr.heap[w.heap.size]? = some (.cells (bvs n f) 4 (0, 0))) (fun _ i _ => ln - (intOf i).toNat)
  case atStart => exact ⟨0, 0, fun _ => false, by omega, rfl, rfl, (cntB_none n).symm, by omega, B1.out, World.grownBy.refl _ _, B0.out⟩
  case round =>
    obtain ⟨j, m, f, hj, rfl, rfl, hmf, hmk, hbw, hgb, hh⟩ := hrel
    by_cases hlt : j < ln
    · have hkn : j < ns.length := by rw [← HLN.out]; exact hlt
      have hget : ns[j]? = some ns[j] := List.getElem?_eq_getElem hkn
      have hbx := HBD.out _ (List.getElem_mem hkn)
      generalize ns[j] = x at hget hbx
      obtain ⟨⟨t1, t2⟩, i, hi, hti⟩ := mod_place x hn
      rcases HI.out with e0 | ⟨b, off, rfl, hrows⟩
      · rw [e0] at hkn; simp at hkn
      have c3 := cell_later hbw (hrows j x hget)
      have c4 := cellAt hh i _ (bvs_get hi)
      have d4 : wr.frozen? ⟨w.heap.size, i, none⟩ = false := frozen_of_row _ _ _ _ _ hh
      have hx1 := hbx.1
      have hx2 := hbx.2
      have HB : Hid _ := hbw
      have HH : Hid _ := hh
      have HG : Hid _ := hgb
      have HM : Hid _ := hmf
      have hn0 : ((n : Int) == 0) = false := beq_eq_false_iff_ne.2 (by omega)
      clear hget hrows hbx hbw hh hgb hkn hmf
      by_cases hmk2 : m < k
      · cases hf : f i with
        | false =>
          rw [hf] at c4
          have HF : Hid _ := hf
          clear hf
          go_wp2
          exact ⟨⟨j + 1, m + 1, upB f i, by omega, by go_num, by go_num, by rw [cntB_up HF.out hi, HM.out], by omega, HB.out.setCell (Nat.le_refl _) _, grownBy_setCell HG.out _, by rw [heap_setCell_same _ _ _ _ _ _ HH.out, bvs_set]⟩, by simp [intOf]; omega⟩
        | true =>
          rw [hf] at c4
          clear hf
          go_wp2
          exact ⟨⟨j + 1, m, f, by omega, by go_num, rfl, HM.out, by omega, HB.out, HG.out, HH.out⟩, by simp [intOf]; omega⟩
      · go_wp2
        exact ⟨⟨j + 1, m, f, by omega, by go_num, rfl, HM.out, by omega, HB.out, HG.out, HH.out⟩, by simp [intOf]; omega⟩
    · have HB : Hid _ := hbw
      have HM : Hid _ := hmf
      have hz1 : w.heap.size < wr.heap.size := ltHeap hh
      have HH : Hid _ := (Below.heap_alloc wr (.cells #[] 3) _ hz1).trans hh
      clear hbw hgb hh hmf
      have HO : Hid ((wr.alloc (.cells #[] 3)).ownsRow (w.heap.size + 1) 3 1 (.slice (some ⟨wr.heap.size, 0, none⟩) 0 0) 0 (nvs [])) := ⟨rfl, .inr ⟨wr.heap.size, 0, #[], rfl, by omega, heap_alloc_last _ _, Nat.le_refl _, by decide, rfl, rfl⟩⟩
      have HB2 : Hid (Below w.heap.size w (wr.alloc (.cells #[] 3))) := HB.out.alloc HB.out.size _
      go_wp2
      generalize (wr.alloc (.cells #[] 3)) = W2 at *
      generalize wr.heap.size = g0 at *
      clear hz1
      go_loopw [8, 12, 48] (fun c v i wr => ∃ (q p : Nat) (f : Nat → Bool) (g cap : Nat), q ≤ n ∧ i = .int .i64 q ∧ c = .int .i64 p ∧ p = cntB f n ∧ p ≤ k ∧ ((∀ x, x < q → f x = true) ∨ p = k) ∧ Below w.heap.size w wr ∧ wr.heap[w.heap.size]? = some (.cells (bvs n f) 4 (0, 0)) ∧ v = .slice (some ⟨g, 0, none⟩) (pickB f q).length cap ∧ wr.ownsRow (w.heap.size + 1) 3 1 v (pickB f q).length (nvs (pickB f q))) (fun _ _ i _ => n - (intOf i).toNat)
      case atStart => exact ⟨0, m, f, g0, 0, by omega, rfl, rfl, HM.out, by omega, .inl (fun x hx => absurd hx (by omega)), HB2.out, HH.out, rfl, HO.out⟩
      case round =>
        obtain ⟨q, p, f', g, cap, hq, rfl, rfl, hpf, hpk, hall, hbw, hh, rfl, hown⟩ := hrel
        have hl : (pickB f' q).length ≤ 256 := by have := cntB_le f' q; show cntB f' q ≤ 256; omega
        have zw := ltHeap hh
        by_cases hlt : q < n
        · have c4 := cellAt hh q _ (bvs_get hlt)
          have d4 : wr.frozen? ⟨w.heap.size, q, none⟩ = false := frozen_of_row _ _ _ _ _ hh
          have hne : some w.heap.size ≠ (Value.slice (some ⟨g, 0, none⟩) (pickB f' q).length cap).ownBlock := fun e => by have := (hown.lt _ e.symm).1; omega
          cases hf : f' q with
          | true =>
            rw [hf] at c4
            have ho := hown.alloc (.cells #[.int .i64 q] 3)
            obtain ⟨g2, cap2, w6, hrun, ho2, hgr, hor, hlt2⟩ := appendI (b := wr.heap.size) (c := 1) (x := (q : Int)) 42 ho (cellAt (heap_alloc_last wr (.cells #[.int .i64 q] 3)) 0 _ rfl) (by omega) (by simp; omega)
            rw [nvs_snoc, ← pickB_yes hf] at ho2
            have hh6 := (hgr.block w.heap.size (by simp; omega) hne).trans ((Below.heap_alloc wr (.cells #[.int .i64 q] 3) _ zw).trans hh)
            have hb6 := below_own (B := w.heap.size) (hbw.alloc hbw.size (.cells #[.int .i64 q] 3)) ⟨ho.1, ho.2.imp id fun ⟨b, c, cu, h1, h2, h3⟩ => ⟨b, c, cu, h1, by omega, h3⟩⟩ hgr (by simp; omega)
            have hlen : (pickB f' q).length + 1 = (pickB f' (q + 1)).length := by rw [pickB_yes hf]; simp
            have HRun : Hid _ := hrun
            have HO2 : Hid _ := ho2
            have HH6 : Hid _ := hh6
            have HB6 : Hid _ := hb6
            have HF : Hid _ := hf
            have HP : Hid _ := hpf
            have HL : Hid _ := hlen
            have HA : Hid _ := hall
            clear ho hrun ho2 hh6 hb6 hgr hor hlt2 hh hown hbw hne hf hpf hlen hall
            go_wp2_with (at_builtin; refine wpList_append_run rfl _ _ 42 rfl _ _ _ _ rfl rfl HRun.out ?_)
            refine ⟨⟨q + 1, p, f', g2, cap2, by omega, by go_num, rfl, HP.out, by omega, HA.out.imp (fun h x hx => ?_) id, HB6.out, HH6.out, by rw [HL.out], by rw [← HL.out]; exact HO2.out⟩, by simp [intOf]; omega⟩
            by_cases e : x = q
            · subst e; exact HF.out
            · exact h x (by omega)
          | false =>
            rw [hf] at c4
            by_cases hpk2 : p < k
            · have hs5 : (wr.setCell ⟨w.heap.size, q, none⟩ (.bool true)).heap[w.heap.size]? = some (.cells (bvs n (upB f' q)) 4 (0, 0)) := by rw [heap_setCell_same _ _ _ _ _ _ hh, bvs_set]
              have c5 := cellAt hs5 q _ (bvs_get hlt)
              rw [show upB f' q q = true by simp [upB]] at c5
              have ho := (own_setCell hown (i := q) (x := .bool true) (show w.heap.size < w.heap.size + 1 by omega)).alloc (.cells #[.int .i64 q] 3)
              have hz5 : (wr.setCell ⟨w.heap.size, q, none⟩ (.bool true)).heap.size = wr.heap.size := by simp
              obtain ⟨g2, cap2, w6, hrun, ho2, hgr, hor, hlt2⟩ := appendI (b := wr.heap.size) (c := 1) (x := (q : Int)) 42 ho (cellAt (by rw [← hz5]; exact heap_alloc_last (wr.setCell ⟨w.heap.size, q, none⟩ (.bool true)) (.cells #[.int .i64 q] 3)) 0 _ rfl) (by omega) (by simp; omega)
              have hup : upB f' q q = true := by simp [upB]
              rw [nvs_snoc, ← pickB_up, ← pickB_yes hup] at ho2
              have hh6 := (hgr.block w.heap.size (by simp; omega) hne).trans ((Below.heap_alloc _ (.cells #[.int .i64 q] 3) _ (by rw [hz5]; exact zw)).trans hs5)
              have hb6 := below_own (B := w.heap.size) ((hbw.setCell (Nat.le_refl _) (.bool true)).alloc (by rw [hz5]; exact hbw.size) (.cells #[.int .i64 q] 3)) ⟨ho.1, ho.2.imp id fun ⟨b, c, cu, h1, h2, h3⟩ => ⟨b, c, cu, h1, by omega, h3⟩⟩ hgr (by simp; omega)
              have hlen : (pickB f' q).length + 1 = (pickB (upB f' q) (q + 1)).length := by rw [pickB_yes hup, pickB_up]; simp
              rw [pickB_up] at ho2
              have HRun : Hid _ := hrun
              have HO2 : Hid _ := ho2
              have HH6 : Hid _ := hh6
              have HB6 : Hid _ := hb6
              have HF : Hid _ := hf
              have HP : Hid _ := hpf
              have HL : Hid _ := hlen
              have HA : Hid _ := hall
              clear ho hrun ho2 hh6 hb6 hgr hor hlt2 hh hown hbw hne hf hpf hlen hall hs5 hz5 hup
              go_wp2_with (at_builtin; refine wpList_append_run rfl _ _ 42 rfl _ _ _ _ rfl rfl HRun.out ?_)
              refine ⟨⟨q + 1, p + 1, upB f' q, g2, cap2, by omega, by go_num, by go_num, by rw [cntB_up HF.out hlt, HP.out], by omega, .inl fun x hx => ?_, HB6.out, HH6.out, by rw [HL.out], by rw [← HL.out]; exact HO2.out⟩, by simp [intOf]; omega⟩
              rcases HA.out with h | h
              · by_cases e : x = q
                · subst e; simp [upB]
                · simp [upB, h x (by omega)]
              · omega
            · have hpp : pickB f' (q + 1) = pickB f' q := pickB_no hf
              have HO2 : Hid _ := hown
              have HH6 : Hid _ := hh
              have HB6 : Hid _ := hbw
              have HP : Hid _ := hpf
              have HL : Hid _ := hpp
              clear hh hown hbw hne hf hpf hall hpp
              go_wp2
              exact ⟨⟨q + 1, p, f', g, cap, by omega, by go_num, rfl, HP.out, by omega, .inr (by omega), HB6.out, HH6.out, by rw [HL.out], by rw [HL.out]; exact HO2.out⟩, by simp [intOf]; omega⟩
        · obtain rfl : q = n := by omega
          have hkk : (pickB f' q).length = k := by
            show cntB f' q = k
            rcases hall with h | h
            · have := cntB_all h; omega
            · omega
          rw [hkk] at hown ⊢
          have HO2 : Hid _ := hown
          have HB6 : Hid _ := hbw
          have HK : Hid _ := hkk
          clear hown hbw hkk hall hh hpf
          go_wp2
          go_ret
          exact ⟨g, cap, pickB f' q, rfl, pickB_sorted _ _, HK.out, pickB_lt, ⟨HO2.out.1, HO2.out.2.imp id fun ⟨b, c, cu, h1, h2, h3⟩ => ⟨b, c, cu, h1, by omega, h3⟩⟩, HB6.out⟩
end Go.Proofs.YtokepcikpkffpaaDoor

/- What the statements' own cut of a matrix answers: its cells at these rows and columns; nothing that was there turns. -/
namespace Go.Proofs.YtokepcikpkffpaaDoor
open Go.RowKit Gf
set_option linter.unusedVariables false
set_option maxRecDepth 20000
theorem want_append {P : Program} {w : World} {o : Oper} {a : Act} {K : Act → World → Prop} {Q : Exit → Act → World → Prop} {ys : Nat → Option Bool} {L : Prop} (hgd : o.guard = none) (s x : Operand) (t : TypeId)
    (ho : o.op = .call { callee := .builtin .append, args := #[s, x], argTypes := #[t, t] }) (v u r : Value) (w' : World) (hs : a.eval s = v) (hx : a.eval x = u)
    (hr : (Builtin.append_ #[t, t] o.type #[v, u]).run P w = .ok r w') (h : K (a.put o.dst r) w') : if Region.wanted o ys = true then Oper.wp P o a w K Q else L := by
  rw [if_pos (by simp [Region.wanted, hgd])]
  unfold Oper.wp execOp
  simp only [ho, resolve, invoke, builtin, Sem.run_bind, Sem.run_pure, Result.andThen_ok, List.map_toArray, List.map_cons, List.map_nil, hs, hx, hr]
  exact h
theorem rowF_snoc (j : Nat) (f : Nat → F) : rowF j f ++ [f j] = rowF (j + 1) f := by simp [rowF, List.range_succ]
theorem own_shift {w : World} {B g i n : Nat} {v x : Value} {e : TypeId} {s : Nat} {xs : List Value} (h : w.ownsRow B e s v n xs) (hg : g < B) : (w.setCell ⟨g, i, none⟩ x).ownsRow B e s v n xs := by
  refine ⟨h.1, h.2.imp id fun ⟨b, cap, cur, h1, h2, h3, h4⟩ => ⟨b, cap, cur, h1, h2, (heap_setCell_other _ _ _ _ (by show b ≠ g; omega)).trans h3, h4⟩⟩
theorem own_bytes {w : World} {B n : Nat} {v : Value} {zs : List F} (ho : w.ownsRow B 5 1 v n (zs.map vf)) : ∃ a cap, v = .slice a n cap ∧ Row8 w a zs ∧ n = zs.length ∧ n ≤ cap ∧ (a = none → cap = 0) := by
  obtain ⟨a, cap, rfl, h1, h2, h3⟩ := ownB_slice ho
  refine ⟨a, cap, rfl, h1, h2, ?_, h3⟩
  rcases ho.2 with ⟨e, e2⟩ | ⟨g, c2, cu, e, _, _, h, _⟩
  · cases e; omega
  · cases e; exact h
theorem row_nat {w : World} {g r p : Nat} {L : List Nat} (h : RowI w (some ⟨g, 0, none⟩) (L.map fun i => ((i : Nat) : Int))) (hp : p < L.length) (hr : ∀ x ∈ L, x < r) : w.cell? ⟨g, p, none⟩ = some (.int .i64 (L.getD p 0 : Nat)) ∧ L.getD p 0 < r := by
  have e : L.getD p 0 = L[p] := by simp [List.getD, hp]
  rw [e]
  refine ⟨?_, hr _ (List.getElem_mem hp)⟩
  rcases h with h | ⟨b, off, h1, h⟩
  · have := congrArg List.length h
    rw [List.length_map, List.length_nil] at this; omega
  · cases h1
    have := h p _ (show (L.map fun i => ((i : Nat) : Int))[p]? = some ((L[p] : Nat) : Int) by simp [hp])
    rw [Nat.zero_add] at this
    exact this
/-- the cells at these rows and columns -/
def cutF (c : Nat) (xs : List F) (L K : List Nat) : Nat → Nat → F := fun i j => at8 xs (L.getD i 0 * c + K.getD j 0)
set_option maxHeartbeats 2000000 in
theorem square_F (r c n l cap ca cb ga gb : Nat) (a : Option Addr) (xs : List F) (L K : List Nat) (w : World) (hn1 : 1 ≤ n) (hn : n ≤ 64) (hr : r ≤ 64) (hc : c ≤ 64) (hl : l = r * c) (hx : xs.length = r * c) (hcap : l ≤ cap) (hX : Row8 w a xs)
    (hL : RowI w (some ⟨ga, 0, none⟩) (L.map fun i => ((i : Nat) : Int))) (hLl : L.length = n) (hLr : ∀ x ∈ L, x < r) (hK : RowI w (some ⟨gb, 0, none⟩) (K.map fun i => ((i : Nat) : Int))) (hKl : K.length = n) (hKr : ∀ x ∈ K, x < c) (hcb : n ≤ cb) (hca : n ≤ ca) :
    Calls Tryd.prog 24 #[.agg #[.int .i64 r, .int .i64 c, .slice a l cap], .slice (some ⟨ga, 0, none⟩) n ca, .slice (some ⟨gb, 0, none⟩) n cb] w fun e w' => ∃ a' cap', e = .returned (.agg #[.int .i64 n, .int .i64 n, .slice a' (n * n) cap']) ∧
      n * n ≤ cap' ∧ Row8 w' a' (grid n (cutF c xs L K) n) ∧ (a' = none → cap' = 0) ∧ Below w.heap.size w w' := by
  have HX : Hid (Row8 w a xs) := hX
  have HXL : Hid _ := hx
  have HLL : Hid _ := hl
  have hL' : ∀ p, p < n → w.cell? ⟨ga, p, none⟩ = some (.int .i64 (L.getD p 0 : Nat)) ∧ L.getD p 0 < r := fun p hp => row_nat hL (by omega) hLr
  have hK' : ∀ p, p < n → w.cell? ⟨gb, p, none⟩ = some (.int .i64 (K.getD p 0 : Nat)) ∧ K.getD p 0 < c := fun p hp => row_nat hK (by omega) hKr
  have HL : Hid _ := hL'
  have HK : Hid _ := hK'
  clear hX hx hl hL hLl hLr hK hKl hKr hL' hK'
  have hA := holds_new (holds_new (holds_new (holds_nil w) #[.int .i64 r, .int .i64 c, .slice a l cap] 30) #[.int .i64 0, .int .i64 0, .slice none 0 0] 30) #[.int .i64 n, .int .i64 n, .slice none 0 0] 30
  simp only [World.size_alloc] at hA
  have HA : Hid _ := hA
  have HW : Hid (Below w.heap.size w _) := (((Below.refl w.heap.size w).alloc (Nat.le_refl _) (.cells #[.int .i64 r, .int .i64 c, .slice a l cap] 30)).alloc (by simp) (.cells #[.int .i64 0, .int .i64 0, .slice none 0 0] 30)).alloc (by simp; omega) (.cells #[.int .i64 n, .int .i64 n, .slice none 0 0] 30)
  clear hA
  go_enter Tryd.func24, Tryd.ntmps24
  go_wp2
  generalize (((w.alloc (.cells #[.int .i64 r, .int .i64 c, .slice a l cap] 30)).alloc (.cells #[.int .i64 0, .int .i64 0, .slice none 0 0] 30)).alloc (.cells #[.int .i64 n, .int .i64 n, .slice none 0 0] 30)) = W1 at *
  go_loopw [19] (fun i wr => ∃ (p : Nat) (v : Value), p ≤ n ∧ i = .int .i64 p ∧ Below (w.heap.size + 2) W1 wr ∧ wr.heap[w.heap.size + 2]? = some (.cells #[.int .i64 n, .int .i64 n, v] 30 (0, 0)) ∧ wr.ownsRow (w.heap.size + 3) 5 1 v (p * n) ((grid n (cutF c xs L K) p).map vf)) (fun i _ => n - (intOf i).toNat)
  case atStart => exact ⟨0, _, by omega, rfl, Below.refl _ _, holds_at HA.out 0 rfl, ⟨by simp [grid], .inl ⟨rfl, by simp⟩⟩⟩
  case round =>
    obtain ⟨p, v, hp, rfl, hbw, hout, hown⟩ := hrel
    by_cases hlt : p < n
    · obtain ⟨hl1, hl2⟩ := HL.out p hlt
      generalize hxe : L.getD p 0 = x at *
      have HXE : Hid _ := hxe
      have e1 := hbw.size
      have e2 := HW.out.size
      have zA : w.heap.size + 2 < W1.heap.size := ltHeap (holds_at HA.out 0 rfl)
      have c0 := cell_later HW.out hl1
      have c1 := (hbw.cell (p := ⟨ga, p, none⟩) (by have := World.block_lt_of_cell? _ _ hl1; simp at this ⊢; omega)).trans c0
      have HB : Hid _ := hbw
      have HO : Hid _ := hout
      have HOW : Hid _ := hown
      clear hxe hbw hout hown hl1 c0
      go_wp2
      go_loopw [28] (fun j wr => ∃ (q : Nat) (v : Value), q ≤ n ∧ j = .int .i64 q ∧ Below (w.heap.size + 2) W1 wr ∧ wr.heap[w.heap.size + 2]? = some (.cells #[.int .i64 n, .int .i64 n, v] 30 (0, 0)) ∧ wr.ownsRow (w.heap.size + 3) 5 1 v (p * n + q) ((grid n (cutF c xs L K) p ++ rowF q (cutF c xs L K p)).map vf)) (fun j _ => n - (intOf j).toNat)
      case atStart => exact ⟨0, v, by omega, rfl, HB.out, HO.out, by rw [show rowF 0 (cutF c xs L K p) = [] from rfl, List.append_nil, Nat.add_zero]; exact HOW.out⟩
      case round =>
        clear c1
        obtain ⟨q, v2, hq, rfl, hbw, hout, hown⟩ := hrel
        have e1 := hbw.size
        by_cases hlt2 : q < n
        · obtain ⟨hk1, hk2⟩ := HK.out q hlt2
          generalize hye : K.getD q 0 = y at *
          have HYE : Hid _ := hye
          have hyw := World.block_lt_of_cell? _ _ hk1
          simp only at hyw
          have c1 := (hbw.cell (p := ⟨gb, q, none⟩) (by show gb < w.heap.size + 2; omega)).trans (cell_later HW.out hk1)
          have HB : Hid _ := hbw
          have HO : Hid _ := hout
          have HOW : Hid _ := hown
          have hxlt : x * c + y < r * c := by
            have := Nat.mul_le_mul_right c (show x + 1 ≤ r from hl2)
            rw [Nat.succ_mul] at this; omega
          have hrc : r * c ≤ 4096 := Nat.mul_le_mul hr hc
          obtain ⟨z, hz⟩ : ∃ z : Nat, z = x * c := ⟨_, rfl⟩
          have hzi : (x : Int) * (c : Int) = (z : Int) := by rw [hz]; simp
          have HZ : Hid _ := hz
          rw [← hz] at hxlt
          have hlz : z + y < l := by rw [HLL.out]; exact hxlt
          have z0 : z + y ≤ 4096 := by omega
          have p0 : (0 : Int) ≤ (z : Int) + (y : Int) := by omega
          have p1 : (z : Int) + (y : Int) < (l : Int) := by omega
          obtain ⟨b, off, hab, hcell⟩ : ∃ b off, a = some ⟨b, off, none⟩ ∧ ∀ j, j < xs.length → w.cell? ⟨b, off + j, none⟩ = some (.int .u8 ((at8 xs j).toNat : Int)) := by
            rcases HX.out with e | h
            · have := HXL.out; rw [e] at this; simp at this; omega
            · exact h
          subst hab
          have hcx := hcell (z + y) (by rw [HXL.out]; omega)
          have hbwl := World.block_lt_of_cell? _ _ hcx
          simp only at hbwl
          have cX := (hbw.cell (p := ⟨b, off + (z + y), none⟩) (by show b < w.heap.size + 2; omega)).trans (cell_later HW.out hcx)
          have cB := (hbw.block w.heap.size (by omega)).trans (holds_at HA.out 2 rfl)
          have hxy : at8 xs (z + y) = cutF c xs L K p q := by simp only [cutF]; rw [HXE.out, HYE.out, HZ.out]
          generalize at8 xs (z + y) = t at *
          have HXY : Hid _ := hxy
          have zw := ltHeap hout
          clear hbw hout hown hk1 hz hcell hcx hxlt hrc hye hxy
          have hn2 : p * n + q ≤ 4096 := by
            have := Nat.mul_le_mul (show p ≤ 64 by omega) hn
            have : (p + 1) * n ≤ 64 * 64 := Nat.mul_le_mul (by omega) hn
            rw [Nat.succ_mul] at this; omega
          have w1 : IntKind.i64.wrap (z : Int) = z := IntWalk.i64_in _ (by omega)
          have w2 : IntKind.i64.wrap ((z : Int) + y) = (z : Int) + y := IntWalk.i64_in _ (by omega)
          have w3 : ((z : Int) + y).toNat = z + y := by omega
          go_upto_region 8 with fail
          clear c1
          refine wp_region_noPanic ?_
          refine wp_region_held_drew (S := fun u => Below (w.heap.size + 2) wr u) (by kernel_rfl) ?_ (fun hHeld => ?_)
          · exact (Below.refl _ _).drew
          refine wpAnyH_take (i := 0) (oi := { dst := some 32, op := Op.fieldAddr 30 (Operand.tmp 7) 2, type := 0, pos := "more.go:15", after := #[], guard := none }) (v := ?_) rfl (by kernel_rfl) (by kernel_rfl) (by kernel_rfl) (fun _ _ _ h => h) (Or.inl ⟨by rfl, ?_⟩) hHeld ?_
          rotate_left
          · intro u hSw
            go_simp
            try with_reducible rfl
          try simp only [Act.put, List.setIfInBounds_toArray, List.set_cons_zero, List.set_cons_succ]
          refine wpAnyH_take (i := 2) (oi := { dst := some 34, op := Op.fieldAddr 30 (Operand.tmp 3) 2, type := 0, pos := "more.go:15", after := #[], guard := none }) (v := ?_) rfl (by kernel_rfl) (by kernel_rfl) (by kernel_rfl) (fun _ _ _ h => h) (Or.inl ⟨by rfl, ?_⟩) hHeld ?_
          rotate_left
          · intro u hSw
            go_simp
            try with_reducible rfl
          try simp only [Act.put, List.setIfInBounds_toArray, List.set_cons_zero, List.set_cons_succ]
          refine wpAnyH_take (i := 3) (oi := { dst := some 35, op := Op.load 28 (Operand.tmp 34), type := 28, pos := "more.go:15", after := #[{ on := 2, ground := Ground.data }], guard := none }) (v := ?_) rfl (by kernel_rfl) (by kernel_rfl) (by kernel_rfl) (fun _ _ _ h => h) (Or.inl ⟨by rfl, ?_⟩) hHeld ?_
          rotate_left
          · intro u hSw
            have q := (hSw.cell (p := ⟨w.heap.size, 2, none⟩) (by show w.heap.size < w.heap.size + 2; omega)).trans (cellAt cB 2 _ rfl)
            go_simp
            try with_reducible rfl
          try simp only [Act.put, List.setIfInBounds_toArray, List.set_cons_zero, List.set_cons_succ]
          refine wpAnyH_take (i := 4) (oi := { dst := some 36, op := Op.move (Operand.tmp 9), type := 3, pos := "more.go:15", after := #[], guard := none }) (v := ?_) rfl (by kernel_rfl) (by kernel_rfl) (by kernel_rfl) (fun _ _ _ h => h) (Or.inl ⟨by rfl, ?_⟩) hHeld ?_
          rotate_left
          · intro u hSw
            go_simp
            try with_reducible rfl
          try simp only [Act.put, List.setIfInBounds_toArray, List.set_cons_zero, List.set_cons_succ]
          refine wpAnyH_take (i := 5) (oi := { dst := some 37, op := Op.fieldAddr 30 (Operand.tmp 3) 1, type := 0, pos := "more.go:15", after := #[], guard := none }) (v := ?_) rfl (by kernel_rfl) (by kernel_rfl) (by kernel_rfl) (fun _ _ _ h => h) (Or.inl ⟨by rfl, ?_⟩) hHeld ?_
          rotate_left
          · intro u hSw
            go_simp
            try with_reducible rfl
          try simp only [Act.put, List.setIfInBounds_toArray, List.set_cons_zero, List.set_cons_succ]
          refine wpAnyH_take (i := 6) (oi := { dst := some 38, op := Op.load 3 (Operand.tmp 37), type := 3, pos := "more.go:15", after := #[{ on := 5, ground := Ground.data }], guard := none }) (v := ?_) rfl (by kernel_rfl) (by kernel_rfl) (by kernel_rfl) (fun _ _ _ h => h) (Or.inl ⟨by rfl, ?_⟩) hHeld ?_
          rotate_left
          · intro u hSw
            have q := (hSw.cell (p := ⟨w.heap.size, 1, none⟩) (by show w.heap.size < w.heap.size + 2; omega)).trans (cellAt cB 1 _ rfl)
            go_simp
            try with_reducible rfl
          try simp only [Act.put, List.setIfInBounds_toArray, List.set_cons_zero, List.set_cons_succ]
          refine wpAnyH_take (i := 7) (oi := { dst := some 39, op := Op.binOp BinOp.mul 3 (Operand.tmp 36) (Operand.tmp 38) 3, type := 3, pos := "more.go:15", after := #[{ on := 4, ground := Ground.data }, { on := 6, ground := Ground.data }], guard := none }) (v := ?_) rfl (by kernel_rfl) (by kernel_rfl) (by kernel_rfl) (fun _ _ _ h => h) (Or.inl ⟨by rfl, ?_⟩) hHeld ?_
          rotate_left
          · intro u hSw
            go_simp
            try with_reducible rfl
          try simp only [Act.put, List.setIfInBounds_toArray, List.set_cons_zero, List.set_cons_succ]
          refine wpAnyH_take (i := 8) (oi := { dst := some 40, op := Op.move (Operand.tmp 11), type := 3, pos := "more.go:15", after := #[], guard := none }) (v := ?_) rfl (by kernel_rfl) (by kernel_rfl) (by kernel_rfl) (fun _ _ _ h => h) (Or.inl ⟨by rfl, ?_⟩) hHeld ?_
          rotate_left
          · intro u hSw
            go_simp
            try with_reducible rfl
          try simp only [Act.put, List.setIfInBounds_toArray, List.set_cons_zero, List.set_cons_succ]
          refine wpAnyH_take (i := 9) (oi := { dst := some 41, op := Op.binOp BinOp.add 3 (Operand.tmp 39) (Operand.tmp 40) 3, type := 3, pos := "more.go:15", after := #[{ on := 7, ground := Ground.data }, { on := 8, ground := Ground.data }], guard := none }) (v := ?_) rfl (by kernel_rfl) (by kernel_rfl) (by kernel_rfl) (fun _ _ _ h => h) (Or.inl ⟨by rfl, ?_⟩) hHeld ?_
          rotate_left
          · intro u hSw
            go_simp
            try with_reducible rfl
          try simp only [Act.put, List.setIfInBounds_toArray, List.set_cons_zero, List.set_cons_succ]
          refine wpAnyH_take (i := 10) (oi := { dst := some 42, op := Op.indexAddr 28 (Operand.tmp 35) (Operand.tmp 41), type := 0, pos := "more.go:15", after := #[{ on := 3, ground := Ground.data }, { on := 9, ground := Ground.data }], guard := none }) (v := ?_) rfl (by kernel_rfl) (by kernel_rfl) (by kernel_rfl) (fun _ _ _ h => h) (Or.inl ⟨by rfl, ?_⟩) hHeld ?_
          rotate_left
          · intro u hSw
            go_simp
            try with_reducible rfl
          try simp only [Act.put, List.setIfInBounds_toArray, List.set_cons_zero, List.set_cons_succ]
          refine wpAnyH_take (i := 11) (oi := { dst := some 43, op := Op.load 5 (Operand.tmp 42), type := 5, pos := "more.go:15", after := #[{ on := 10, ground := Ground.data }], guard := none }) (v := ?_) rfl (by kernel_rfl) (by kernel_rfl) (by kernel_rfl) (fun _ _ _ h => h) (Or.inl ⟨by rfl, ?_⟩) hHeld ?_
          rotate_left
          · intro u hSw
            have q := (hSw.cell (p := ⟨b, off + (z + y), none⟩) (by show b < w.heap.size + 2; omega)).trans cX
            go_simp
            try with_reducible rfl
          try simp only [Act.put, List.setIfInBounds_toArray, List.set_cons_zero, List.set_cons_succ]
          refine wpAnyH_ready (rs := [1, 12]) (by kernel_rfl) (by simp) ?_
          refine (AllReadyH.cons (o := { dst := some 33, op := Op.load 28 (Operand.tmp 32), type := 28, pos := "more.go:15", after := #[{ on := 0, ground := Ground.data }], guard := none }) rfl (fun K hK => ?_) (AllReadyH.cons (o := { dst := some 44, op := Op.buildSlice 28 1 #[(0, Operand.tmp 43)], type := 28, pos := "more.go:15", after := #[{ on := 11, ground := Ground.data }], guard := none }) rfl (fun K hK => ?_) AllReadyH.nil))
          · have q0 := cellAt HO.out 2 _ rfl
            have q1 := cellAt HO.out 2 _ rfl
            go_simp
            refine hK.out _ _ ?_ (fun hHeld => ?_)
            · exact (Below.refl (w.heap.size + 2) wr).drew
            clear hK K
            try simp only [Act.put, List.setIfInBounds_toArray, List.set_cons_zero, List.set_cons_succ]
            refine wpAnyH_ready (rs := [12]) (by kernel_rfl) (by simp) ?_
            refine (AllReadyH.cons (o := { dst := some 44, op := Op.buildSlice 28 1 #[(0, Operand.tmp 43)], type := 28, pos := "more.go:15", after := #[{ on := 11, ground := Ground.data }], guard := none }) rfl (fun K hK => ?_) AllReadyH.nil)
            go_simp
            have HTz : Hid (Below (w.heap.size + 2) wr (wr.drew.alloc (.cells #[.int .u8 (t.toNat : Int)] 5))) := Below.alloc (Below.refl (w.heap.size + 2) wr).drew (Nat.le_of_lt zw) _
            have HOz : Hid _ := (Below.heap_alloc wr.drew (.cells #[.int .u8 (t.toNat : Int)] 5) _ zw).trans HO.out
            have HAz : Hid _ := World.ownsRow.alloc HOW.out (.cells #[.int .u8 (t.toNat : Int)] 5)
            refine hK.out _ _ ?_ (fun hHeld => ?_)
            · exact HTz.out
            clear hK K
            try simp only [Act.put, List.setIfInBounds_toArray, List.set_cons_zero, List.set_cons_succ]
            refine wpAnyH_ready (rs := [13]) (by kernel_rfl) (by simp) ?_
            refine (AllReadyH.cons (o := { dst := some 45, op := Op.call { callee := Callee.builtin Builtin.append, args := #[Operand.tmp 33, Operand.tmp 44], argTypes := #[28, 28] }, type := 28, pos := "more.go:15", after := #[{ on := 1, ground := Ground.data }, { on := 12, ground := Ground.data }], guard := none }) rfl (fun K hK => ?_) AllReadyH.nil)
            obtain ⟨v7, w7, hrun, ho7, hgr⟩ := appendB (w := (wr.drew.alloc (.cells #[.int .u8 (t.toNat : Int)] 5))) (m := 1) (c := 1) (ys := [t]) 28 HAz.out rfl (by omega) (row8_own (t := 5) (fr := (0, 0)) (heap_alloc_last wr.drew (.cells #[.int .u8 (t.toNat : Int)] 5))) (fun h => by cases h) (by simp; omega)
            obtain ⟨a7, c7, hv7, hz7⟩ := own_bytes ho7
            clear hz7
            subst hv7
            have HRun : Hid _ := hrun
            have HO7 : Hid _ := (hgr.block (w.heap.size + 2) (by simp; omega) (fun e => by have := (World.ownsRow.lt HAz.out _ e.symm).1; omega)).trans HOz.out
            have HB7 : Hid (Below (w.heap.size + 2) wr w7) := below_own (B := w.heap.size + 2) HTz.out (own_mono HAz.out (by omega)) hgr (by simp; omega)
            have HA7 : Hid _ := ho7
            clear hrun hgr ho7
            refine want_append rfl _ _ 28 rfl _ _ _ _ rfl rfl HRun.out ?_
            refine hK.out _ _ ?_ (fun hHeld => ?_)
            · exact HB7.out
            clear hK K
            try simp only [Act.put, List.setIfInBounds_toArray, List.set_cons_zero, List.set_cons_succ]
            refine wpAnyH_take (i := 14) (oi := { dst := some 46, op := Op.fieldAddr 30 (Operand.tmp 7) 2, type := 0, pos := "more.go:15", after := #[{ on := 0, ground := Ground.phase }, { on := 1, ground := Ground.phase }, { on := 2, ground := Ground.phase }, { on := 3, ground := Ground.phase }, { on := 4, ground := Ground.phase }, { on := 5, ground := Ground.phase }, { on := 6, ground := Ground.phase }, { on := 7, ground := Ground.phase }, { on := 8, ground := Ground.phase }, { on := 9, ground := Ground.phase }, { on := 10, ground := Ground.phase }, { on := 11, ground := Ground.phase }, { on := 12, ground := Ground.phase }, { on := 13, ground := Ground.phase }], guard := none }) (v := ?_) rfl (by kernel_rfl) (by kernel_rfl) (by kernel_rfl) (fun _ _ _ h => h) (Or.inl ⟨by rfl, ?_⟩) hHeld ?_
            rotate_left
            · intro u hSw
              go_simp
              try with_reducible rfl
            try simp only [Act.put, List.setIfInBounds_toArray, List.set_cons_zero, List.set_cons_succ]
            refine wpAnyH_ready (rs := [15]) (by kernel_rfl) (by simp) ?_
            refine (AllReadyH.cons (o := { dst := none, op := Op.store 28 (Operand.tmp 46) (Operand.tmp 45), type := 0, pos := "more.go:15", after := #[{ on := 14, ground := Ground.data }, { on := 13, ground := Ground.data }, { on := 13, ground := Ground.chain }, { on := 0, ground := Ground.phase }, { on := 1, ground := Ground.phase }, { on := 2, ground := Ground.phase }, { on := 3, ground := Ground.phase }, { on := 4, ground := Ground.phase }, { on := 5, ground := Ground.phase }, { on := 6, ground := Ground.phase }, { on := 7, ground := Ground.phase }, { on := 8, ground := Ground.phase }, { on := 9, ground := Ground.phase }, { on := 10, ground := Ground.phase }, { on := 11, ground := Ground.phase }, { on := 12, ground := Ground.phase }, { on := 13, ground := Ground.phase }], guard := none }) rfl (fun K hK => ?_) AllReadyH.nil)
            have f2 := frozen_of_row _ _ 2 _ _ HO7.out
            have q2 := cellAt HO7.out 2 _ rfl
            go_simp
            refine hK.out _ _ ?_ (fun hHeld => ?_)
            · exact (Below.setCell HB7.out (Nat.le_refl _) _)
            clear hK K
            try simp only [Act.put, List.setIfInBounds_toArray, List.set_cons_zero, List.set_cons_succ]
            refine wpAnyH_done (by kernel_rfl) ?_ _
            refine NoPanic.normal ?_
            go_wp2
            refine ⟨⟨q + 1, .slice a7 (p * n + q + 1) c7, by omega, by go_num, HB.out.trans (Below.setCell HB7.out (Nat.le_refl _) _), ?_, ?_⟩, by simp [intOf]; omega⟩
            · rw [heap_setCell_same _ _ _ _ _ _ HO7.out]; rfl
            · have := own_shift (i := 2) (x := .slice a7 (p * n + q + 1) c7) HA7.out (show w.heap.size + 2 < w.heap.size + 3 by omega)
              rw [List.append_assoc, HXY.out, rowF_snoc] at this
              exact this
          · go_simp
            have HTz : Hid (Below (w.heap.size + 2) wr (wr.drew.alloc (.cells #[.int .u8 (t.toNat : Int)] 5))) := Below.alloc (Below.refl (w.heap.size + 2) wr).drew (Nat.le_of_lt zw) _
            have HOz : Hid _ := (Below.heap_alloc wr.drew (.cells #[.int .u8 (t.toNat : Int)] 5) _ zw).trans HO.out
            have HAz : Hid _ := World.ownsRow.alloc HOW.out (.cells #[.int .u8 (t.toNat : Int)] 5)
            refine hK.out _ _ ?_ (fun hHeld => ?_)
            · exact HTz.out
            clear hK K
            try simp only [Act.put, List.setIfInBounds_toArray, List.set_cons_zero, List.set_cons_succ]
            refine wpAnyH_ready (rs := [1]) (by kernel_rfl) (by simp) ?_
            refine (AllReadyH.cons (o := { dst := some 33, op := Op.load 28 (Operand.tmp 32), type := 28, pos := "more.go:15", after := #[{ on := 0, ground := Ground.data }], guard := none }) rfl (fun K hK => ?_) AllReadyH.nil)
            have q0 := cellAt HOz.out 2 _ rfl
            have q1 := cellAt HO.out 2 _ rfl
            go_simp
            refine hK.out _ _ ?_ (fun hHeld => ?_)
            · exact HTz.out
            clear hK K
            try simp only [Act.put, List.setIfInBounds_toArray, List.set_cons_zero, List.set_cons_succ]
            refine wpAnyH_ready (rs := [13]) (by kernel_rfl) (by simp) ?_
            refine (AllReadyH.cons (o := { dst := some 45, op := Op.call { callee := Callee.builtin Builtin.append, args := #[Operand.tmp 33, Operand.tmp 44], argTypes := #[28, 28] }, type := 28, pos := "more.go:15", after := #[{ on := 1, ground := Ground.data }, { on := 12, ground := Ground.data }], guard := none }) rfl (fun K hK => ?_) AllReadyH.nil)
            obtain ⟨v7, w7, hrun, ho7, hgr⟩ := appendB (w := (wr.drew.alloc (.cells #[.int .u8 (t.toNat : Int)] 5))) (m := 1) (c := 1) (ys := [t]) 28 HAz.out rfl (by omega) (row8_own (t := 5) (fr := (0, 0)) (heap_alloc_last wr.drew (.cells #[.int .u8 (t.toNat : Int)] 5))) (fun h => by cases h) (by simp; omega)
            obtain ⟨a7, c7, hv7, hz7⟩ := own_bytes ho7
            clear hz7
            subst hv7
            have HRun : Hid _ := hrun
            have HO7 : Hid _ := (hgr.block (w.heap.size + 2) (by simp; omega) (fun e => by have := (World.ownsRow.lt HAz.out _ e.symm).1; omega)).trans HOz.out
            have HB7 : Hid (Below (w.heap.size + 2) wr w7) := below_own (B := w.heap.size + 2) HTz.out (own_mono HAz.out (by omega)) hgr (by simp; omega)
            have HA7 : Hid _ := ho7
            clear hrun hgr ho7
            refine want_append rfl _ _ 28 rfl _ _ _ _ rfl rfl HRun.out ?_
            refine hK.out _ _ ?_ (fun hHeld => ?_)
            · exact HB7.out
            clear hK K
            try simp only [Act.put, List.setIfInBounds_toArray, List.set_cons_zero, List.set_cons_succ]
            refine wpAnyH_take (i := 14) (oi := { dst := some 46, op := Op.fieldAddr 30 (Operand.tmp 7) 2, type := 0, pos := "more.go:15", after := #[{ on := 0, ground := Ground.phase }, { on := 1, ground := Ground.phase }, { on := 2, ground := Ground.phase }, { on := 3, ground := Ground.phase }, { on := 4, ground := Ground.phase }, { on := 5, ground := Ground.phase }, { on := 6, ground := Ground.phase }, { on := 7, ground := Ground.phase }, { on := 8, ground := Ground.phase }, { on := 9, ground := Ground.phase }, { on := 10, ground := Ground.phase }, { on := 11, ground := Ground.phase }, { on := 12, ground := Ground.phase }, { on := 13, ground := Ground.phase }], guard := none }) (v := ?_) rfl (by kernel_rfl) (by kernel_rfl) (by kernel_rfl) (fun _ _ _ h => h) (Or.inl ⟨by rfl, ?_⟩) hHeld ?_
            rotate_left
            · intro u hSw
              go_simp
              try with_reducible rfl
            try simp only [Act.put, List.setIfInBounds_toArray, List.set_cons_zero, List.set_cons_succ]
            refine wpAnyH_ready (rs := [15]) (by kernel_rfl) (by simp) ?_
            refine (AllReadyH.cons (o := { dst := none, op := Op.store 28 (Operand.tmp 46) (Operand.tmp 45), type := 0, pos := "more.go:15", after := #[{ on := 14, ground := Ground.data }, { on := 13, ground := Ground.data }, { on := 13, ground := Ground.chain }, { on := 0, ground := Ground.phase }, { on := 1, ground := Ground.phase }, { on := 2, ground := Ground.phase }, { on := 3, ground := Ground.phase }, { on := 4, ground := Ground.phase }, { on := 5, ground := Ground.phase }, { on := 6, ground := Ground.phase }, { on := 7, ground := Ground.phase }, { on := 8, ground := Ground.phase }, { on := 9, ground := Ground.phase }, { on := 10, ground := Ground.phase }, { on := 11, ground := Ground.phase }, { on := 12, ground := Ground.phase }, { on := 13, ground := Ground.phase }], guard := none }) rfl (fun K hK => ?_) AllReadyH.nil)
            have f2 := frozen_of_row _ _ 2 _ _ HO7.out
            have q2 := cellAt HO7.out 2 _ rfl
            go_simp
            refine hK.out _ _ ?_ (fun hHeld => ?_)
            · exact (Below.setCell HB7.out (Nat.le_refl _) _)
            clear hK K
            try simp only [Act.put, List.setIfInBounds_toArray, List.set_cons_zero, List.set_cons_succ]
            refine wpAnyH_done (by kernel_rfl) ?_ _
            refine NoPanic.normal ?_
            go_wp2
            refine ⟨⟨q + 1, .slice a7 (p * n + q + 1) c7, by omega, by go_num, HB.out.trans (Below.setCell HB7.out (Nat.le_refl _) _), ?_, ?_⟩, by simp [intOf]; omega⟩
            · rw [heap_setCell_same _ _ _ _ _ _ HO7.out]; rfl
            · have := own_shift (i := 2) (x := .slice a7 (p * n + q + 1) c7) HA7.out (show w.heap.size + 2 < w.heap.size + 3 by omega)
              rw [List.append_assoc, HXY.out, rowF_snoc] at this
              exact this
        · obtain rfl : q = n := by omega
          have HB : Hid _ := hbw
          have HO : Hid _ := hout
          have HOW : Hid _ := hown
          clear hbw hout hown
          go_wp2
          exact ⟨⟨p + 1, v2, by omega, by go_num, HB.out, HO.out, by rw [Nat.succ_mul]; exact HOW.out⟩, by simp [intOf]; omega⟩
    · obtain rfl : p = n := by omega
      obtain ⟨a', cap', rfl, hrow, hlen, hcap', hnil⟩ := own_bytes hown
      have k1 := (hbw.block (w.heap.size + 1) (by omega)).trans (holds_at HA.out 1 rfl)
      have c0 := cellAt hout 0 _ rfl
      have c1 := cellAt hout 1 _ rfl
      have c2 := cellAt hout 2 _ rfl
      have c3 := cellAt k1 0 _ rfl
      have c4 := cellAt k1 1 _ rfl
      have c5 := cellAt k1 2 _ rfl
      have f3 : wr.frozen? ⟨w.heap.size + 1, 0, none⟩ = false := frozen_of_row _ _ _ _ _ k1
      have f4 : wr.frozen? ⟨w.heap.size + 1, 1, none⟩ = false := frozen_of_row _ _ _ _ _ k1
      have f5 : wr.frozen? ⟨w.heap.size + 1, 2, none⟩ = false := frozen_of_row _ _ _ _ _ k1
      have HB : Hid _ := hbw
      have HOW : Hid (wr.ownsRow (w.heap.size + 3) 5 1 (.slice a' (p * p) cap') (p * p) ((grid p (cutF c xs L K) p).map vf)) := hown
      have HC : Hid _ := hcap'
      have HN : Hid _ := hnil
      have HK1 : Hid _ := k1
      have hb' : Below w.heap.size w wr := HW.out.trans (hbw.mono (by have := HW.out.size; omega))
      have HBW : Hid _ := hb'
      clear hbw hout hown hrow hlen hcap' hnil k1 hb'
      go_wp2
      refine bodyPost_ret (v := .agg #[.int .i64 p, .int .i64 p, .slice a' (p * p) cap']) (by simp [results, Tryd.results24, go_sem, c3, c4, c5]) rfl ⟨a', cap', rfl, HC.out, ?_, HN.out, ?_⟩
      · obtain ⟨a2, c2, e, hrow, _⟩ := own_bytes (own_shift (i := 2) (x := .slice a' (p * p) cap') (own_shift (i := 1) (x := .int .i64 p) (own_shift (i := 0) (x := .int .i64 p) HOW.out (show w.heap.size + 1 < w.heap.size + 3 by omega)) (show w.heap.size + 1 < w.heap.size + 3 by omega)) (show w.heap.size + 1 < w.heap.size + 3 by omega))
        cases e
        exact hrow
      · exact ((HBW.out.setCell (by simp) _).setCell (by simp) _).setCell (by simp) _
end Go.Proofs.YtokepcikpkffpaaDoor

/- What Inverse of package solve answers, of all matrices. -/
namespace Go.Proofs.YtokepcikpkffpaaDoor
open Go.RowKit Gf
set_option linter.unusedVariables false
set_option maxRecDepth 20000
def slX (n : Nat) (g : Nat → Value) : Array Value := ((List.range n).map g).toArray
theorem slX_size (n : Nat) (g : Nat → Value) : (slX n g).size = n := by simp [slX]
theorem slX_at {n k : Nat} {g : Nat → Value} (h : k < n) : (slX n g)[k]? = some (g k) := by simp [slX, h]
theorem slX_set {n k : Nat} {g : Nat → Value} (v : Value) (h : k < n) : (slX n g).setIfInBounds k v = slX n (fun x => if x = k then v else g x) := by
  apply Array.ext_getElem?
  intro i
  rw [Array.getElem?_setIfInBounds]
  by_cases hi : i < n
  · rw [slX_at hi, slX_at hi, slX_size]
    by_cases e : k = i
    · subst e; simp [hi]
    · simp [e, show ¬ i = k from fun h => e h.symm]
  · rw [Array.getElem?_eq_none (by rw [slX_size]; omega), Array.getElem?_eq_none (by rw [slX_size]; omega), slX_size]
    simp; omega
theorem augL_one {n : Nat} {xs : List F} : ∀ i, i < n → ∀ j, j < n + n → augL n n xs (oneM n) i j = augI n (cellF n xs) i j := fun i hi j hj => by
  simp only [augL, augI, cellF]
  by_cases h : j < n
  · rw [if_pos h, if_pos h]
  · rw [if_neg h, if_neg h, oneM, at8_grid hi (by omega)]
    by_cases e : i = j - n
    · rw [if_pos e, if_pos (by omega)]
    · rw [if_neg e, if_neg (by omega)]
theorem row8T_tail {w : World} {b off n c : Nat} {f : Nat → F} (h : Row8T w (some ⟨b, off, none⟩) (rowF (c + n) f)) (hn : 0 < n) : Row8T w (some ⟨b, off + c, none⟩) (rowF n fun j => f (c + j)) := by
  rcases h with e | ⟨b', off', cs, fr, e, hb, h⟩
  · have := congrArg List.length e
    rw [rowF_len] at this
    simp at this; omega
  · cases e
    refine .inr ⟨b, off + c, cs, fr, rfl, hb, fun j hj => ?_⟩
    rw [rowF_len] at hj
    have := h (c + j) (by rw [rowF_len]; omega)
    rw [at8_rowF (by omega)] at this
    rw [at8_rowF hj, Nat.add_assoc]
    exact this
/-- a matrix that undoes another one, on either side -/
structure InvOf (n : Nat) (A B : Mt) : Prop where
  right : ∀ i, i < n → ∀ j, j < n → mulF n A B i j = if i = j then 1 else 0
  left : ∀ i, i < n → ∀ j, j < n → mulF n B A i j = if i = j then 1 else 0
set_option maxHeartbeats 8000000 in
theorem inverse_F (n l cap : Nat) (a : Option Addr) (xs : List F) (w : World) (hn : n ≤ 64) (hl : l = n * n) (hx : xs.length = n * n) (hcap : l ≤ cap) (hX : Row8 w a xs) (hnil : a = none → cap = 0) (s : Addr) (hs : w.cell? ⟨3, 0, none⟩ = some (errAt s)) :
    Calls Tryd.prog 23 #[.agg #[.int .i64 n, .int .i64 n, .slice a l cap]] w fun e w' =>
      ((pivL (cellF n xs) n n).length = n ∧ ∃ g m Y, e = .returned (.tuple #[.agg #[.int .i64 n, .int .i64 n, .slice (some ⟨g, 0, none⟩) m m], .nilIface]) ∧ m = n * n ∧ w.heap.size ≤ g ∧ w'.heap[g]? = some (.cells (vfs (grid n Y n)) 5 (0, 0)) ∧ InvOf n (cellF n xs) Y ∧ Below w.heap.size w w') ∨
      ((pivL (cellF n xs) n n).length ≠ n ∧ e = .returned (.tuple #[.agg #[.int .i64 0, .int .i64 0, .slice none 0 0], errAt s]) ∧ Below w.heap.size w w') := by
  have HL : Hid _ := hl
  have HX : Hid _ := hx
  have HRX : Hid (Row8 w a xs) := hX
  have HNA : Hid _ := hnil
  have HS : Hid _ := hs
  have hlt0 := World.block_lt_of_cell? w _ hs
  simp at hlt0
  clear hl hx hX hnil hs
  go_enter Tryd.func23, Tryd.ntmps23
  go_wp2_with fail
  refine Calls.mono (one_F n _ hn) ?_
  rintro e w2 ⟨g1, n1, rfl, hn1, hg1, hh1, hb2⟩
  have hal := (((Below.refl w.heap.size w).alloc (Nat.le_refl _) (.cells #[.int .i64 n, .int .i64 n, .slice a l cap] 30)).alloc (by simp) (.cells #[.int .i64 0, .int .i64 0, .slice none 0 0] 30))
  have hA := holds_cons (holds_later (holds_new (holds_new (holds_nil w) #[.int .i64 n, .int .i64 n, .slice a l cap] 30) #[.int .i64 0, .int .i64 0, .slice none 0 0] 30) hb2) hh1
  rw [World.size_alloc] at hA
  have HW2 : Hid (Below w.heap.size w w2) := hal.trans (hb2.mono (by simp; omega))
  have hA := holds_new hA #[.int .i64 n, .int .i64 n, .slice (some ⟨g1, 0, none⟩) n1 n1] 30
  have HW3 : Hid (Below w.heap.size w (w2.alloc (.cells #[.int .i64 n, .int .i64 n, .slice (some ⟨g1, 0, none⟩) n1 n1] 30))) := HW2.out.alloc HW2.out.size _
  have hsz : w.heap.size + 2 ≤ w2.heap.size := by have := hb2.size; simpa using this
  have c1 := cellAt (holds_at hA 0 rfl) 0 _ rfl
  have c2 := cellAt (holds_at hA 0 rfl) 1 _ rfl
  have c3 := cellAt (holds_at hA 0 rfl) 2 _ rfl
  have c4 := cellAt (holds_at hA 3 rfl) 0 _ rfl
  have c5 := cellAt (holds_at hA 3 rfl) 1 _ rfl
  have c6 := cellAt (holds_at hA 3 rfl) 2 _ rfl
  have HA : Hid _ := hA
  have HN1 : Hid _ := hn1
  clear hn1 hh1 hb2 hA HW2 hal
  go_wp2_with fail
  refine Calls.mono (eliminated_F n n n l cap n1 n1 a (some ⟨g1, 0, none⟩) xs (oneM n) _ hn hn hn HL.out HX.out hcap (row8_below HRX.out HW3.out) HNA.out HN1.out (by simp [oneM, grid_len]) (Nat.le_refl _) (holds_row HA.out 1 rfl) (fun h => by cases h)) ?_
  rintro e w4 ⟨M, av, cv, p, f', R', rfl, hM, hown, hrw, hred, hin, hback, hb4⟩
  have hA := holds_later HA.out hb4
  have hp : p = pivL (cellF n xs) n n := (hred.eq hin hback (by omega)).trans (pivL_congr fun i hi j hj => by simp [augL, cellF, hj])
  have hin2 := RowsIn.congr_right hin (A' := augI n (cellF n xs)) fun i hi j hj => (augL_one i hi j hj).symm
  have hback2 := RowsIn.congr_left hback (B' := augI n (cellF n xs)) fun i hi j hj => (augL_one i hi j hj).symm
  have HP : Hid _ := hp
  have HRW : Hid _ := hrw
  have HRED : Hid _ := hred
  have HIN : Hid _ := hin2
  have HBACK : Hid _ := hback2
  have HA4 : Hid _ := hA
  have HW4 : Hid (Below w.heap.size w w4) := HW3.out.trans (hb4.mono HW3.out.size)
  have hM2 : w2.heap.size + 1 ≤ M := by simpa using hM
  have hplen := hred.len
  have c1' := cellAt (holds_at hA 3 rfl) 1 _ rfl
  have k1 := holds_at hA 2 rfl
  clear hA hown hrw hred hin hback hin2 hback2 hb4 hp c1 c2 c3 c4 c5 c6 hM
  by_cases hfull : p.length = n
  · have HFULL : Hid _ := hfull
    rw [hfull]
    clear hfull
    go_wp2
    go_loopw [40] (fun i wr => ∃ (k : Nat) (g : Nat → Value), k ≤ n ∧ i = .int .i64 k ∧ w4.grownBy wr (some M) ∧ wr.heap[M]? = some (.cells (slX n g) 28 (0, 0)) ∧
      (∀ x, x < k → ∃ a' cap', g x = .slice a' n cap' ∧ Row8T wr a' (rowF n fun j => R' x (n + j))) ∧ ∀ x, k ≤ x → x < n → g x = .slice (f' x).1 (n + n) (f' x).2) (fun i _ => n - (intOf i).toNat)
    case atStart => exact ⟨0, fun x => .slice (f' x).1 (n + n) (f' x).2, by omega, rfl, World.grownBy.refl _ _, HRW.out.blk, fun x h => by omega, fun x _ _ => rfl⟩
    case round =>
      obtain ⟨k, g, hk, rfl, hgb, hs, hdone, hrest⟩ := hrel
      have HGB : Hid _ := hgb
      have HSS : Hid _ := hs
      have HDONE : Hid _ := hdone
      have HREST : Hid _ := hrest
      have zM := ltHeap HRW.out.blk
      have z0 := ltHeap (holds_at HA4.out 3 rfl)
      have c2 := cellAt (grown_block hgb (holds_at HA4.out 3 rfl) (by omega)) 1 _ rfl
      by_cases hlt : k < n
      · have c3 := cellAt hs k _ (slX_at hlt)
        rw [hrest k (Nat.le_refl _) hlt] at c3
        obtain ⟨bo, oo, mo, hfo, hmo, hboM, hbo, _, _⟩ := HRW.out.get hlt (show 0 < n + n by omega)
        rw [hfo] at c3
        have d3 : wr.frozen? ⟨M, k, none⟩ = false := frozen_of_row _ _ _ _ _ hs
        have HFO : Hid _ := hfo
        have hmn : n < mo := by omega
        have hNE : NoElems wr (some M) := noElems_some hs (by decide)
        have hgS : wr.grownBy (wr.setCell ⟨M, k, none⟩ (.slice (some ⟨bo, oo + n, none⟩) n (mo - n))) (some M) := grownBy_setCell (World.grownBy.refl _ _) _
        have hrow := row8T_grown (HRW.out.row k hlt) hgb (noElems_some HRW.out.blk (by decide))
        rw [hfo] at hrow
        have HROW : Hid _ := row8T_grown (row8T_tail hrow (by omega)) hgS hNE
        have HS1 : Hid ((wr.setCell ⟨M, k, none⟩ (.slice (some ⟨bo, oo + n, none⟩) n (mo - n))).heap[M]? = some (.cells (slX n fun x => if x = k then .slice (some ⟨bo, oo + n, none⟩) n (mo - n) else g x) 28 (0, 0))) := by
          show _ = _
          rw [heap_setCell_same _ _ _ _ _ _ hs, slX_set _ hlt]
        have HGS : Hid _ := hgS
        have HNE : Hid _ := hNE
        clear hgb hs hdone hrest hfo hgS hNE hrow
        go_wp2
        refine ⟨⟨k + 1, _, by omega, by go_num, grownBy_setCell HGB.out _, HS1.out, fun x hx => ?_, fun x h1 h2 => ?_⟩, by simp [intOf]; omega⟩
        · by_cases e : x = k
          · subst e
            rw [if_pos rfl]
            exact ⟨_, _, rfl, HROW.out⟩
          · rw [if_neg e]
            obtain ⟨a', cap', h1, h2⟩ := HDONE.out x (by omega)
            exact ⟨a', cap', h1, row8T_grown h2 HGS.out HNE.out⟩
        · show (if x = k then _ else g x) = _
          rw [if_neg (by omega)]
          exact HREST.out x (by omega) h2
      · obtain rfl : k = n := by omega
        have hW : Below w.heap.size w wr := below_grown HW4.out hgb (by omega)
        have HW5 : Hid _ := hW
        have hA5 : Holds wr [(w.heap.size + 1, .cells #[.int .i64 0, .int .i64 0, .slice none 0 0] 30 (0, 0))] := holds_cons (holds_nil _) (grown_block hgb (holds_at HA4.out 2 rfl) (by omega))
        have HA5 : Hid _ := hA5
        clear hgb hs hdone hrest hA5 hW
        have HR8 : Hid (Rows8 wr (some ⟨M, 0, none⟩) ((List.range k).map fun x => rowF k fun j => R' x (k + j))) := .inr ⟨M, 0, rfl, fun j x hx => by
          simp only [List.getElem?_map, Option.map_eq_some_iff] at hx
          obtain ⟨i, hi, rfl⟩ := hx
          obtain ⟨hjk, hi2⟩ := List.getElem?_eq_some_iff.1 hi
          simp only [List.length_range] at hjk
          simp only [List.getElem_range] at hi2
          subst hi2
          obtain ⟨a', cap', h1, h2⟩ := HDONE.out j hjk
          refine ⟨a', cap', ?_, h2.row8⟩
          rw [Nat.zero_add, rowF_len, ← h1]
          exact cellAt HSS.out j _ (slX_at hjk)⟩
        go_wp2_with fail
        refine Calls.mono (of_F k k k _ ((List.range k).map fun x => rowF k fun j => R' x (k + j)) _ hn (by simp) hn (fun x hx => ?_) HR8.out) ?_
        · obtain ⟨i, _, rfl⟩ := List.mem_map.1 hx
          exact rowF_len _ _
        rintro e w5 ⟨g5, m5, rfl, hm5, hg5, hh5, hb5⟩
        rw [← grid_flat k (fun x j => R' x (k + j))] at hh5
        have k1 := holds_at (holds_later HA5.out hb5) 0 rfl
        have c4 := cellAt k1 0 _ rfl
        have c5 := cellAt k1 1 _ rfl
        have c6 := cellAt k1 2 _ rfl
        have d4 : w5.frozen? ⟨w.heap.size + 1, 0, none⟩ = false := frozen_of_row _ _ _ _ _ k1
        have d5 : w5.frozen? ⟨w.heap.size + 1, 1, none⟩ = false := frozen_of_row _ _ _ _ _ k1
        have d6 : w5.frozen? ⟨w.heap.size + 1, 2, none⟩ = false := frozen_of_row _ _ _ _ _ k1
        have hgw : w.heap.size + 1 < g5 := by have := ltHeap (holds_at HA5.out 0 rfl); omega
        have HW6 : Hid (Below w.heap.size w w5) := HW5.out.trans (hb5.mono HW5.out.size)
        have HH5 : Hid _ := hh5
        have HM5 : Hid _ := hm5
        clear hh5 hm5 hb5 hg5 k1 c2
        go_wp2
        refine bodyPost_ret (v := .tuple #[.agg #[.int .i64 k, .int .i64 k, .slice (some ⟨g5, 0, none⟩) m5 m5], .nilIface]) (by simp [results, Tryd.results23, go_sem, c4, c5, c6]) rfl ?_
        refine .inl ⟨by rw [← HP.out]; exact HFULL.out, g5, m5, fun x j => R' x (k + j), rfl, HM5.out, by omega, ?_, ⟨inv_right HRED.out HFULL.out HBACK.out, inv_left HRED.out HFULL.out HIN.out⟩, ?_⟩
        · rw [heap_setCell_other _ _ _ _ (by show g5 ≠ w.heap.size + 1; omega), heap_setCell_other _ _ _ _ (by show g5 ≠ w.heap.size + 1; omega), heap_setCell_other _ _ _ _ (by show g5 ≠ w.heap.size + 1; omega)]
          exact HH5.out
        · exact ((HW6.out.setCell (by simp) _).setCell (by simp) _).setCell (by simp) _
  · have hlt : p.length < n := by omega
    have c4 := cellAt k1 0 _ rfl
    have c5 := cellAt k1 1 _ rfl
    have c6 := cellAt k1 2 _ rfl
    have d4 : w4.frozen? ⟨w.heap.size + 1, 0, none⟩ = false := frozen_of_row _ _ _ _ _ k1
    have d5 : w4.frozen? ⟨w.heap.size + 1, 1, none⟩ = false := frozen_of_row _ _ _ _ _ k1
    have d6 : w4.frozen? ⟨w.heap.size + 1, 2, none⟩ = false := frozen_of_row _ _ _ _ _ k1
    have c9 := cell_later HW4.out HS.out
    have HNF : Hid _ := hfull
    unfold errAt at *
    clear hfull k1
    go_wp2
    go_region
    go_wp2
    refine bodyPost_ret (v := .tuple #[.agg #[.int .i64 0, .int .i64 0, .slice none 0 0], .iface 85 (.pointer (some s))]) (by simp [results, Tryd.results23, go_sem, c4, c5, c6]) rfl ?_
    exact .inr ⟨by rw [← HP.out]; exact HNF.out, rfl, (((HW4.out.setCell (by simp) _).setCell (by simp) _).setCell (by simp) _).drew⟩
set_option maxHeartbeats 2000000 in
theorem inverse_bad (r c : Int) (l cap : Nat) (a : Option Addr) (w : World) (s : Addr) (hs : w.cell? ⟨1, 0, none⟩ = some (errAt s)) (h : ¬ (FormOk r c l ∧ r = c)) :
    Calls Tryd.prog 23 #[.agg #[.int .i64 r, .int .i64 c, .slice a l cap]] w fun e w' => e = .returned (.tuple #[.agg #[.int .i64 0, .int .i64 0, .slice none 0 0], errAt s]) ∧ Below w.heap.size w w' := by
  have H : Hid _ := h
  have hlt0 := World.block_lt_of_cell? w _ hs
  simp at hlt0
  have HS : Hid _ := cell?_alloc_old (.cells #[.int .i64 0, .int .i64 0, .slice none 0 0] 30) (cell?_alloc_old (.cells #[.int .i64 r, .int .i64 c, .slice a l cap] 30) hs)
  have hal := (((Below.refl w.heap.size w).alloc (Nat.le_refl _) (.cells #[.int .i64 r, .int .i64 c, .slice a l cap] 30)).alloc (by simp) (.cells #[.int .i64 0, .int .i64 0, .slice none 0 0] 30))
  clear h hs
  by_cases hc : 0 ≤ c ∧ c ≤ 64
  · obtain ⟨h0, h1⟩ := hc
    obtain ⟨n, rfl⟩ := Int.eq_ofNat_of_zero_le h0
    go_enter Tryd.func23, Tryd.ntmps23
    go_wp2_with fail
    refine Calls.mono (one_F n _ (by omega)) ?_
    rintro e w2 ⟨g1, n1, rfl, hn1, hg1, hh1, hb2⟩
    have hA := holds_cons (holds_later (holds_new (holds_new (holds_nil w) #[.int .i64 r, .int .i64 n, .slice a l cap] 30) #[.int .i64 0, .int .i64 0, .slice none 0 0] 30) hb2) hh1
    rw [World.size_alloc] at hA
    have HW2 : Hid (Below w.heap.size w w2) := hal.trans (hb2.mono (by simp; omega))
    have hA := holds_new hA #[.int .i64 n, .int .i64 n, .slice (some ⟨g1, 0, none⟩) n1 n1] 30
    have HW3 : Hid (Below w.heap.size w (w2.alloc (.cells #[.int .i64 n, .int .i64 n, .slice (some ⟨g1, 0, none⟩) n1 n1] 30))) := HW2.out.alloc HW2.out.size _
    have hsz : w.heap.size + 2 ≤ w2.heap.size := by have := hb2.size; simpa using this
    have c1 := cellAt (holds_at hA 0 rfl) 0 _ rfl
    have c2 := cellAt (holds_at hA 0 rfl) 1 _ rfl
    have c3 := cellAt (holds_at hA 0 rfl) 2 _ rfl
    have c4 := cellAt (holds_at hA 3 rfl) 0 _ rfl
    have c5 := cellAt (holds_at hA 3 rfl) 1 _ rfl
    have c6 := cellAt (holds_at hA 3 rfl) 2 _ rfl
    have HA : Hid _ := hA
    have HS3 : Hid _ := cell?_alloc_old (.cells #[.int .i64 n, .int .i64 n, .slice (some ⟨g1, 0, none⟩) n1 n1] 30) (cell_later hb2 HS.out)
    have HE : Hid (Calls Tryd.prog 37 #[.agg #[.int .i64 r, .int .i64 n, .slice a l cap], .agg #[.int .i64 n, .int .i64 n, .slice (some ⟨g1, 0, none⟩) n1 n1]] (w2.alloc (.cells #[.int .i64 n, .int .i64 n, .slice (some ⟨g1, 0, none⟩) n1 n1] 30)) fun e w' =>
        e = .returned (.tuple #[.slice none 0 0, .slice none 0 0, errAt s]) ∧ Below (w2.alloc (.cells #[.int .i64 n, .int .i64 n, .slice (some ⟨g1, 0, none⟩) n1 n1] 30)).heap.size (w2.alloc (.cells #[.int .i64 n, .int .i64 n, .slice (some ⟨g1, 0, none⟩) n1 n1] 30)) w') := by
      by_cases hf : FormOk r n l
      · obtain ⟨r', c', rfl, hc, h1, h2, h3⟩ := hf.nat
        have hc : n = c' := by omega
        subst hc
        exact eliminated_odd r' n n n l cap n1 n1 a _ _ s HS3.out h1 h2 h3 (fun e => H.out ⟨hf, e⟩)
      · exact eliminated_bad r n n n l cap n1 n1 a _ _ s HS3.out hf
    clear hn1 hh1 hb2 hA HW2 hal H
    go_wp2_with fail
    refine Calls.mono HE.out ?_
    rintro e w4 ⟨rfl, hb4⟩
    have k1 := holds_at (holds_later HA.out hb4) 2 rfl
    have HW4 : Hid (Below w.heap.size w w4) := HW3.out.trans (hb4.mono HW3.out.size)
    have b4 := cellAt k1 0 _ rfl
    have b5 := cellAt k1 1 _ rfl
    have b6 := cellAt k1 2 _ rfl
    have d4 : w4.frozen? ⟨w.heap.size + 1, 0, none⟩ = false := frozen_of_row _ _ _ _ _ k1
    have d5 : w4.frozen? ⟨w.heap.size + 1, 1, none⟩ = false := frozen_of_row _ _ _ _ _ k1
    have d6 : w4.frozen? ⟨w.heap.size + 1, 2, none⟩ = false := frozen_of_row _ _ _ _ _ k1
    unfold errAt at *
    clear k1 hb4 c1 c2 c3 c4 c5 c6 HE
    go_wp2
    refine bodyPost_ret (v := .tuple #[.agg #[.int .i64 0, .int .i64 0, .slice none 0 0], .iface 85 (.pointer (some s))]) (by simp [results, Tryd.results23, go_sem, b4, b5, b6]) rfl ?_
    exact ⟨rfl, ((HW4.out.setCell (by simp) _).setCell (by simp) _).setCell (by simp) _⟩
  · have HC : Hid _ := hc
    clear hc H
    go_enter Tryd.func23, Tryd.ntmps23
    go_wp2_with fail
    refine Calls.mono (one_bad c _ s HS.out HC.out) ?_
    rintro e w2 ⟨rfl, hb2⟩
    have hA := holds_later (holds_new (holds_new (holds_nil w) #[.int .i64 r, .int .i64 c, .slice a l cap] 30) #[.int .i64 0, .int .i64 0, .slice none 0 0] 30) hb2
    rw [World.size_alloc] at hA
    have HW2 : Hid (Below w.heap.size w w2) := hal.trans (hb2.mono (by simp; omega))
    have hA := holds_alloc hA (.cells #[.int .i64 0, .int .i64 0, .slice none 0 0] 30)
    have k1 := holds_at hA 0 rfl
    have b4 := cellAt k1 0 _ rfl
    have b5 := cellAt k1 1 _ rfl
    have b6 := cellAt k1 2 _ rfl
    have d4 : (w2.alloc (.cells #[.int .i64 0, .int .i64 0, .slice none 0 0] 30)).frozen? ⟨w.heap.size + 1, 0, none⟩ = false := frozen_of_row _ _ _ _ _ k1
    have d5 : (w2.alloc (.cells #[.int .i64 0, .int .i64 0, .slice none 0 0] 30)).frozen? ⟨w.heap.size + 1, 1, none⟩ = false := frozen_of_row _ _ _ _ _ k1
    have d6 : (w2.alloc (.cells #[.int .i64 0, .int .i64 0, .slice none 0 0] 30)).frozen? ⟨w.heap.size + 1, 2, none⟩ = false := frozen_of_row _ _ _ _ _ k1
    have HW3 : Hid (Below w.heap.size w (w2.alloc (.cells #[.int .i64 0, .int .i64 0, .slice none 0 0] 30))) := HW2.out.alloc HW2.out.size _
    unfold errAt at *
    clear hA k1 hb2
    go_wp2
    refine bodyPost_ret (v := .tuple #[.agg #[.int .i64 0, .int .i64 0, .slice none 0 0], .iface 85 (.pointer (some s))]) (by simp [results, Tryd.results23, go_sem, b4, b5, b6]) rfl ?_
    exact ⟨rfl, ((HW3.out.setCell (by simp) _).setCell (by simp) _).setCell (by simp) _⟩
end Go.Proofs.YtokepcikpkffpaaDoor

/- The walk of BaseSquares: at all numbers and choices. -/
namespace Go.Proofs.YtokepcikpkffpaaDoor
open Go.RowKit Gf
set_option linter.unusedVariables false
set_option maxRecDepth 20000
def gsBaseQ : List Nat := [0, 1, 3, 2]
theorem own_cap {w : World} {B n g cap : Nat} {e : TypeId} {xs : List Value} (h : w.ownsRow B e 1 (.slice (some ⟨g, 0, none⟩) n cap) n xs) : n ≤ cap := by
  rcases h.2 with ⟨e, _⟩ | ⟨g2, c2, cu, e, _, _, h, _⟩
  · cases e
  · cases e; exact h
theorem nvs_map (L : List Nat) : nvs L = (L.map fun i => ((i : Nat) : Int)).map (Value.int .i64) := by simp [nvs]
theorem cut_rank {k r n : Nat} {L K : List Nat} (hL : L.Pairwise (· < ·)) (hLl : L.length = n) (hLr : ∀ x ∈ L, x < r) (hK : K.Pairwise (· < ·)) (hKl : K.length = n) (hKr : ∀ x ∈ K, x < k) (hb : k + r ≤ 16) :
    (pivL (cellF n (grid n (cutF k (parM k r) L K) n)) n n).length = n := by
  have gm : ∀ (L : List Nat) i, i < L.length → L.getD i 0 ∈ L := fun L i h => getD_mem h
  rw [pivL_congr (B := fun i j => cyN ((L.map (k + ·)).getD i 0) (K.getD j 0)) (fun i hi j hj => by
    show at8 _ (i * n + j) = _
    rw [at8_grid hi hj]
    have e : (L.map (k + ·)).getD i 0 = k + L.getD i 0 := by
      have h2 : i < L.length := by omega
      simp [List.getD, h2]
    rw [e, cutF, parM, at8_grid (hLr _ (gm L i (by omega))) (hKr _ (gm K j (by omega)))])]
  refine square_rank (hL.map _ (fun a b h => by omega)) hK (by rw [List.length_map, hLl]) (by omega) (fun x hx y hy => ?_) (fun x hx => ?_) (fun y hy => ?_)
  · obtain ⟨i, _, rfl⟩ := List.mem_map.1 hx
    have := hKr y hy; omega
  · obtain ⟨i, hi, rfl⟩ := List.mem_map.1 hx
    have := hLr i hi; omega
  · have := hKr y hy; omega
set_option maxHeartbeats 4000000 in
theorem squares_ok (k r : Int) (m : Int) (la ca lb cb : Nat) (a b : Option Addr) (ns ms : List Int) (w : World) (hk0 : -9223372036854775808 ≤ k) (hk1 : k ≤ 9223372036854775807) (hr0 : -9223372036854775808 ≤ r) (hr1 : r ≤ 9223372036854775807) (s3 : Addr) (hs3 : w.cell? ⟨3, 0, none⟩ = some (errAt s3))
    (hla : la = ns.length) (hma : la ≤ 140737488355328) (hI : RowI w a ns) (hbd : ∀ x ∈ ns, -9223372036854775808 ≤ x ∧ x ≤ 9223372036854775807) (hlb : lb = ms.length) (hmb : lb ≤ 140737488355328) (hJ : RowI w b ms) (hbe : ∀ x ∈ ms, -9223372036854775808 ≤ x ∧ x ≤ 9223372036854775807) :
    Calls Tryd.prog 7 #[.agg #[.int .i64 k, .int .i64 r, .int .i64 m, .slice a la ca, .slice b lb cb]] w fun e w' => e = .returned (.bool true) ∧ Below w.heap.size w w' := by
  have HS3 : Hid _ := hs3
  have HLA : Hid _ := hla
  have HI : Hid _ := hI
  have HBD : Hid _ := hbd
  have HLB : Hid _ := hlb
  have HJ : Hid _ := hJ
  have HBE : Hid _ := hbe
  clear hs3 hla hI hbd hlb hJ hbe
  have k0 := heap_alloc_last w (.cells #[.int .i64 k, .int .i64 r, .int .i64 m, .slice a la ca, .slice b lb cb] 49)
  have hz0 : (w.alloc (.cells #[.int .i64 k, .int .i64 r, .int .i64 m, .slice a la ca, .slice b lb cb] 49)).heap.size = w.heap.size + 1 := by simp
  have HW0 : Hid (Below w.heap.size w (w.alloc (.cells #[.int .i64 k, .int .i64 r, .int .i64 m, .slice a la ca, .slice b lb cb] 49))) := (Below.refl _ _).alloc (Nat.le_refl _) _
  have c0 := cellAt k0 0 _ rfl
  have c1 := cellAt k0 1 _ rfl
  have c2 := cellAt k0 2 _ rfl
  have c3 := cellAt k0 3 _ rfl
  have c4 := cellAt k0 4 _ rfl
  clear k0 hz0
  go_enter Tryd.func7, Tryd.ntmps7
  go_wp2
  generalize (w.alloc (.cells #[.int .i64 k, .int .i64 r, .int .i64 m, .slice a la ca, .slice b lb cb] 49)) = w0 at *
  go_region
  go_wp2_with fail
  refine Calls.mono (alive4_ok _) ?_
  rintro e w1 ⟨rfl, hb⟩
  have HW1 : Hid (Below w.heap.size w w1) := HW0.out.drew.trans (hb.mono HW0.out.size)
  clear hb c0 c1 c2 c3 c4 HW0
  by_cases hL : LegalP k r
  rotate_left
  · have HL : Hid _ := hL
    clear hL
    go_wp2_with fail
    refine Calls.mono (legal_no k r _ hk0 hk1 hr0 hr1 HL.out) ?_
    rintro e w2 ⟨rfl, rfl⟩
    go_wp2
    go_ret
    exact ⟨rfl, HW1.out⟩
  obtain ⟨k, r, rfl, rfl, h1, h2, h3⟩ := legal_nat hL
  clear hL
  go_wp2_with fail
  refine Calls.mono (legal_yes k r _ h1 h2 h3) ?_
  rintro e w2 ⟨rfl, rfl⟩
  go_wp2_with fail
  refine Calls.mono (parity_F k r _ h1 h2 h3) ?_
  rintro e w2 ⟨g, l, rfl, hl, hg, hh, hb⟩
  have HL : Hid _ := hl
  have HA2 : Hid _ := holds_new (holds_cons (holds_nil w2) hh) #[.int .i64 r, .int .i64 k, .slice (some ⟨g, 0, none⟩) l l] 30
  have HW2 : Hid (Below w.heap.size w (w2.alloc (.cells #[.int .i64 r, .int .i64 k, .slice (some ⟨g, 0, none⟩) l l] 30))) := (HW1.out.trans (hb.mono HW1.out.size)).alloc (HW1.out.trans (hb.mono HW1.out.size)).size _
  have hkr : k * r ≤ 256 := Nat.le_trans (Nat.mul_le_mul (show k ≤ 16 by omega) (show r ≤ 16 by omega)) (by decide)
  have hlr : (l : Int) = (k : Int) * r := by rw [hl, Nat.mul_comm]; simp
  have hln : ((l : Int) != (l : Int)) = false := by simp
  have hlb : (l : Int) ≤ 256 := by rw [hlr]; exact_mod_cast hkr
  obtain ⟨q, hq⟩ : ∃ q : Nat, q = min k r := ⟨_, rfl⟩
  have hq1 : 1 ≤ q := by omega
  have hqk : q ≤ k := by omega
  have hqr : q ≤ r := by omega
  have hmin : (if r < k then (r : Int) else (k : Int)) = (q : Int) := by rw [hq]; split <;> omega
  obtain ⟨⟨t1, t2⟩, n0, hn0, hti⟩ := mod_place m hq1
  obtain ⟨n, hn⟩ : ∃ n : Nat, n = n0 + 1 := ⟨_, rfl⟩
  have hn1 : 1 ≤ n := by omega
  have hn2 : n ≤ q := by omega
  have hn3 : (n0 : Int) + 1 = (n : Int) := by omega
  clear hn hn0
  have hq0 : ((q : Int) == 0) = false := beq_eq_false_iff_ne.2 (by omega)
  have HQ : Hid _ := hq
  clear hb HW1 hh hg hl hq
  have hrl : (k : Int) * r = l := hlr.symm
  clear hlr
  go_upto_region 11 with fail
  generalize hN : w2.heap.size = N at *
  generalize hW : (w2.alloc (.cells #[.int .i64 r, .int .i64 k, .slice (some ⟨g, 0, none⟩) l l] 30)) = w3 at *
  clear hN hW
  have zN := ltHeap (holds_at HA2.out 0 rfl)
  have d0 := boxB (B := w3.heap.size) (holds_at HA2.out 0 rfl) zN 0 _ rfl
  have d1 := boxB (B := w3.heap.size) (holds_at HA2.out 0 rfl) zN 1 _ rfl
  have d2 := boxB (B := w3.heap.size) (holds_at HA2.out 0 rfl) zN 2 _ rfl
  have hR : Below w3.heap.size w3 w3.drew := (Below.refl _ _).drew
  refine wp_region_noPanic ?_
  refine wp_region_held_drew (S := fun u => Below w3.heap.size w3 u) (by kernel_rfl) ?_ (fun hHeld => ?_)
  · exact hR
  refine wpAnyH_take (i := 0) (oi := { dst := some 68, op := Op.load 30 (Operand.tmp 8), type := 30, pos := "more.go:42", after := #[], guard := none }) (v := ?_) rfl (by kernel_rfl) (by kernel_rfl) (by kernel_rfl) (fun _ _ _ h => h) (Or.inl ⟨by rfl, ?_⟩) hHeld ?_
  rotate_left
  · intro u hSw
    have q0 := d0 u hSw
    have q1 := d1 u hSw
    have q2 := d2 u hSw
    go_simp
    try with_reducible rfl
  try simp only [Act.put, List.setIfInBounds_toArray, List.set_cons_zero, List.set_cons_succ]
  refine wpAnyH_take (i := 1) (oi := { dst := some 69, op := Op.move (Operand.tmp 4), type := 3, pos := "more.go:42", after := #[], guard := none }) (v := ?_) rfl (by kernel_rfl) (by kernel_rfl) (by kernel_rfl) (fun _ _ _ h => h) (Or.inl ⟨by rfl, ?_⟩) hHeld ?_
  rotate_left
  · intro u hSw
    go_simp
    try with_reducible rfl
  try simp only [Act.put, List.setIfInBounds_toArray, List.set_cons_zero, List.set_cons_succ]
  refine wpAnyH_take (i := 2) (oi := { dst := some 70, op := Op.move (Operand.tmp 5), type := 3, pos := "more.go:42", after := #[], guard := none }) (v := ?_) rfl (by kernel_rfl) (by kernel_rfl) (by kernel_rfl) (fun _ _ _ h => h) (Or.inl ⟨by rfl, ?_⟩) hHeld ?_
  rotate_left
  · intro u hSw
    go_simp
    try with_reducible rfl
  try simp only [Act.put, List.setIfInBounds_toArray, List.set_cons_zero, List.set_cons_succ]
  refine wpAnyH_take (i := 3) (oi := { dst := some 71, op := Op.move (Operand.tmp 6), type := 42, pos := "more.go:42", after := #[], guard := none }) (v := ?_) rfl (by kernel_rfl) (by kernel_rfl) (by kernel_rfl) (fun _ _ _ h => h) (Or.inl ⟨by rfl, ?_⟩) hHeld ?_
  rotate_left
  · intro u hSw
    go_simp
    try with_reducible rfl
  try simp only [Act.put, List.setIfInBounds_toArray, List.set_cons_zero, List.set_cons_succ]
  refine wpAnyH_take (i := 5) (oi := { dst := some 73, op := Op.move (Operand.tmp 3), type := 3, pos := "more.go:42", after := #[], guard := none }) (v := ?_) rfl (by kernel_rfl) (by kernel_rfl) (by kernel_rfl) (fun _ _ _ h => h) (Or.inl ⟨by rfl, ?_⟩) hHeld ?_
  rotate_left
  · intro u hSw
    go_simp
    try with_reducible rfl
  try simp only [Act.put, List.setIfInBounds_toArray, List.set_cons_zero, List.set_cons_succ]
  refine wpAnyH_take (i := 6) (oi := { dst := some 74, op := Op.move (Operand.tmp 5), type := 3, pos := "more.go:42", after := #[], guard := none }) (v := ?_) rfl (by kernel_rfl) (by kernel_rfl) (by kernel_rfl) (fun _ _ _ h => h) (Or.inl ⟨by rfl, ?_⟩) hHeld ?_
  rotate_left
  · intro u hSw
    go_simp
    try with_reducible rfl
  try simp only [Act.put, List.setIfInBounds_toArray, List.set_cons_zero, List.set_cons_succ]
  refine wpAnyH_take (i := 7) (oi := { dst := some 75, op := Op.move (Operand.tmp 7), type := 42, pos := "more.go:42", after := #[], guard := none }) (v := ?_) rfl (by kernel_rfl) (by kernel_rfl) (by kernel_rfl) (fun _ _ _ h => h) (Or.inl ⟨by rfl, ?_⟩) hHeld ?_
  rotate_left
  · intro u hSw
    go_simp
    try with_reducible rfl
  try simp only [Act.put, List.setIfInBounds_toArray, List.set_cons_zero, List.set_cons_succ]
  refine wpAnyH_ready (rs := [4]) (by kernel_rfl) (by simp) ?_
  refine (AllReadyH.cons (o := { dst := some 72, op := Op.call { callee := Callee.value (Operand.func 21), args := #[Operand.tmp 69, Operand.tmp 70, Operand.tmp 71], argTypes := #[3, 3, 42] }, type := 42, pos := "more.go:42", after := #[{ on := 1, ground := Ground.data }, { on := 2, ground := Ground.data }, { on := 3, ground := Ground.data }], guard := none }) rfl (fun K hK => ?_) AllReadyH.nil)
  go_simp
  refine Calls.mono (chosen_F r n la ca a ns _ (by omega) (by omega) (by omega) (by omega) HLA.out hma (rowI_below HI.out (HW2.out.trans (Below.mono hR HW2.out.size))) HBD.out) ?_
  rintro e wi ⟨gL, cL, L, rfl, hL1, hL2, hL3, hL4, hbi⟩
  have HTL : Hid (Below w3.heap.size w3 wi) := Below.trans hR (Below.mono hbi (below_size hR))
  have HRL : Hid (RowI wi (some ⟨gL, 0, none⟩) (L.map fun i => ((i : Nat) : Int))) := rowI_own (by rw [← nvs_map]; exact hL4)
  have hcL : n ≤ cL := own_cap hL4
  have H1L : Hid _ := hL1
  have H2L : Hid _ := hL2
  have H3L : Hid _ := hL3
  clear hL1 hL2 hL3 hL4 hbi
  go_wp2_with fail
  refine hK.out _ _ ?_ (fun hHeld => ?_)
  · exact HTL.out
  clear hK K
  try simp only [Act.put, List.setIfInBounds_toArray, List.set_cons_zero, List.set_cons_succ]
  refine wpAnyH_ready (rs := [8]) (by kernel_rfl) (by simp) ?_
  refine (AllReadyH.cons (o := { dst := some 76, op := Op.call { callee := Callee.value (Operand.func 21), args := #[Operand.tmp 73, Operand.tmp 74, Operand.tmp 75], argTypes := #[3, 3, 42] }, type := 42, pos := "more.go:42", after := #[{ on := 5, ground := Ground.data }, { on := 6, ground := Ground.data }, { on := 7, ground := Ground.data }, { on := 4, ground := Ground.chain }], guard := none }) rfl (fun K hK => ?_) AllReadyH.nil)
  go_simp
  refine Calls.mono (chosen_F k n lb cb b ms _ (by omega) (by omega) (by omega) (by omega) HLB.out hmb (rowI_below HJ.out (HW2.out.trans (Below.mono HTL.out HW2.out.size))) HBE.out) ?_
  rintro e wj ⟨gC, cC, C, rfl, hL1, hL2, hL3, hL4, hbi⟩
  have HTC : Hid (Below w3.heap.size w3 wj) := Below.trans HTL.out (Below.mono hbi (below_size HTL.out))
  have HRC : Hid (RowI wj (some ⟨gC, 0, none⟩) (C.map fun i => ((i : Nat) : Int))) := rowI_own (by rw [← nvs_map]; exact hL4)
  have hcC : n ≤ cC := own_cap hL4
  have H1C : Hid _ := hL1
  have H2C : Hid _ := hL2
  have H3C : Hid _ := hL3
  have HRL2 : Hid _ := rowI_below HRL.out hbi
  clear hL1 hL2 hL3 hL4 hbi
  go_wp2_with fail
  refine hK.out _ _ ?_ (fun hHeld => ?_)
  · exact HTC.out
  clear hK K
  try simp only [Act.put, List.setIfInBounds_toArray, List.set_cons_zero, List.set_cons_succ]
  refine wpAnyH_ready (rs := [9]) (by kernel_rfl) (by simp) ?_
  refine (AllReadyH.cons (o := { dst := some 77, op := Op.call { callee := Callee.value (Operand.func 24), args := #[Operand.tmp 68, Operand.tmp 72, Operand.tmp 76], argTypes := #[30, 42, 42] }, type := 30, pos := "more.go:42", after := #[{ on := 0, ground := Ground.data }, { on := 4, ground := Ground.data }, { on := 8, ground := Ground.data }, { on := 8, ground := Ground.chain }], guard := none }) rfl (fun K hK => ?_) AllReadyH.nil)
  go_simp
  refine Calls.mono (square_F r k n l l cL cC gL gC (some ⟨g, 0, none⟩) (parM k r) L C _ (by omega) (by omega) (by omega) (by omega) HL.out (parM_len k r) (Nat.le_refl _) (row8_below (holds_row HA2.out 1 rfl) HTC.out) HRL2.out H2L.out H3L.out HRC.out H2C.out H3C.out hcC hcL) ?_
  rintro e wk ⟨a', c', rfl, h4, h5, h6, hbi⟩
  have HTS : Hid (Below w3.heap.size w3 wk) := Below.trans HTC.out (Below.mono hbi (below_size HTC.out))
  have H5 : Hid _ := h5
  have H6 : Hid _ := h6
  clear h5 h6 hbi
  go_wp2_with fail
  refine hK.out _ _ ?_ (fun hHeld => ?_)
  · exact HTS.out
  clear hK K
  try simp only [Act.put, List.setIfInBounds_toArray, List.set_cons_zero, List.set_cons_succ]
  refine wpAnyH_ready (rs := [10]) (by kernel_rfl) (by simp) ?_
  refine (AllReadyH.cons (o := { dst := some 78, op := Op.call { callee := Callee.value (Operand.func 23), args := #[Operand.tmp 77], argTypes := #[30] }, type := 31, pos := "more.go:42", after := #[{ on := 9, ground := Ground.data }, { on := 9, ground := Ground.chain }], guard := none }) rfl (fun K hK => ?_) AllReadyH.nil)
  go_simp
  have hrk := cut_rank H1L.out H2L.out H3L.out H1C.out H2C.out H3C.out h3
  refine Calls.mono (inverse_F n (n * n) c' a' _ _ (by omega) rfl (grid_len _ _ _) h4 H5.out H6.out s3 (cell_later (HW2.out.trans (Below.mono HTS.out HW2.out.size)) HS3.out)) ?_
  rintro e wl (⟨_, g7, m7, Y, rfl, _, _, _, _, hbi⟩ | ⟨hno, _⟩)
  rotate_left
  · exact absurd hrk hno
  have HTI : Hid (Below w3.heap.size w3 wl) := Below.trans HTS.out (Below.mono hbi (below_size HTS.out))
  clear hbi hrk
  go_wp2_with fail
  refine hK.out _ _ ?_ (fun hHeld => ?_)
  · exact HTI.out
  clear hK K
  try simp only [Act.put, List.setIfInBounds_toArray, List.set_cons_zero, List.set_cons_succ]
  refine wpAnyH_take (i := 11) (oi := { dst := some 67, op := Op.move (Operand.tmp 78), type := 31, pos := "more.go:42", after := #[{ on := 10, ground := Ground.data }], guard := none }) (v := ?_) rfl (by kernel_rfl) (by kernel_rfl) (by kernel_rfl) (fun _ _ _ h => h) (Or.inl ⟨by rfl, ?_⟩) hHeld ?_
  rotate_left
  · intro u hSw
    go_simp
    try with_reducible rfl
  try simp only [Act.put, List.setIfInBounds_toArray, List.set_cons_zero, List.set_cons_succ]
  refine wpAnyH_take (i := 12) (oi := { dst := some 79, op := Op.extract (Operand.tmp 67) 0, type := 30, pos := "more.go:42", after := #[{ on := 11, ground := Ground.data }], guard := none }) (v := ?_) rfl (by kernel_rfl) (by kernel_rfl) (by kernel_rfl) (fun _ _ _ h => h) (Or.inl ⟨by rfl, ?_⟩) hHeld ?_
  rotate_left
  · intro u hSw
    go_simp
    try with_reducible rfl
  try simp only [Act.put, List.setIfInBounds_toArray, List.set_cons_zero, List.set_cons_succ]
  refine wpAnyH_take (i := 13) (oi := { dst := some 80, op := Op.extract (Operand.tmp 67) 1, type := 24, pos := "more.go:42", after := #[{ on := 11, ground := Ground.data }], guard := none }) (v := ?_) rfl (by kernel_rfl) (by kernel_rfl) (by kernel_rfl) (fun _ _ _ h => h) (Or.inl ⟨by rfl, ?_⟩) hHeld ?_
  rotate_left
  · intro u hSw
    go_simp
    try with_reducible rfl
  try simp only [Act.put, List.setIfInBounds_toArray, List.set_cons_zero, List.set_cons_succ]
  refine wpAnyH_take (i := 14) (oi := { dst := some 9, op := Op.assign (Operand.tmp 80), type := 24, pos := "more.go:42", after := #[{ on := 13, ground := Ground.data }, { on := 10, ground := Ground.chain }, { on := 0, ground := Ground.phase }, { on := 1, ground := Ground.phase }, { on := 2, ground := Ground.phase }, { on := 3, ground := Ground.phase }, { on := 4, ground := Ground.phase }, { on := 5, ground := Ground.phase }, { on := 6, ground := Ground.phase }, { on := 7, ground := Ground.phase }, { on := 8, ground := Ground.phase }, { on := 9, ground := Ground.phase }, { on := 10, ground := Ground.phase }, { on := 11, ground := Ground.phase }, { on := 12, ground := Ground.phase }, { on := 13, ground := Ground.phase }], guard := none }) (v := ?_) rfl (by kernel_rfl) (by kernel_rfl) (by kernel_rfl) (fun _ _ _ h => h) (Or.inl ⟨by rfl, ?_⟩) hHeld ?_
  rotate_left
  · intro u hSw
    go_simp
    try with_reducible rfl
  try simp only [Act.put, List.setIfInBounds_toArray, List.set_cons_zero, List.set_cons_succ]
  refine wpAnyH_done (by kernel_rfl) ?_ _
  refine NoPanic.normal ?_
  go_wp2
  go_ret
  exact ⟨rfl, HW2.out.trans (HTI.out.mono HW2.out.size)⟩
theorem squares_walk (k r : Int) (m : Int) (la ca lb cb : Nat) (a b : Option Addr) (ns ms : List Int) (w : World) (hk : -9223372036854775808 ≤ k ∧ k ≤ 9223372036854775807) (hr : -9223372036854775808 ≤ r ∧ r ≤ 9223372036854775807)
    (hla : la = ns.length) (hI : RowI w a ns) (hca : la ≤ ca) (hma : ca ≤ 17592186043904) (hbd : ∀ x ∈ ns, -9223372036854775808 ≤ x ∧ x ≤ 9223372036854775807) (hlb : lb = ms.length) (hJ : RowI w b ms) (hcb : lb ≤ cb) (hmb : cb ≤ 17592186043904) (hbe : ∀ x ∈ ms, -9223372036854775808 ≤ x ∧ x ≤ 9223372036854775807)
    (es : List Addr) (hes : ErrsAt w gsBaseQ es) :
    Calls Tryd.prog 7 #[.agg #[.int .i64 k, .int .i64 r, .int .i64 m, .slice a la ca, .slice b lb cb]] w fun e w' => e = .returned (.bool true) ∧ Below w.heap.size w w' := by
  obtain ⟨s3, _, hs3, _⟩ := errs_at hes 2 _ rfl
  exact squares_ok k r m la ca lb cb a b ns ms w hk.1 hk.2 hr.1 hr.2 s3 hs3 hla (by omega) hI hbd hlb (by omega) hJ hbe
end Go.Proofs.YtokepcikpkffpaaDoor
