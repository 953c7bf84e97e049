/- What Split of package shards answers, of all lists of bytes; nothing that was there turns. -/
import Derived.Test.YtmlpijlcpeoeaaaDoorShardsW
namespace Go.Proofs.YtmlpijlcpeoeaaaDoor
open Go.RowKit Gf
set_option linter.unusedVariables false
set_option maxRecDepth 20000
/-- halves as values: pieces of one block, one behind the other; the first i are there -/
def hvV (g H c i : Nat) : Array Value := ((List.range c).map fun v => if v < i then Value.slice (some ⟨g, v * H, none⟩) H H else .slice none 0 0).toArray
theorem hvV_at {g H c i v : Nat} (hv : v < i) (hc : i ≤ c) : (hvV g H c i)[v]? = some (.slice (some ⟨g, v * H, none⟩) H H) := by
  simp only [hvV, List.getElem?_toArray, List.getElem?_map]
  rw [List.getElem?_range (by omega)]
  simp [hv]
theorem hvV_next {g H c i : Nat} (hc : i < c) : (hvV g H c i)[i]? = some (.slice none 0 0) := by
  simp only [hvV, List.getElem?_toArray, List.getElem?_map]
  rw [List.getElem?_range (by omega)]
  simp
theorem hvV_set {g H c i : Nat} (hc : i < c) : (hvV g H c i).setIfInBounds i (.slice (some ⟨g, i * H, none⟩) H H) = hvV g H c (i + 1) := by
  apply Array.ext_getElem?
  intro j
  rw [Array.getElem?_setIfInBounds]
  by_cases hj : i = j
  · subst hj
    rw [if_pos rfl, if_pos (by simp [hvV]; omega), hvV_at (by omega) (by omega)]
  · rw [if_neg hj]
    simp only [hvV, List.getElem?_toArray, List.getElem?_map]
    by_cases hjc : j < c
    · rw [List.getElem?_range hjc]
      simp only [Option.map_some]
      by_cases h1 : j < i
      · rw [if_pos h1, if_pos (by omega)]
      · rw [if_neg h1, if_neg (by omega)]
    · rw [List.getElem?_eq_none (by simp; omega)]; rfl
theorem run_makeH (g H n : Nat) (hn : n ≤ 64) (w : World) :
    (Instr.makeSlice 25 (.int .i64 (n : Int)) (.int .i64 (n : Int))).run Tryd.prog w = .ok (.slice (some ⟨w.heap.size, 0, none⟩) n n) (w.alloc (.cells (hvV g H n 0) 22)) := by
  obtain ⟨i, hi, h1, h2, h3⟩ := infoS
  have := run_make (P := Tryd.prog) w 25 22 i _ Tryd.underlying25 hi h3 .i64 .i64 n n (by omega) (by omega) (by rw [h2]; omega) (by omega)
  rw [this, h1]
  have e : madeCells (Value.slice none 0 0).cells n = hvV g H n 0 := by
    apply Array.ext_getElem?
    intro i
    by_cases h : i < n <;> simp [madeCells, hvV, Value.cells, h, Nat.mod_one]
  simp only [Int.toNat_natCast, Nat.mul_one, e]
/-- the error's ways -/
theorem split_bad (k : Int) (a : Option Addr) (la ca : Nat) (w : World) (E : Nat → Addr) (hE : ErrsE w E) (hla : la ≤ 140737488355328) (h : halfE k la ≠ 0) :
    Calls Tryd.prog 29 #[.int .i64 k, .slice a la ca] w fun e w' => e = .returned (.tuple #[.slice none 0 0, evV E (halfE k la)]) ∧ Below w.heap.size w w' := by
  have HF : Hid _ := half_F k la w E hE (by omega) (by omega)
  have hv := halfV_no h
  rw [hv] at HF
  obtain ⟨s, hs⟩ : ∃ s, evV E (halfE k la) = errAt s := ⟨E (halfE k la - 1), by unfold evV; rw [if_neg h]⟩
  rw [hs] at HF ⊢
  clear hv hs h hE
  unfold errAt at *
  go_enter Tryd.func29, Tryd.ntmps29
  go_wp2_with fail
  refine Calls.mono HF.out ?_
  rintro e w1 ⟨rfl, hb⟩
  have HB : Hid _ := hb
  clear hb
  go_wp2_with fail
  go_ret2
  exact ⟨rfl, HB.out⟩
set_option maxHeartbeats 1000000 in
theorem split_ok (k n ca : Nat) (a : Option Addr) (xs : List F) (w : World) (E : Nat → Addr) (hE : ErrsE w E) (h1 : 1 ≤ k) (h2 : k ≤ 14) (h3 : 1 ≤ n) (h4 : n ≤ 128 * k) (hn : n = xs.length) (hx : Row8 w a xs) :
    Calls Tryd.prog 29 #[.int .i64 k, .slice a n ca] w fun e w' => ∃ hb g c H, e = .returned (.tuple #[.slice (some ⟨hb, 0, none⟩) c c, .nilIface]) ∧ c = 2 * k ∧ H = cntN (2 * k) n ∧ w.heap.size ≤ hb ∧ w.heap.size ≤ g ∧ g ≠ hb ∧
      w'.heap[hb]? = some (.cells (hvV g H c c) 22 (0, 0)) ∧ w'.heap[g]? = some (.cells (vfs (padF (c * H) xs)) 5 (0, 0)) ∧ Below w.heap.size w w' := by
  have HF : Hid _ := half_F k n w E hE (by omega) (by omega)
  rw [halfV_ok h1 h2 h3 h4, halfE_ok h1 h2 h3 h4, evV_zero] at HF
  obtain ⟨k1, k2, k3, k4⟩ := cnt_half h1 h2 h3 h4
  obtain ⟨c, hc⟩ : ∃ c, c = 2 * k := ⟨_, rfl⟩
  rw [← hc] at HF k1 k2 k3 k4
  generalize hH : cntN c n = H at *
  have hcH : c * H ≤ 1792 := Nat.le_trans (Nat.mul_le_mul (show c ≤ 28 by omega) k2) (by decide)
  obtain ⟨m, hm⟩ : ∃ m, m = c * H := ⟨_, rfl⟩
  have HKC : Hid ((2 : Int) * k = c) := by show _ = _; omega
  have HCM : Hid ((c : Int) * H = m) := by show _ = _; rw [hm]; simp
  have HMM : Hid _ := hm
  have HHH : Hid _ := hH
  have HCC : Hid _ := hc
  rw [← hm] at hcH k3
  have hc28 : c ≤ 28 := by omega
  have HK4 : Hid _ := k4
  have HXL : Hid _ := hn
  have HX : Hid _ := hx
  have hmkA := run_makeH (g := 0) (H := 0) c (by omega)
  clear hE h3 h4 hc hm hH k4 hn hx hmkA
  have H28 : Hid _ := fun g w => run_makeH g H c (by omega) w
  have H8 : Hid _ := fun w => run_make8 m (by omega) w
  go_enter Tryd.func29, Tryd.ntmps29
  go_wp2_with fail
  refine Calls.mono HF.out ?_
  rintro e w1 ⟨rfl, hb⟩
  have HB : Hid _ := hb
  clear hb
  have m1 := H28.out (w1.heap.size + 1) w1
  have m2 := H8.out (w1.alloc (.cells (hvV (w1.heap.size + 1) H c 0) 22))
  have hkc := HKC.out
  have hcm := HCM.out
  have hcp := run_copy8 (w1.heap.size + 1) m m a n ca (zeros m) xs ((w1.alloc (.cells (hvV (w1.heap.size + 1) H c 0) 22)).alloc (.cells (vfs (zeros m)) 5)) 3 (by rw [zeros_len]) HXL.out (by rw [zeros_len, ← HXL.out]; exact k3) (by simpa using heap_alloc_last (w1.alloc (.cells (hvV (w1.heap.size + 1) H c 0) 22)) (.cells (vfs (zeros m)) 5)) (row8_alloc (row8_alloc (row8_below HX.out HB.out) _) _)
  rw [pad_eq (by rw [← HXL.out]; exact k3)] at hcp
  have hB0 : Below w.heap.size w ((w1.alloc (.cells (hvV (w1.heap.size + 1) H c 0) 22)).alloc (.cells (vfs (zeros m)) 5)) := (HB.out.alloc HB.out.size _).alloc (by have := HB.out.size; simp; omega) _
  have z1 : w.heap.size ≤ w1.heap.size := HB.out.size
  obtain ⟨W3, hW3⟩ : ∃ W3, W3 = (((w1.alloc (.cells (hvV (w1.heap.size + 1) H c 0) 22)).alloc (.cells (vfs (zeros m)) 5)).setRow (w1.heap.size + 1) (vfs (padF m xs))) := ⟨_, rfl⟩
  rw [← hW3] at hcp
  have B1 : Hid (W3.heap[w1.heap.size]? = some (.cells (hvV (w1.heap.size + 1) H c 0) 22 (0, 0))) := by
    show _ = _
    rw [hW3, setRow_heap_other _ _ _ _ (by omega)]
    exact (Below.heap_alloc _ _ _ (by simp)).trans (heap_alloc_last w1 _)
  have B2 : Hid (W3.heap[w1.heap.size + 1]? = some (.cells (vfs (padF m xs)) 5 (0, 0))) := by
    show _ = _
    rw [hW3]
    exact setRow_heap _ _ _ _ _ _ (by simpa using heap_alloc_last (w1.alloc (.cells (hvV (w1.heap.size + 1) H c 0) 22)) (.cells (vfs (zeros m)) 5))
  have B3 : Hid (Below w.heap.size w W3) := by
    show Below _ _ _
    rw [hW3]
    exact below_row hB0 (by omega) _
  clear hW3 hB0
  have hsz : (w1.alloc (.cells (hvV (w1.heap.size + 1) H c 0) 22)).heap.size = w1.heap.size + 1 := by simp
  go_wp2
  clear hcp m1 m2
  generalize hN : w1.heap.size = N at *
  clear hN hsz
  go_loopw [36] (fun t wr => ∃ v : Nat, v ≤ c ∧ t = .int .i64 v ∧ W3.grownBy wr (some N) ∧ wr.heap[N]? = some (.cells (hvV (N + 1) H c v) 22 (0, 0))) (fun t _ => c - (intOf t).toNat)
  case atStart => exact ⟨0, by omega, rfl, World.grownBy.refl _ _, B1.out⟩
  case round =>
    obtain ⟨v, hv, rfl, hgb, hs⟩ := hrel
    have HG : Hid _ := hgb
    have HS : Hid _ := hs
    by_cases hlt : v < c
    · obtain ⟨p, hp⟩ : ∃ p, p = v * H := ⟨_, rfl⟩
      have hpm : p + H ≤ m := by
        rw [hp, HMM.out]
        have := Nat.mul_le_mul_right H (show v + 1 ≤ c from hlt)
        rw [Nat.succ_mul] at this; omega
      have m4 : (v : Int) * (H : Int) = (p : Int) := by rw [hp]; simp
      have m3 : ((v : Int) + 1) * (H : Int) = (p : Int) + (H : Int) := by rw [Int.add_mul, Int.one_mul, m4]
      have HP : Hid _ := hp
      have c1 := cellAt hs v _ (hvV_next (g := N + 1) (H := H) hlt)
      have c2 : wr.frozen? ⟨N, v, none⟩ = false := frozen_of_row _ _ _ _ _ hs
      have HT : Hid ((wr.setCell ⟨N, v, none⟩ (.slice (some ⟨N + 1, p, none⟩) H H)).heap[N]? = some (.cells (hvV (N + 1) H c (v + 1)) 22 (0, 0))) := by
        show _ = _
        rw [heap_setCell_same _ _ _ _ _ _ hs, hp, hvV_set hlt]
      clear hp hgb hs hkc hcm
      go_wp2
      exact ⟨⟨v + 1, by omega, by go_num, grownBy_setCell HG.out _, HT.out⟩, by simp [intOf]; omega⟩
    · obtain rfl : v = c := by omega
      clear hgb hs
      go_wp2
      go_ret2
      exact ⟨N, N + 1, v, H, rfl, HCC.out, by rw [← HCC.out]; exact HHH.out.symm, by omega, by omega, by omega, HS.out, by rw [← HMM.out]; exact grown_block HG.out B2.out (by omega), below_grown B3.out HG.out (by omega)⟩
/-- what Split tells of a list -/
def SplitAs (k : Int) (n : Nat) (xs : List F) (E : Nat → Addr) (w' : World) (B : Nat) (b : Option Addr) (l cap : Nat) (ev : Value) : Prop :=
  (halfE k n ≠ 0 ∧ b = none ∧ l = 0 ∧ cap = 0 ∧ ev = errAt (E (halfE k n - 1))) ∨
  (halfE k n = 0 ∧ ev = .nilIface ∧ ∃ a hb g H : Nat, k = a ∧ 1 ≤ a ∧ a ≤ 14 ∧ 1 ≤ n ∧ n ≤ 128 * a ∧ b = some ⟨hb, 0, none⟩ ∧ l = 2 * a ∧ cap = 2 * a ∧ H = cntN (2 * a) n ∧ B ≤ hb ∧ B ≤ g ∧ g ≠ hb ∧
    w'.heap[hb]? = some (.cells (hvV g H (2 * a) (2 * a)) 22 (0, 0)) ∧ w'.heap[g]? = some (.cells (vfs (padF (2 * a * H) xs)) 5 (0, 0)))
theorem split_G (k : Int) (n ca : Nat) (a : Option Addr) (xs : List F) (w : World) (E : Nat → Addr) (hE : ErrsE w E) (hn9 : n ≤ 140737488355328) (hn : n = xs.length) (hx : Row8 w a xs) :
    Calls Tryd.prog 29 #[.int .i64 k, .slice a n ca] w fun e w' => ∃ b l cap ev, e = .returned (.tuple #[.slice b l cap, ev]) ∧ SplitAs k n xs E w' w.heap.size b l cap ev ∧ Below w.heap.size w w' := by
  by_cases h : halfE k n = 0
  · obtain ⟨c, m, rfl, hm, h1, h2, h3, h4⟩ := half_ok h
    obtain rfl : n = m := by omega
    exact (split_ok c n ca a xs w E hE h1 h2 h3 h4 hn hx).mono fun e w' ⟨hb, g, d, H, he, hd, hH, l1, l2, l3, q1, q2, hB⟩ => by
      subst hd
      exact ⟨_, _, _, _, he, .inr ⟨h, rfl, c, hb, g, H, rfl, h1, h2, h3, h4, rfl, rfl, rfl, hH, l1, l2, l3, q1, q2⟩, hB⟩
  · refine (split_bad k a n ca w E hE hn9 h).mono fun e w' ⟨he, hB⟩ => ⟨_, _, _, _, he, .inl ⟨h, rfl, rfl, rfl, ?_⟩, hB⟩
    unfold evV; rw [if_neg h]
end Go.Proofs.YtmlpijlcpeoeaaaDoor
