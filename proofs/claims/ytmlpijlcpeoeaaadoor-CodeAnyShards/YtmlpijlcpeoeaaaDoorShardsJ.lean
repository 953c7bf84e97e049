/- What Join of package shards answers, of all lists of halves; nothing that was there turns. -/
import Derived.Test.YtmlpijlcpeoeaaaDoorShardsA
import Derived.Test.YtmlpijlcpeoeaaaDoorNumBytes
namespace Go.Proofs.YtmlpijlcpeoeaaaDoor
open Go.RowKit Gf
set_option linter.unusedVariables false
set_option maxRecDepth 20000
/-- halves in form -/
def FitP (c h : Nat) (L : List (List F)) : Prop := L.length = c ∧ ∀ xs ∈ L, xs.length = h
theorem rows8_at {w : World} {a : Option Addr} {L : List (List F)} {j : Nat} (h : Rows8 w a L) (hj : j < L.length) : ∃ b off, a = some ⟨b, off, none⟩ ∧ b < w.heap.size ∧ ∀ j xs, L[j]? = some xs → ∃ a' cap', w.cell? ⟨b, off + j, none⟩ = some (.slice a' xs.length cap') ∧ Row8 w a' xs := by
  rcases h with rfl | ⟨b, off, rfl, h⟩
  · simp at hj
  · obtain ⟨a', cap', h1, _⟩ := h j _ (List.getElem?_eq_getElem hj)
    exact ⟨b, off, rfl, by simpa using World.block_lt_of_cell? w _ h1, h⟩
set_option maxHeartbeats 1000000 in
theorem fit_F (k h l cap : Nat) (a : Option Addr) (L : List (List F)) (w : World) (hk : k ≤ 14) (hl : l = L.length) (hl9 : l ≤ 140737488355328) (hL : Rows8 w a L) :
    Calls Tryd.prog 61 #[.int .i64 k, .int .i64 h, .slice a l cap] w fun e w' => ∃ b : Bool, e = .returned (.bool b) ∧ (b = true ∧ FitP (2 * k) h L ∨ b = false ∧ ¬ FitP (2 * k) h L) ∧ w = w' := by
  have HL : Hid _ := hl
  have HR : Hid _ := hL
  by_cases h2 : l = 2 * k
  · have h2' : 2 * (k : Int) = l := by omega
    have H2 : Hid _ := h2
    clear hl hL h2
    go_enter Tryd.func61, Tryd.ntmps61
    go_wp2
    go_loopw [16] (fun t wr => ∃ j : Nat, j ≤ l ∧ t = .int .i64 j ∧ wr = w ∧ Hid (∀ i xs, i < j → L[i]? = some xs → xs.length = h)) (fun t _ => l - (intOf t).toNat)
    case atStart => exact ⟨0, by omega, rfl, rfl, fun i xs h => absurd h (by omega)⟩
    case round =>
      obtain ⟨j, hj, rfl, rfl, HI⟩ := hrel
      by_cases hlt : j < l
      · obtain ⟨b, off, rfl, hb, hc⟩ := rows8_at HR.out (show j < L.length by rw [← HL.out]; exact hlt)
        obtain ⟨xs, hxs⟩ : ∃ xs, L[j]? = some xs := ⟨_, List.getElem?_eq_getElem (by rw [← HL.out]; exact hlt)⟩
        obtain ⟨a', cap', c1, _⟩ := hc j xs hxs
        have HX : Hid _ := hxs
        clear hc hxs
        by_cases he : xs.length = h
        · subst he
          clear h2'
          go_wp2
          refine ⟨⟨j + 1, by omega, by go_num, trivial, fun i ys hi hy => ?_⟩, by simp [intOf]; omega⟩
          by_cases e : i = j
          · subst e
            obtain rfl := Option.some.inj (HX.out.symm.trans hy)
            rfl
          · exact HI.out i ys (by omega) hy
        · have he' : ¬ (xs.length : Int) = h := by omega
          have HN : Hid _ := he
          clear h2' he
          go_wp2
          go_ret
          exact ⟨false, rfl, .inr ⟨rfl, fun hf => HN.out (hf.2 xs (List.mem_of_getElem? HX.out))⟩, rfl⟩
      · obtain rfl : j = l := by omega
        go_wp2
        go_ret
        refine ⟨true, rfl, .inl ⟨rfl, by rw [← HL.out, H2.out], fun xs hx => ?_⟩, rfl⟩
        obtain ⟨i, hi, e⟩ := List.getElem_of_mem hx
        exact HI.out i xs (by rw [HL.out]; exact hi) (by rw [List.getElem?_eq_getElem hi, e])
  · have h2' : ¬ (l : Int) = 2 * k := by omega
    have H2 : Hid _ := h2
    clear hl hL h2
    go_enter Tryd.func61, Tryd.ntmps61
    go_wp2
    go_ret
    exact ⟨false, rfl, .inr ⟨rfl, fun hf => H2.out (by rw [HL.out]; exact hf.1)⟩, rfl⟩
theorem run_make8_cap (n : Nat) (hn : n ≤ 140737488351232) (w : World) :
    (Instr.makeSlice 22 (.int .i64 0) (.int .i64 (n : Int))).run Tryd.prog w = .ok (.slice (some ⟨w.heap.size, 0, none⟩) 0 n) (w.alloc (.cells (vfs (zeros n)) 5)) := by
  obtain ⟨i, hi, h1, h2, h3⟩ := info8
  have := run_make (P := Tryd.prog) w 22 5 i _ Tryd.underlying22 hi h3 .i64 .i64 0 (n : Int) (by omega) (by omega) (by rw [h2]; omega) (by omega)
  rw [this, h1]
  simp only [Int.toNat_natCast, Nat.mul_one, made8, Int.toNat_zero]
/-- the first halves, one behind the other, and room -/
theorem joinP_step {c k : Nat} {L : List (List F)} {xs : List F} (h : ∀ xs ∈ L, xs.length = c) (hx : L[k]? = some xs) :
    (L.take k).flatten ++ xs ++ (zeros ((L.length - k) * c)).drop xs.length = ofP c L (k + 1) ∧ (L.take k).flatten.length = k * c := by
  have hk : k < L.length := (List.getElem?_eq_some_iff.1 hx).1
  have hl : (L.take k).flatten.length = k * c := by
    rw [flat_len (c := c) (fun x hx => h x (List.mem_of_mem_take hx)), List.length_take, Nat.min_eq_left (by omega)]
  have hxl : xs.length = c := h xs (List.mem_of_getElem? hx)
  have hd : L[k] = xs := (List.getElem?_eq_some_iff.1 hx).2
  refine ⟨?_, hl⟩
  rw [zeros_drop, ofP, List.take_succ_eq_append_getElem hk, List.flatten_append, hd, hxl]
  simp only [List.flatten_cons, List.flatten_nil, List.append_nil]
  congr 2
  rw [show L.length - k = (L.length - (k + 1)) + 1 from by omega, Nat.succ_mul]; omega
theorem join_bad (k size : Int) (l cap : Nat) (a : Option Addr) (w : World) (E : Nat → Addr) (hE : ErrsE w E) (hs0 : -9223372036854775808 ≤ size) (hs1 : size ≤ 9223372036854775807) (h : halfE k size ≠ 0) :
    Calls Tryd.prog 37 #[.int .i64 k, .int .i64 size, .slice a l cap] w fun e w' => e = .returned (.tuple #[.slice none 0 0, evV E (halfE k size)]) ∧ Below w.heap.size w w' := by
  have HF : Hid _ := half_F k size w E hE hs0 hs1
  rw [halfV_no h] at HF
  obtain ⟨s, hs⟩ : ∃ s, evV E (halfE k size) = errAt s := ⟨E (halfE k size - 1), by unfold evV; rw [if_neg h]⟩
  rw [hs] at HF ⊢
  clear hs h hE
  unfold errAt at *
  go_enter Tryd.func37, Tryd.ntmps37
  go_wp2_with fail
  refine Calls.mono HF.out ?_
  rintro e w1 ⟨rfl, hb⟩
  have HB : Hid _ := hb
  clear hb
  go_wp2_with fail
  go_ret2
  exact ⟨rfl, HB.out⟩
set_option maxHeartbeats 1000000 in
theorem join_no (k n l cap : Nat) (a : Option Addr) (L : List (List F)) (w : World) (E : Nat → Addr) (hE : ErrsE w E) (hD : w.cell? ⟨1, 0, none⟩ = some (errAt (E 4))) (h1 : 1 ≤ k) (h2 : k ≤ 14) (h3 : 1 ≤ n) (h4 : n ≤ 128 * k)
    (hl : l = L.length) (hl9 : l ≤ 140737488355328) (hL : Rows8 w a L) (hno : ¬ FitP (2 * k) (cntN (2 * k) n) L) :
    Calls Tryd.prog 37 #[.int .i64 k, .int .i64 n, .slice a l cap] w fun e w' => e = .returned (.tuple #[.slice none 0 0, errAt (E 4)]) ∧ Below w.heap.size w w' := by
  have HF : Hid _ := half_F k n w E hE (by omega) (by omega)
  rw [halfV_ok h1 h2 h3 h4, halfE_ok h1 h2 h3 h4, evV_zero] at HF
  have HD : Hid _ := hD
  have HFI : Hid _ := fun u (hb : Below w.heap.size w u) => fit_F k (cntN (2 * k) n) l cap a L u h2 hl hl9 (rows8_below hL hb)
  have HNO : Hid _ := hno
  generalize cntN (2 * k) n = H at *
  clear hE hD hl hL hno h3 h4
  unfold errAt at *
  go_enter Tryd.func37, Tryd.ntmps37
  go_wp2_with fail
  refine Calls.mono HF.out ?_
  rintro e w1 ⟨rfl, hb⟩
  have HB : Hid _ := hb
  clear hb
  go_wp2_with fail
  refine Calls.mono (HFI.out _ HB.out) ?_
  rintro e w2 ⟨b, rfl, hbb, rfl⟩
  have hbf : b = false := by
    rcases hbb with ⟨_, h⟩ | ⟨h, _⟩
    · exact absurd h HNO.out
    · exact h
  subst hbf
  have c0 := cell_later HB.out HD.out
  have hg := World.block_lt_of_cell? _ _ c0
  simp at hg
  clear hbb
  go_wp2
  go_region
  go_wp2
  go_ret2
  exact ⟨rfl, HB.out.drew⟩
set_option maxHeartbeats 2000000 in
theorem join_ok (k n l cap : Nat) (a : Option Addr) (L : List (List F)) (w : World) (E : Nat → Addr) (hE : ErrsE w E) (h1 : 1 ≤ k) (h2 : k ≤ 14) (h3 : 1 ≤ n) (h4 : n ≤ 128 * k)
    (hl : l = L.length) (hL : Rows8 w a L) (hok : FitP (2 * k) (cntN (2 * k) n) L) :
    Calls Tryd.prog 37 #[.int .i64 k, .int .i64 n, .slice a l cap] w fun e w' => ∃ g ys, e = .returned (.tuple #[.slice (some ⟨g, 0, none⟩) n n, .nilIface]) ∧ w.heap.size ≤ g ∧ Hid (L.flatten.take n ++ ys = L.flatten) ∧
      (L.flatten.take n).length = n ∧ w'.heap[g]? = some (.cells (vfs L.flatten) 5 (0, 0)) ∧ Below w.heap.size w w' := by
  have HF : Hid _ := half_F k n w E hE (by omega) (by omega)
  rw [halfV_ok h1 h2 h3 h4, halfE_ok h1 h2 h3 h4, evV_zero] at HF
  obtain ⟨k1, k2, k3, k4⟩ := cnt_half h1 h2 h3 h4
  have hl9 : l ≤ 28 := by rw [hl, hok.1]; omega
  have HFI : Hid _ := fun u (hb : Below w.heap.size w u) => fit_F k (cntN (2 * k) n) l cap a L u h2 hl (by omega) (rows8_below hL hb)
  obtain ⟨c, hc⟩ : ∃ c, c = 2 * k := ⟨_, rfl⟩
  rw [← hc] at HF HFI k1 k2 k3 k4 hok
  generalize cntN c n = H at *
  have hcH : c * H ≤ 1792 := Nat.le_trans (Nat.mul_le_mul (show c ≤ 28 by omega) k2) (by decide)
  obtain ⟨m, hm⟩ : ∃ m, m = c * H := ⟨_, rfl⟩
  have HKC : Hid ((2 : Int) * k = c) := by show _ = _; omega
  have HCM : Hid ((c : Int) * H = m) := by show _ = _; rw [hm]; simp
  have HMM : Hid _ := hm
  rw [← hm] at hcH k3
  have HC : Hid _ := hok.1
  have HA : Hid _ := hok.2
  have hlc : l = c := by rw [hl, hok.1]
  subst hlc
  have HOK : Hid _ := hok
  have HR : Hid _ := hL
  have H8 : Hid _ := fun w => run_make8_cap m (by omega) w
  have HK3 : Hid _ := k3
  have HK4 : Hid _ := k4
  clear hE h3 h4 hc hm hl hL hok k4
  go_enter Tryd.func37, Tryd.ntmps37
  go_wp2_with fail
  refine Calls.mono HF.out ?_
  rintro e w1 ⟨rfl, hb⟩
  have HB : Hid _ := hb
  clear hb
  go_wp2_with fail
  refine Calls.mono (HFI.out _ HB.out) ?_
  rintro e w2 ⟨b, rfl, hbb, rfl⟩
  have hbf : b = true := by
    rcases hbb with ⟨h, _⟩ | ⟨_, h⟩
    · exact h
    · exact absurd HOK.out h
  subst hbf
  have m1 := H8.out w1
  have hkc := HKC.out
  have hcm := HCM.out
  clear hbb
  go_wp2
  have B1 : Hid _ := heap_alloc_last w1 (.cells (vfs (zeros m)) 5)
  have B3 : Hid _ := HB.out.alloc HB.out.size (.cells (vfs (zeros m)) 5)
  have z1 : w.heap.size ≤ w1.heap.size := HB.out.size
  clear m1 hkc hcm
  generalize hN : w1.heap.size = N at *
  generalize (w1.alloc (.cells (vfs (zeros m)) 5)) = W3 at *
  clear hN
  go_loopw [10, 35] (fun s t wr => ∃ j q : Nat, j ≤ l ∧ t = .int .i64 j ∧ s = .slice (some ⟨N, 0, none⟩) q m ∧ Hid (q = j * H) ∧ W3.grownBy wr (some N) ∧ wr.heap[N]? = some (.cells (vfs (ofP H L j)) 5 (0, 0))) (fun _ t _ => l - (intOf t).toNat)
  case atStart => exact ⟨0, 0, by omega, rfl, rfl, by show _ = _; omega, World.grownBy.refl _ _, by rw [ofP_zero, HC.out, ← HMM.out]; exact B1.out⟩
  case round =>
    obtain ⟨j, q, hj, rfl, rfl, HQ, hgb, hs⟩ := hrel
    have HG : Hid _ := hgb
    have HS : Hid _ := hs
    have hW : Below w.heap.size w wr := below_grown B3.out hgb (by omega)
    by_cases hlt : j < l
    · obtain ⟨b, off, rfl, hb, hcl⟩ := rows8_at (rows8_below HR.out hW) (show j < L.length by rw [HC.out]; exact hlt)
      obtain ⟨xs, hxs⟩ : ∃ xs, L[j]? = some xs := ⟨_, List.getElem?_eq_getElem (by rw [HC.out]; exact hlt)⟩
      obtain ⟨a', cap', c1, c2⟩ := hcl j xs hxs
      have hxl : xs.length = H := HA.out xs (List.mem_of_getElem? hxs)
      obtain ⟨e1, e2⟩ := joinP_step HA.out hxs
      have hqm : q + H ≤ m := by
        rw [HQ.out, HMM.out]
        have := Nat.mul_le_mul_right H (show j + 1 ≤ l from hlt)
        rw [Nat.succ_mul] at this; omega
      have hrun := run_append8_room (w := wr) (g := N) (n := q) (cap := m) (xs := (L.take j).flatten) (old := zeros ((L.length - j) * H)) (ys := xs) (a := a') (m := H) (c := cap') 22 hs (by rw [e2]; exact HQ.out) hqm hxl.symm (by
        rw [zeros_len, hxl]
        exact Nat.le_mul_of_pos_left H (by rw [HC.out]; omega)) c2 (fun e => by
          rcases c2 with e' | ⟨_, _, e', _⟩
          · rw [e'] at hxl; simp at hxl; omega
          · rw [e] at e'; cases e')
      rw [e1] at hrun
      rw [hxl] at c1
      have HRun : Hid _ := hrun
      have HT : Hid _ := setRow_heap _ _ _ (vfs (ofP H L (j + 1))) _ _ hs
      have HQ2 : Hid (q + H = (j + 1) * H) := by show _ = _; rw [Nat.succ_mul, HQ.out]
      clear hrun hgb hs hW hcl hxs c2 hxl e1 e2
      go_wp2_with (at_builtin; refine wpList_append_run rfl _ _ 22 rfl _ _ _ _ rfl rfl HRun.out ?_)
      exact ⟨⟨j + 1, q + H, by omega, by go_num, rfl, HQ2.out, grownBy_setRow HG.out _, HT.out⟩, by simp [intOf]; omega⟩
    · obtain rfl : j = l := by omega
      have hq : q = m := by rw [HQ.out, HMM.out]
      subst hq
      have hfl : ofP H L j = L.flatten := by
        have := ofP_done H L
        rw [HC.out] at this
        exact this
      rw [hfl] at HS
      have hlen : L.flatten.length = q := by rw [flat_len HA.out, HC.out, ← HQ.out]
      have HLE : Hid (n ≤ L.flatten.length) := by show n ≤ _; rw [hlen]; exact k3
      clear hgb hs hlen hfl
      go_wp2
      go_ret2
      exact ⟨N, L.flatten.drop n, rfl, by omega, List.take_append_drop _ _, by rw [List.length_take]; exact Nat.min_eq_left HLE.out, HS.out, hW⟩
end Go.Proofs.YtmlpijlcpeoeaaaDoor
