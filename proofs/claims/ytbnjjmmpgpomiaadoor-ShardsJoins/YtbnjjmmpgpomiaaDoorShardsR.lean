/- What the document's own Half and Stripes answer, of all numbers; nothing that was there turns. -/
import Derived.Test.YtbnjjmmpgpomiaaDoorShardsW
namespace Go.Proofs.YtbnjjmmpgpomiaaDoor
open Go.RowKit Gf
set_option linter.unusedVariables false
set_option maxRecDepth 20000
theorem rhalf_F (k size : Int) (w : World) :
    Calls Tryd.prog 10 #[.int .i64 k, .int .i64 size] w fun e w' => e = .returned (.tuple #[.int .i64 (halfV k size), .int .i64 (halfE k size)]) ∧ w = w' := by
  by_cases hk : OkK k
  · obtain ⟨b1, b2⟩ := hk
    obtain ⟨a, rfl⟩ := Int.eq_ofNat_of_zero_le (show 0 ≤ k by omega)
    have c1 : 1 ≤ a := by omega
    have c2 : a ≤ 14 := by omega
    have g1 : (1 : Int) ≤ a := by omega
    have g2 : (a : Int) ≤ 14 := by omega
    by_cases h1 : size < 1
    · have e1 : halfE a size = 12 := by unfold halfE; rw [if_pos (show OkK a from ⟨by omega, by omega⟩), if_pos h1]
      rw [halfV_no (by rw [e1]; decide), e1]
      clear e1
      go_enter Tryd.func10, Tryd.ntmps10
      go_wp2
      go_ret2
      exact ⟨rfl, rfl⟩
    · obtain ⟨n, rfl⟩ := Int.eq_ofNat_of_zero_le (show 0 ≤ size by omega)
      have d1 : 1 ≤ n := by omega
      have HY : Hid (∀ h : Nat, (h - 1) * (2 * a) < n → n ≤ h * (2 * a) → h ≤ 64 → halfV a n = h ∧ halfE a n = 0) := fun h x1 x2 x3 => by
        have d2 : n ≤ 128 * a := by
          have := Nat.mul_le_mul_right (2 * a) x3
          omega
        exact ⟨by rw [halfV_ok c1 c2 d1 d2]; exact (cnt_eq (by omega) (.inr x1) x2).symm, halfE_ok c1 c2 d1 d2⟩
      have HN : Hid (64 * (2 * a) < n → halfV a n = 0 ∧ halfE a n = 20) := fun x => by
        have e1 : halfE a n = 20 := by unfold halfE; rw [if_pos (show OkK a from ⟨by omega, by omega⟩), if_neg h1, if_pos (by omega)]
        exact ⟨halfV_no (by rw [e1]; decide), e1⟩
      generalize halfV a n = hv at *
      generalize halfE a n = he at *
      clear b1 b2
      go_enter Tryd.func10, Tryd.ntmps10
      go_wp2
      go_loopw [6] (fun t wr => ∃ h : Nat, 1 ≤ h ∧ h ≤ 65 ∧ t = .int .i64 h ∧ Hid ((h - 1) * (2 * a) < n) ∧ wr = w) (fun t _ => 65 - (intOf t).toNat)
      case atStart => exact ⟨1, by omega, by omega, rfl, by show _ < _; omega, rfl⟩
      case round =>
        obtain ⟨h, l1, l2, rfl, HL, rfl⟩ := hrel
        by_cases hlt : h ≤ 64
        · obtain ⟨q, hq⟩ : ∃ q : Nat, q = h * (2 * a) := ⟨_, rfl⟩
          have hq2 : q ≤ 1792 := by
            rw [hq]
            exact Nat.le_trans (Nat.mul_le_mul hlt (show 2 * a ≤ 28 by omega)) (by decide)
          have HQ : Hid ((2 : Int) * a * h = (q : Int)) := by
            show _ = _
            rw [hq, Nat.mul_comm h]; simp
          have HQ2 : Hid _ := hq
          by_cases hx : n ≤ q
          · obtain ⟨r1, r2⟩ := HY.out h HL.out (by rw [← hq]; exact hx) hlt
            subst r1 r2
            have hx' : (n : Int) ≤ q := by omega
            clear hq
            have hqq := HQ.out
            go_wp2
            go_ret2
            exact ⟨rfl, rfl⟩
          · have hx' : ¬ (n : Int) ≤ q := by omega
            clear hq
            have hqq := HQ.out
            go_wp2
            exact ⟨⟨h + 1, by omega, by omega, by go_num, by show _ < _; rw [Nat.add_sub_cancel, ← HQ2.out]; omega, trivial⟩, by simp [intOf]; omega⟩
        · obtain rfl : h = 65 := by omega
          obtain ⟨r1, r2⟩ := HN.out HL.out
          subst r1 r2
          go_wp2
          go_ret2
          exact ⟨rfl, rfl⟩
  · have e1 : halfE k size = 1 := by unfold halfE; rw [if_neg hk]
    rw [halfV_no (by rw [e1]; decide), e1]
    clear e1
    by_cases h1 : k < 1
    · go_enter Tryd.func10, Tryd.ntmps10
      go_wp2
      go_ret2
      exact ⟨rfl, rfl⟩
    · have h2 : 14 < k := by simp only [OkK] at hk; omega
      clear hk
      go_enter Tryd.func10, Tryd.ntmps10
      go_wp2
      go_ret2
      exact ⟨rfl, rfl⟩
theorem rstripes_F (k size : Int) (w : World) :
    Calls Tryd.prog 12 #[.int .i64 k, .int .i64 size] w fun e w' => ∃ b l cap, e = .returned (.tuple #[.slice b l cap, .int .i64 (stripesE k size)]) ∧ l = (stripesL k size).length ∧ RowI w' b (stripesL k size) ∧ Below w.heap.size w w' := by
  by_cases hk : OkK k
  · obtain ⟨b1, b2⟩ := hk
    obtain ⟨a, rfl⟩ := Int.eq_ofNat_of_zero_le (show 0 ≤ k by omega)
    have c1 : 1 ≤ a := by omega
    have c2 : a ≤ 14 := by omega
    have g1 : (1 : Int) ≤ a := by omega
    have g2 : (a : Int) ≤ 14 := by omega
    clear b1 b2
    by_cases h1 : size < 0
    · have e1 : stripesE a size = 12 := by unfold stripesE; rw [if_pos (show OkK a from ⟨by omega, by omega⟩), if_pos h1]
      rw [stripesL_no (by rw [e1]; decide), e1]
      clear e1
      go_enter Tryd.func12, Tryd.ntmps12
      go_wp2
      go_ret2
      first | exact ⟨none, 0, 0, rfl, rfl, .inl rfl, Below.refl _ _⟩ | exact ⟨none, 0, ⟨0, rfl⟩, rfl, .inl rfl, Below.refl _ _⟩
    · by_cases h2 : 4096 < size
      · have e1 : stripesE a size = 20 := by unfold stripesE; rw [if_pos (show OkK a from ⟨by omega, by omega⟩), if_neg h1, if_pos h2]
        rw [stripesL_no (by rw [e1]; decide), e1]
        clear e1
        go_enter Tryd.func12, Tryd.ntmps12
        go_wp2
        go_ret2
        first | exact ⟨none, 0, 0, rfl, rfl, .inl rfl, Below.refl _ _⟩ | exact ⟨none, 0, ⟨0, rfl⟩, rfl, .inl rfl, Below.refl _ _⟩
      · obtain ⟨n, rfl⟩ := Int.eq_ofNat_of_zero_le (show 0 ≤ size by omega)
        have d2 : n ≤ 4096 := by omega
        rw [stripesL_ok c1 c2 d2, stripesE_ok c1 c2 d2]
        have hcs := cnt_stripes (a := a) (n := n) c1 d2
        obtain ⟨m, hm⟩ : ∃ m, m = 128 * a := ⟨_, rfl⟩
        have HMA : Hid ((128 : Int) * a = m) := by show _ = _; omega
        rw [← hm] at hcs ⊢
        have m0 : 0 < m := by omega
        have m1 : m ≤ 1792 := by omega
        have HLT : Hid _ := fun i => lt_cnt (m := m) (n := n) (i := i) m0
        generalize hcn : cntN m n = cn at *
        have HCN : Hid _ := hcn
        have HLS : Hid (∀ j, (strL m n j).length = j) := fun j => strL_len m n j
        have HNN : Hid _ := d2
        clear h1 h2 hm hcn
        go_enter Tryd.func12, Tryd.ntmps12
        go_wp2
        have hown : (w.alloc (.cells #[] 3)).ownsRow w.heap.size 3 1 (.slice (some ⟨w.heap.size, 0, none⟩) 0 0) 0 (strV m n 0) := ⟨rfl, .inr ⟨w.heap.size, 0, #[], rfl, Nat.le_refl _, heap_alloc_last _ _, by simp, by simp [maxLen], rfl, rfl⟩⟩
        go_loopw [6, 7] (fun v t wr => ∃ i q : Nat, i ≤ cn ∧ t = .int .i64 q ∧ Hid (q = i * m) ∧ Below w.heap.size w wr ∧ wr.ownsRow w.heap.size 3 1 v i (strV m n i)) (fun _ t _ => n + m - (intOf t).toNat)
        case atStart => exact ⟨0, 0, by omega, rfl, by show _ = _; omega, (Below.refl _ _).alloc (Nat.le_refl _) _, hown⟩
        case round =>
          obtain ⟨i, q, hi, rfl, HP, hb, ho⟩ := hrel
          have HB : Hid _ := hb
          have HO : Hid _ := ho
          obtain ⟨av, cv, rfl, hv, hn⟩ := ownS_slice ho
          have HV : Hid _ := hv
          clear hb ho hv hn hown
          by_cases hlt : i < cn
          · have hp0 : q < n := by have := (HLT.out i).1 hlt; rw [HP.out]; exact this
            have hp0' : (q : Int) < n := by omega
            have HP2 : Hid (q + m = (i + 1) * m) := by show _ = _; rw [Nat.add_mul, Nat.one_mul, HP.out]
            have hma := HMA.out
            have hq9 : q ≤ 4096 := by omega
            by_cases hmp : (m : Int) < (n : Int) - q
            · have ho := World.ownsRow.alloc HO.out (.cells #[.int .i64 m] 3)
              obtain ⟨g2, cap2, w6, hrun, ho2, hgr, hor, hlt2⟩ := appendI (b := wr.heap.size) (c := 1) (x := (m : Int)) 29 ho (cellAt (heap_alloc_last wr (.cells #[.int .i64 m] 3)) 0 _ rfl) (by omega) (by have := HB.out.size; simp; omega)
              rw [strV_succ (by rw [← HP.out]; omega)] at ho2
              have hb6 := below_own (B := w.heap.size) (HB.out.alloc HB.out.size (.cells #[.int .i64 m] 3)) ho hgr (by have := HB.out.size; simp; omega)
              have HRun : Hid _ := hrun
              have HO2 : Hid _ := ho2
              have HB6 : Hid _ := hb6
              clear ho hrun ho2 hb6 hgr hor hlt2
              go_wp2_with (at_builtin; refine wpList_append_run rfl _ _ 29 rfl _ _ _ _ rfl rfl HRun.out ?_)
              exact ⟨⟨i + 1, q + m, by omega, by go_num, HP2, HB6.out, HO2.out⟩, by simp [intOf]; omega⟩
            · have ho := World.ownsRow.alloc HO.out (.cells #[.int .i64 ((n : Int) - q)] 3)
              obtain ⟨g2, cap2, w6, hrun, ho2, hgr, hor, hlt2⟩ := appendI (b := wr.heap.size) (c := 1) (x := ((n : Int) - q)) 29 ho (cellAt (heap_alloc_last wr (.cells #[.int .i64 ((n : Int) - q)] 3)) 0 _ rfl) (by omega) (by have := HB.out.size; simp; omega)
              rw [strV_succ (by rw [← HP.out]; omega)] at ho2
              have hb6 := below_own (B := w.heap.size) (HB.out.alloc HB.out.size (.cells #[.int .i64 ((n : Int) - q)] 3)) ho hgr (by have := HB.out.size; simp; omega)
              have HRun : Hid _ := hrun
              have HO2 : Hid _ := ho2
              have HB6 : Hid _ := hb6
              clear ho hrun ho2 hb6 hgr hor hlt2
              go_wp2_with (at_builtin; refine wpList_append_run rfl _ _ 29 rfl _ _ _ _ rfl rfl HRun.out ?_)
              exact ⟨⟨i + 1, q + m, by omega, by go_num, HP2, HB6.out, HO2.out⟩, by simp [intOf]; omega⟩
          · have hp0 : ¬ (q : Int) < n := by
              have h3 : ¬ i * m < n := fun h => hlt ((HLT.out i).2 h)
              have := HP.out; omega
            obtain rfl : i = cn := by omega
            go_wp2
            go_ret2
            exact ⟨av, i, ⟨cv, rfl⟩, (HLS.out i).symm, HV.out, HB.out⟩
  · have e1 : stripesE k size = 1 := by unfold stripesE; rw [if_neg hk]
    rw [stripesL_no (by rw [e1]; decide), e1]
    clear e1
    by_cases h1 : k < 1
    · go_enter Tryd.func12, Tryd.ntmps12
      go_wp2
      go_ret2
      first | exact ⟨none, 0, 0, rfl, rfl, .inl rfl, Below.refl _ _⟩ | exact ⟨none, 0, ⟨0, rfl⟩, rfl, .inl rfl, Below.refl _ _⟩
    · have h2 : 14 < k := by simp only [OkK] at hk; omega
      clear hk
      go_enter Tryd.func12, Tryd.ntmps12
      go_wp2
      go_ret2
      first | exact ⟨none, 0, 0, rfl, rfl, .inl rfl, Below.refl _ _⟩ | exact ⟨none, 0, ⟨0, rfl⟩, rfl, .inl rfl, Below.refl _ _⟩
end Go.Proofs.YtbnjjmmpgpomiaaDoor
