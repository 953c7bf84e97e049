/- What the document's own Split answers, and SameLists of two lists that are the same; nothing that was there turns. -/
import Derived.Test.YtmlpijlcpeoeaaaDoorShardsA
import Derived.Test.YtmlpijlcpeoeaaaDoorRegHeld
namespace Go.Proofs.YtmlpijlcpeoeaaaDoor
open Go.RowKit Gf
set_option linter.unusedVariables false
set_option maxRecDepth 20000
/-- half v, made as far as byte i -/
def hfP (H : Nat) (xs : List F) (v i : Nat) : List F := rowF H (fun j => if j < i then at8 xs (v * H + j) else 0)
theorem hfP_len (H : Nat) (xs : List F) (v i : Nat) : (hfP H xs v i).length = H := rowF_len _ _
theorem hfP_zero (H : Nat) (xs : List F) (v : Nat) : zeros H = hfP H xs v 0 := rowF_eq (zeros_len H) fun j hj => by rw [at8_zeros, if_neg (by omega)]
theorem hfP_done (H : Nat) (xs : List F) (v : Nat) : hfP H xs v H = hf H xs v := rowF_congr fun j hj => by rw [if_pos hj]
theorem hfP_step {H : Nat} {xs : List F} {v i : Nat} (hi : i < H) : (hfP H xs v i).set i (at8 xs (v * H + i)) = hfP H xs v (i + 1) := by
  refine rowF_eq (by rw [List.length_set, hfP_len]) fun j hj => ?_
  by_cases h : j = i
  · subst h
    rw [if_pos (by omega)]
    simp [at8, hfP_len, hj]
  · have e : at8 ((hfP H xs v i).set i (at8 xs (v * H + i))) j = at8 (hfP H xs v i) j := by simp [at8, Ne.symm h]
    rw [e, hfP, at8_rowF hj]
    by_cases h2 : j < i
    · rw [if_pos h2, if_pos (by omega)]
    · rw [if_neg h2, if_neg (by omega)]
theorem hfP_over {H : Nat} {xs : List F} {v i : Nat} (h : xs.length ≤ v * H + i) : hfP H xs v i = hfP H xs v (i + 1) := rowF_congr fun j hj => by
  by_cases h1 : j < i
  · rw [if_pos h1, if_pos (by omega)]
  · rw [if_neg h1]
    by_cases h2 : j < i + 1
    · rw [if_pos h2, at8_over (by omega)]
    · rw [if_neg h2]
/-- lists as values: whole blocks -/
def slsV (H : Nat) (gs : List Nat) : List Value := gs.map fun g => .slice (some ⟨g, 0, none⟩) H H
theorem slsV_snoc (H : Nat) (gs : List Nat) (g : Nat) : slsV H gs ++ [.slice (some ⟨g, 0, none⟩) H H] = slsV H (gs ++ [g]) := by simp [slsV]
theorem rsplit_bad (k : Int) (a : Option Addr) (la ca : Nat) (w : World) (h : halfE k la ≠ 0) :
    Calls Tryd.prog 31 #[.int .i64 k, .slice a la ca] w fun e w' => e = .returned (.tuple #[.slice none 0 0, .int .i64 (halfE k la)]) ∧ w = w' := by
  have HF : Hid _ := fun w => rhalf_F k la w
  rw [halfV_no h] at HF
  have h' : ¬ ((halfE k la : Nat) : Int) = 0 := by omega
  generalize halfE k la = x at *
  clear h
  go_enter Tryd.func31, Tryd.ntmps31
  go_wp2_with fail
  refine Calls.mono (HF.out _) ?_
  rintro e w1 ⟨rfl, rfl⟩
  go_wp2_with fail
  go_ret2
  exact ⟨rfl, rfl⟩
set_option maxHeartbeats 2000000 in
theorem rsplit_ok (k n ca : Nat) (a : Option Addr) (xs : List F) (w : World) (h1 : 1 ≤ k) (h2 : k ≤ 14) (h3 : 1 ≤ n) (h4 : n ≤ 128 * k) (hn : n = xs.length) (hx : Row8 w a xs) :
    Calls Tryd.prog 31 #[.int .i64 k, .slice a n ca] w fun e w' => ∃ b c cap H, e = .returned (.tuple #[.slice b c cap, .int .i64 0]) ∧ c = 2 * k ∧ H = cntN (2 * k) n ∧ Rows8 w' b ((List.range c).map (hf H xs)) ∧ Below w.heap.size w w' := by
  have HF : Hid _ := fun w => rhalf_F k n w
  rw [halfV_ok h1 h2 h3 h4, halfE_ok h1 h2 h3 h4] at HF
  obtain ⟨k1, k2, k3, k4⟩ := cnt_half h1 h2 h3 h4
  obtain ⟨c, hc⟩ : ∃ c, c = 2 * k := ⟨_, rfl⟩
  rw [← hc] at HF k1 k2 k3 k4
  generalize hH : cntN c n = H at *
  have HCC : Hid _ := hc
  have HHH : Hid _ := hH
  have HKC : Hid ((2 : Int) * k = c) := by show _ = _; omega
  have hc28 : c ≤ 28 := by omega
  have HXL : Hid _ := hn
  have HX : Hid _ := hx
  have H8 : Hid _ := fun w => run_make8 H (by omega) w
  clear k3 k4 h3 h4 hc hH hn hx
  go_enter Tryd.func31, Tryd.ntmps31
  go_wp2_with fail
  refine Calls.mono (HF.out _) ?_
  rintro e w1 ⟨rfl, rfl⟩
  go_wp2
  have hown : (w.alloc (.cells #[] 22)).ownsRow w.heap.size 22 1 (.slice (some ⟨w.heap.size, 0, none⟩) 0 0) 0 (slsV H []) := ⟨rfl, .inr ⟨w.heap.size, 0, #[], rfl, Nat.le_refl _, heap_alloc_last _ _, by simp, by simp [maxLen], rfl, rfl⟩⟩
  go_loopw [8, 9] (fun s t wr => ∃ v : Nat, ∃ gs : List Nat, v ≤ c ∧ t = .int .i64 v ∧ gs.length = v ∧ Below w.heap.size w wr ∧ wr.ownsRow w.heap.size 22 1 s v (slsV H gs) ∧ ∀ (j g : Nat), gs[j]? = some g → wr.heap[g]? = some (.cells (vfs (hf H xs j)) 5 (0, 0))) (fun _ t _ => c - (intOf t).toNat)
  case atStart => exact ⟨0, [], by omega, rfl, rfl, (Below.refl _ _).alloc (Nat.le_refl _) _, hown, fun j g h => by simp at h⟩
  case round =>
    obtain ⟨v, gs, hv, rfl, hgs, hb, ho, hrows⟩ := hrel
    have HGS : Hid _ := hgs
    have HB : Hid _ := hb
    have HO : Hid _ := ho
    have HRO : Hid _ := hrows
    have hkc := HKC.out
    clear hgs hb hrows hown
    by_cases hlt : v < c
    · have m1 := H8.out wr
      have B1 : Hid _ := heap_alloc_last wr (.cells (vfs (zeros H)) 5)
      have HBW : Hid (Below wr.heap.size wr (wr.alloc (.cells (vfs (zeros H)) 5))) := (Below.refl _ _).alloc (Nat.le_refl _) _
      obtain ⟨p, hp⟩ : ∃ p, p = v * H := ⟨_, rfl⟩
      have hpm : p ≤ 1792 := by
        rw [hp]; exact Nat.le_trans (Nat.mul_le_mul (show v ≤ 28 by omega) k2) (by decide)
      have m4 : (v : Int) * (H : Int) = (p : Int) := by rw [hp]; simp
      have HP : Hid _ := hp
      have HM4 : Hid _ := m4
      clear ho hp m4
      go_wp2
      clear m1
      generalize hN : wr.heap.size = N at *
      generalize (wr.alloc (.cells (vfs (zeros H)) 5)) = W3 at *
      have HN : Hid _ := hN
      clear hN hkc
      generalize wr = wo at *
      go_loopw [11] (fun t wr => ∃ i : Nat, i ≤ H ∧ t = .int .i64 i ∧ W3.grownBy wr (some N) ∧ wr.heap[N]? = some (.cells (vfs (hfP H xs v i)) 5 (0, 0))) (fun t _ => H - (intOf t).toNat)
      case atStart => exact ⟨0, by omega, rfl, World.grownBy.refl _ _, by rw [← hfP_zero]; exact B1.out⟩
      case round =>
        obtain ⟨i, hi, rfl, hgb, hs⟩ := hrel
        have HG : Hid _ := hgb
        have HS : Hid _ := hs
        have hBWx : Below wo.heap.size wo W3 := by rw [HN.out]; exact HBW.out
        have HBR : Hid (Below N wo wr) := by
          show Below N wo wr
          have := below_grown hBWx hgb (by rw [HN.out]; exact Nat.le_refl _)
          rwa [HN.out] at this
        have hBw : Below w.heap.size w wr := HB.out.trans (HBR.out.mono (by rw [← HN.out]; exact HB.out.size))
        have HBw : Hid _ := hBw
        by_cases hlti : i < H
        · have hm4 := HM4.out
          obtain ⟨q, hq⟩ : ∃ q, q = p + i := ⟨_, rfl⟩
          have hq' : (p : Int) + (i : Int) = (q : Int) := by omega
          have HQ : Hid (q = v * H + i) := by show _ = _; rw [hq, HP.out]
          have hqm : q ≤ 4096 := by omega
          clear hq
          by_cases hqn : q < n
          · obtain ⟨b', off, rfl, hbl, hcl⟩ := row8_cell HX.out (show q < xs.length by rw [← HXL.out]; exact hqn)
            have c1 := cell_later hBw (hcl q (by rw [← HXL.out]; exact hqn))
            have c2 : wr.cell? ⟨N, i, none⟩ = some (.int .u8 ((at8 (hfP H xs v i) i).toNat : Int)) := cellAt hs i _ (vfs_get _ _ (by rw [hfP_len]; exact hlti))
            have c3 : wr.frozen? ⟨N, i, none⟩ = false := frozen_of_row _ _ _ _ _ hs
            have HT : Hid ((wr.setCell ⟨N, i, none⟩ (.int .u8 ((at8 xs q).toNat : Int))).heap[N]? = some (.cells (vfs (hfP H xs v (i + 1))) 5 (0, 0))) := by
              show _ = _
              rw [heap_setCell_same _ _ _ _ _ _ hs, vfs_set, HQ.out, hfP_step hlti]
            clear hgb hs hBw hcl
            go_wp2
            exact ⟨⟨i + 1, by omega, by go_num, grownBy_setCell HG.out _, HT.out⟩, by simp [intOf]; omega⟩
          · have ho9 : hfP H xs v i = hfP H xs v (i + 1) := hfP_over (by rw [← HQ.out, ← HXL.out]; omega)
            rw [ho9] at HS
            clear hgb hs hBw ho9
            go_wp2
            exact ⟨⟨i + 1, by omega, by go_num, HG.out, HS.out⟩, by simp [intOf]; omega⟩
        · obtain rfl : i = H := by omega
          have ho4 := World.ownsRow.alloc (own_below HO.out (by rw [HN.out]; exact HBR.out)) (.cells #[.slice (some ⟨N, 0, none⟩) i i] 22)
          obtain ⟨g2, cap2, w2, hrun, ho2, hgr, hor, hlt2⟩ := appendS (b := wr.heap.size) (c := 1) (x := .slice (some ⟨N, 0, none⟩) i i) 25 ho4 (cellAt (heap_alloc_last wr (.cells #[.slice (some ⟨N, 0, none⟩) i i] 22)) 0 _ rfl) rfl (by omega) (by have := hBw.size; simp; omega)
          rw [slsV_snoc] at ho2
          have hb6 := below_own (B := w.heap.size) (hBw.alloc hBw.size (.cells #[.slice (some ⟨N, 0, none⟩) i i] 22)) ho4 hgr (by have := hBw.size; simp; omega)
          have hkeep : ∀ (g : Nat) (ys : List F), wr.heap[g]? = some (.cells (vfs ys) 5 (0, 0)) → w2.heap[g]? = some (.cells (vfs ys) 5 (0, 0)) := fun g ys h =>
            own_other ho4 hgr ((Below.heap_alloc _ _ _ (ltHeap h)).trans h) (by decide)
          have HROW : Hid (∀ (j g : Nat), (gs ++ [N])[j]? = some g → w2.heap[g]? = some (.cells (vfs (hf i xs j)) 5 (0, 0))) := fun j g hj => by
            by_cases hjv : j < v
            · rw [List.getElem?_append_left (by rw [HGS.out]; exact hjv)] at hj
              exact hkeep g _ (heap_later (HRO.out j g hj) (by rw [HN.out]; exact HBR.out))
            · have hj2 : j = v := by
                have := (List.getElem?_eq_some_iff.1 hj).1
                rw [List.length_append, HGS.out, List.length_singleton] at this
                omega
              subst hj2
              rw [List.getElem?_append_right (by rw [HGS.out]; exact Nat.le_refl _), HGS.out, Nat.sub_self] at hj
              obtain rfl := Option.some.inj hj
              exact hkeep _ _ (by rw [← hfP_done]; exact hs)
          have HLEN : Hid ((gs ++ [N]).length = v + 1) := by show _ = _; rw [List.length_append, HGS.out]; rfl
          have HRun : Hid _ := hrun
          have HO2 : Hid _ := ho2
          have HB6 : Hid _ := hb6
          clear hgb hs hBw ho4 hrun ho2 hb6 hgr hor hlt2 hkeep
          go_wp2_with (at_builtin; refine wpList_append_run rfl _ _ 25 rfl _ _ _ _ rfl rfl HRun.out ?_)
          exact ⟨⟨v + 1, gs ++ [N], by omega, by go_num, HLEN.out, HB6.out, HO2.out, HROW.out⟩, by simp [intOf]; omega⟩
    · obtain rfl : v = c := by omega
      have hfin : ∃ b cap, u8 = .slice b v cap ∧ Rows8 wr b ((List.range v).map (hf H xs)) := by
        rcases ho.2 with ⟨_, h0⟩ | ⟨g, cap, cur, e, hg⟩
        · omega
        · refine ⟨some ⟨g, 0, none⟩, cap, e, .inr ⟨g, 0, rfl, fun j ys hj => ?_⟩⟩
          have hjv : j < v := by have := (List.getElem?_eq_some_iff.1 hj).1; simpa using this
          rw [List.getElem?_map, List.getElem?_range hjv] at hj
          obtain rfl := Option.some.inj hj
          obtain ⟨g', hg'⟩ : ∃ g', gs[j]? = some g' := ⟨_, List.getElem?_eq_getElem (by rw [HGS.out]; exact hjv)⟩
          have hrow := HRO.out j g' hg'
          have hoe := ho
          rw [e] at hoe
          refine ⟨some ⟨g', 0, none⟩, H, ?_, row8_own hrow⟩
          rw [Nat.zero_add, hoe.cellAt j (by rw [Nat.mul_one]; exact hjv), hf_len]
          simp [slsV, hg']
      obtain ⟨b9, cap9, rfl, hr9⟩ := hfin
      have HR9 : Hid _ := hr9
      clear hr9 ho
      go_wp2
      go_ret2
      exact ⟨b9, v, cap9, H, rfl, HCC.out, by rw [← HCC.out]; exact HHH.out.symm, HR9.out, HB.out⟩
end Go.Proofs.YtmlpijlcpeoeaaaDoor
