/- Elimination's one step in the program, makePivot: what it changes is the rows' own block alone. -/
import Derived.Test.YtkoakingmnjdoabDoorSolveM
import Derived.BigRegion
namespace Go.Proofs.YtkoakingmnjdoabDoor
open Go.RowKit Gf
set_option linter.unusedVariables false
set_option maxRecDepth 20000
/-- the rows on the way through makePivot's loop -/
def pivT (R : Mt) (row above col : Nat) : Mt := fun x => if x = above then (fun j => gm (inv (R row col)) (R row j)) else swapF R row above x
def pivP (R : Mt) (row above col k : Nat) : Mt := fun x => if x < k then pivF R row above col x else pivT R row above col x
theorem pivP_zero (R : Mt) (row above col : Nat) : pivP R row above col 0 = pivT R row above col := by funext x; simp [pivP]
theorem pivP_above (R : Mt) (row above col k : Nat) : pivP R row above col k above = fun j => gm (inv (R row col)) (R row j) := by
  funext j; simp only [pivP, pivT, if_true]
  split
  · rw [pivF_above]
  · rfl
theorem pivP_here (R : Mt) {row above col k : Nat} (h : k ≠ above) : pivP R row above col k k = swapF R row above k := by simp [pivP, pivT, h]
theorem pivP_skip (R : Mt) {row above col k : Nat} (h : k = above ∨ swapF R row above k col = 0) : pivP R row above col (k + 1) = pivP R row above col k := by
  funext x j
  simp only [pivP]
  by_cases e : x = k
  · subst e
    rw [if_pos (by omega), if_neg (by omega)]
    simp only [pivF, pivT]
    rcases h with h | h
    · simp [h]
    · by_cases e2 : x = above
      · simp [e2]
      · simp [e2, h]
  · by_cases e2 : x < k
    · rw [if_pos (by omega), if_pos e2]
    · rw [if_neg (by omega), if_neg e2]
theorem pivP_step (R : Mt) {row above col k : Nat} (h : k ≠ above) : (fun x => if x = k then (fun j => ga (swapF R row above k j) (gm (swapF R row above k col) (gm (inv (R row col)) (R row j)))) else pivP R row above col k x) = pivP R row above col (k + 1) := by
  funext x j
  simp only [pivP]
  by_cases e : x = k
  · subst e
    rw [if_pos rfl, if_pos (by omega)]
    simp only [pivF, h, if_false]
  · rw [if_neg e]
    by_cases e2 : x < k
    · simp only [if_pos e2, if_pos (show x < k + 1 by omega)]
    · simp only [if_neg e2, if_neg (show ¬ x < k + 1 by omega)]
theorem pivP_all (R : Mt) (row above col n : Nat) : ∀ k, k < n → ∀ j, j < n + n + 128 → pivP R row above col n k j = pivF R row above col k j := fun k hk j _ => by simp [pivP, hk]
theorem swap_two (R : Mt) (row above : Nat) : (fun x => if x = row then R above else (fun x => if x = above then R row else R x) x) = swapF R row above := by
  funext x j
  simp only [swapF]
  by_cases e : x = above
  · by_cases e2 : x = row
    · simp [e, ← e2]
    · subst e; simp only [e2, if_true, if_false]
  · by_cases e2 : x = row
    · simp [e2]; intro h; exact absurd (e2.trans h) e
    · simp [e, e2]
theorem pivT_of (R : Mt) (row above col : Nat) : (fun x => if x = above then (fun j => gm (inv (R row col)) (R row j)) else swapF R row above x) = pivT R row above col := rfl
theorem swapF_above (R : Mt) (row above : Nat) : swapF R row above above = R row := by funext j; simp [swapF]
set_option maxHeartbeats 4000000 in
theorem makePivot_F (M n c cn row above col : Nat) (f : Nat → Option Addr × Nat) (R : Mt) (w : World) (hn : n ≤ 64) (hc : c ≤ 128) (hrow : row < n) (hab : above < n) (hcol : col < c) (hp : R row col ≠ 0) (hR : RowsW w M n c f R) :
    Calls Tryd.prog 56 #[.slice (some ⟨M, 0, none⟩) n cn, .int .i64 row, .int .i64 above, .int .i64 col] w fun e w' => e = .returned (.tuple #[]) ∧ (∃ f', RowsW w' M n c f' (pivF R row above col)) ∧ w.grownBy w' (some M) := by
  obtain ⟨b1, o1, m1, hf1, hm1, hbM1, hb1, c1, c2⟩ := hR.get hrow hcol
  obtain ⟨b2, o2, m2, hf2, hm2, hbM2, hb2, c3, c4⟩ := hR.get hab hcol
  have d1 : ∀ j, w.frozen? ⟨M, j, none⟩ = false := fun j => frozen_of_row _ _ _ _ _ hR.blk
  have e1 := d1 row
  have e2 := d1 above
  have HR : Hid _ := hR
  have HF1 : Hid _ := hf1
  have HF2 : Hid _ := hf2
  have hz0 := hR.put hab (a := some ⟨b1, o1, none⟩) (m := m1) (v := R row) (by have := hR.row row hrow; rwa [hf1] at this) hm1 (by simp)
  have c5 := cellAt hz0.blk row _ (slF_at hrow)
  have e5 : (w.setCell ⟨M, above, none⟩ (.slice (some ⟨b1, o1, none⟩) c m1)).frozen? ⟨M, row, none⟩ = false := frozen_of_row _ _ _ _ _ hz0.blk
  have hz1 := hz0.put hrow (a := some ⟨b2, o2, none⟩) (m := m2) (v := R above) (row8_other hR.blk (grownBy_setCell (World.grownBy.refl _ _) _) (by have := hR.row above hab; rwa [hf2] at this)) hm2 (by simp)
  rw [swap_two] at hz1
  have HZ1 : Hid _ := hz1
  clear hR hf1 hf2 d1 c2 c4 hz0 hz1
  go_enter Tryd.func56, Tryd.ntmps56
  go_wp2
  go_region
  have hg1 : w.grownBy (((w.setCell ⟨M, above, none⟩ (.slice (some ⟨b1, o1, none⟩) c m1)).setCell ⟨M, row, none⟩ (.slice (some ⟨b2, o2, none⟩) c m2)).drew) (some M) := grownBy_drew (grownBy_setCell (grownBy_setCell (World.grownBy.refl _ _) _) _)
  obtain ⟨f1, hz1⟩ : ∃ f1, RowsW (((w.setCell ⟨M, above, none⟩ (.slice (some ⟨b1, o1, none⟩) c m1)).setCell ⟨M, row, none⟩ (.slice (some ⟨b2, o2, none⟩) c m2)).drew) M n c f1 (swapF R row above) := ⟨_, HZ1.out.drew⟩
  clear HZ1 c1 c3 c5 e1 e2 e5 HF1 HF2 hm1 hm2 hbM1 hbM2 hb1 hb2
  generalize (((w.setCell ⟨M, above, none⟩ (.slice (some ⟨b1, o1, none⟩) c m1)).setCell ⟨M, row, none⟩ (.slice (some ⟨b2, o2, none⟩) c m2)).drew) = W1 at *
  obtain ⟨b3, o3, m3, hf3, hm3, hbM3, hb3, c1, c2⟩ := hz1.get hab hcol
  rw [swapF_above] at c2
  have HZ1 : Hid _ := hz1
  have HG1 : Hid _ := hg1
  have HF3 : Hid _ := hf3
  clear hz1 hg1 hf3
  go_wp2_with fail
  refine Calls.mono (inv_yes hp _) ?_
  rintro e w2 ⟨rfl, hw2⟩
  subst hw2
  have hsr : Row8T W1 (some ⟨b3, o3, none⟩) (rowF c (R row)) := by have := HZ1.out.row above hab; rw [HF3.out, swapF_above] at this; exact this
  go_wp2_with fail
  refine Calls.mono (scale_R _ _ c _ _ _ hc hsr.row8) ?_
  rintro e w2 ⟨q2, rfl, hb2, hr2, hq2⟩
  have hz2 := HZ1.out.below hb2
  have c3 := cellAt hz2.blk above _ (slF_at hab)
  have d3 : w2.frozen? ⟨M, above, none⟩ = false := frozen_of_row _ _ _ _ _ hz2.blk
  have hz3 := hz2.put hab hr2 (Nat.le_refl _) (by simp)
  rw [pivT_of] at hz3
  have hg3 : w.grownBy (w2.setCell ⟨M, above, none⟩ (.slice (some ⟨q2, 0, none⟩) c c)) (some M) := grownBy_setCell (grown_below HG1.out hb2) _
  have HZ3 : Hid _ := hz3
  have HG3 : Hid _ := hg3
  clear hz2 hz3 hg3 hr2 hb2 hsr
  go_wp2
  generalize (w2.setCell ⟨M, above, none⟩ (.slice (some ⟨q2, 0, none⟩) c c)) = W3 at *
  clear c1 c2 c3 d3 hb3
  go_loopw [48] (fun i wr => ∃ k : Nat, ∃ f', k ≤ n ∧ i = .int .i64 k ∧ w.grownBy wr (some M) ∧ RowsW wr M n c f' (pivP R row above col k)) (fun i _ => n - (intOf i).toNat)
  case atStart => exact ⟨0, _, by omega, rfl, HG3.out, by rw [pivP_zero]; exact HZ3.out⟩
  case round =>
    obtain ⟨k, f5, hk, rfl, hgb, hrw⟩ := hrel
    have HGB : Hid _ := hgb
    have hRW : Hid _ := hrw
    clear hgb
    by_cases hlt : k < n
    · obtain ⟨bo, oo, mo, hfo, hmo, hboM, hbo, c1, c2⟩ := hrw.get hlt hcol
      have hfk : Hid _ := hfo
      clear hfo hrw
      by_cases hka : k = above
      · subst hka
        go_wp2
        exact ⟨⟨k + 1, f5, by omega, by go_num, HGB.out, by rw [pivP_skip R (.inl rfl)]; exact hRW.out⟩, by simp [intOf]; omega⟩
      · rw [pivP_here R hka] at c2
        have hne : ((k : Int) != (above : Int)) = true := by simp; omega
        by_cases hzero : swapF R row above k col = 0
        · rw [hzero] at c2
          go_wp2
          exact ⟨⟨k + 1, f5, by omega, by go_num, HGB.out, by rw [pivP_skip R (.inr hzero)]; exact hRW.out⟩, by simp [intOf]; omega⟩
        · have hnz : ((swapF R row above k col).toNat : Int) ≠ 0 := by
            intro e; exact hzero (F.val_eq_zero.1 (by omega))
          have hro1 : Hid (Row8T wr.drew (some ⟨bo, oo, none⟩) (rowF c (swapF R row above k))) := by
            have := hRW.out.row k hlt; rw [hfk.out, pivP_here R hka] at this; exact this
          obtain ⟨ba, oa, ma, hfa, hma, hbaM, hba, c5, c6⟩ := hRW.out.get hab hcol
          have hro2 : Hid (Row8T wr.drew (some ⟨ba, oa, none⟩) (rowF c (fun j => gm (inv (R row col)) (R row j)))) := by
            have := hRW.out.row above hab; rw [hfa, pivP_above] at this; exact this
          have hc9 : Hid (∀ u, wr.grownBy u (some M) → u.cell? ⟨bo, oo + col, none⟩ = some (.int .u8 ((swapF R row above k col).toNat : Int))) := fun u hu => by
            rw [← c2]; simp only [World.cell?, hu.block bo hbo (by simpa using hboM)]
          clear hfa c6
          go_wp2
          refine wp_region_noPanic ?_
          refine wp_region_held_drew (S := fun u => wr.grownBy u (some M)) (by kernel_rfl) ?_ (fun hHeld => ?_)
          · exact grownBy_drew (World.grownBy.refl _ _)
          refine wpAnyH_take (i := 0) (oi := { dst := some 63, op := Op.move (Operand.tmp 0), type := 38, pos := "solve.go:137", after := #[], guard := none }) (v := ?_) rfl (by kernel_rfl) (by kernel_rfl) (by kernel_rfl) (fun _ _ _ h => h) (Or.inl ⟨by rfl, ?_⟩) hHeld ?_
          rotate_left
          · intro u hSw
            go_simp
            try with_reducible rfl
          try simp only [Act.put, List.setIfInBounds_toArray, List.set_cons_zero, List.set_cons_succ]
          refine wpAnyH_take (i := 1) (oi := { dst := some 64, op := Op.move (Operand.tmp 10), type := 3, pos := "solve.go:137", after := #[], guard := none }) (v := ?_) rfl (by kernel_rfl) (by kernel_rfl) (by kernel_rfl) (fun _ _ _ h => h) (Or.inl ⟨by rfl, ?_⟩) hHeld ?_
          rotate_left
          · intro u hSw
            go_simp
            try with_reducible rfl
          try simp only [Act.put, List.setIfInBounds_toArray, List.set_cons_zero, List.set_cons_succ]
          refine wpAnyH_take (i := 2) (oi := { dst := some 65, op := Op.move (Operand.tmp 11), type := 22, pos := "solve.go:137", after := #[], guard := none }) (v := ?_) rfl (by kernel_rfl) (by kernel_rfl) (by kernel_rfl) (fun _ _ _ h => h) (Or.inl ⟨by rfl, ?_⟩) hHeld ?_
          rotate_left
          · intro u hSw
            go_simp
            try with_reducible rfl
          try simp only [Act.put, List.setIfInBounds_toArray, List.set_cons_zero, List.set_cons_succ]
          refine wpAnyH_take (i := 3) (oi := { dst := some 66, op := Op.move (Operand.tmp 11), type := 22, pos := "solve.go:137", after := #[], guard := none }) (v := ?_) rfl (by kernel_rfl) (by kernel_rfl) (by kernel_rfl) (fun _ _ _ h => h) (Or.inl ⟨by rfl, ?_⟩) hHeld ?_
          rotate_left
          · intro u hSw
            go_simp
            try with_reducible rfl
          try simp only [Act.put, List.setIfInBounds_toArray, List.set_cons_zero, List.set_cons_succ]
          refine wpAnyH_take (i := 4) (oi := { dst := some 67, op := Op.move (Operand.tmp 3), type := 3, pos := "solve.go:137", after := #[], guard := none }) (v := ?_) rfl (by kernel_rfl) (by kernel_rfl) (by kernel_rfl) (fun _ _ _ h => h) (Or.inl ⟨by rfl, ?_⟩) hHeld ?_
          rotate_left
          · intro u hSw
            go_simp
            try with_reducible rfl
          try simp only [Act.put, List.setIfInBounds_toArray, List.set_cons_zero, List.set_cons_succ]
          refine wpAnyH_take (i := 5) (oi := { dst := some 68, op := Op.indexAddr 22 (Operand.tmp 66) (Operand.tmp 67), type := 0, pos := "solve.go:137", after := #[{ on := 3, ground := Ground.data }, { on := 4, ground := Ground.data }], guard := none }) (v := ?_) rfl (by kernel_rfl) (by kernel_rfl) (by kernel_rfl) (fun _ _ _ h => h) (Or.inl ⟨by rfl, ?_⟩) hHeld ?_
          rotate_left
          · intro u hSw
            go_simp
            try with_reducible rfl
          try simp only [Act.put, List.setIfInBounds_toArray, List.set_cons_zero, List.set_cons_succ]
          refine wpAnyH_take (i := 6) (oi := { dst := some 69, op := Op.load 5 (Operand.tmp 68), type := 5, pos := "solve.go:137", after := #[{ on := 5, ground := Ground.data }], guard := none }) (v := ?_) rfl (by kernel_rfl) (by kernel_rfl) (by kernel_rfl) (fun _ _ _ h => h) (Or.inl ⟨by rfl, ?_⟩) hHeld ?_
          rotate_left
          · intro u hSw
            have c9 := hc9.out u hSw
            go_simp
            try with_reducible rfl
          try simp only [Act.put, List.setIfInBounds_toArray, List.set_cons_zero, List.set_cons_succ]
          refine wpAnyH_take (i := 7) (oi := { dst := some 70, op := Op.move (Operand.tmp 0), type := 38, pos := "solve.go:137", after := #[], guard := none }) (v := ?_) rfl (by kernel_rfl) (by kernel_rfl) (by kernel_rfl) (fun _ _ _ h => h) (Or.inl ⟨by rfl, ?_⟩) hHeld ?_
          rotate_left
          · intro u hSw
            go_simp
            try with_reducible rfl
          try simp only [Act.put, List.setIfInBounds_toArray, List.set_cons_zero, List.set_cons_succ]
          refine wpAnyH_take (i := 8) (oi := { dst := some 71, op := Op.move (Operand.tmp 2), type := 3, pos := "solve.go:137", after := #[], guard := none }) (v := ?_) rfl (by kernel_rfl) (by kernel_rfl) (by kernel_rfl) (fun _ _ _ h => h) (Or.inl ⟨by rfl, ?_⟩) hHeld ?_
          rotate_left
          · intro u hSw
            go_simp
            try with_reducible rfl
          try simp only [Act.put, List.setIfInBounds_toArray, List.set_cons_zero, List.set_cons_succ]
          refine wpAnyH_take (i := 9) (oi := { dst := some 72, op := Op.indexAddr 38 (Operand.tmp 70) (Operand.tmp 71), type := 0, pos := "solve.go:137", after := #[{ on := 7, ground := Ground.data }, { on := 8, ground := Ground.data }], guard := none }) (v := ?_) rfl (by kernel_rfl) (by kernel_rfl) (by kernel_rfl) (fun _ _ _ h => h) (Or.inl ⟨by rfl, ?_⟩) hHeld ?_
          rotate_left
          · intro u hSw
            go_simp
            try with_reducible rfl
          try simp only [Act.put, List.setIfInBounds_toArray, List.set_cons_zero, List.set_cons_succ]
          refine wpAnyH_ready (rs := [10]) (by kernel_rfl) (by simp) ?_
          refine AllReadyH.cons (o := { dst := some 73, op := Op.load 22 (Operand.tmp 72), type := 22, pos := "solve.go:137", after := #[{ on := 9, ground := Ground.data }], guard := none }) rfl (fun K hK => ?_) AllReadyH.nil
          go_simp
          refine hK.out _ _ ?_ (fun hHeld => ?_)
          · exact grownBy_drew (World.grownBy.refl _ _)
          clear hK K
          try simp only [Act.put, List.setIfInBounds_toArray, List.set_cons_zero, List.set_cons_succ]
          refine wpAnyH_ready (rs := [11]) (by kernel_rfl) (by simp) ?_
          refine AllReadyH.cons (o := { dst := some 74, op := Op.call { callee := Callee.value (Operand.func 53), args := #[Operand.tmp 65, Operand.tmp 69, Operand.tmp 73], argTypes := #[22, 5, 22] }, type := 22, pos := "solve.go:137", after := #[{ on := 2, ground := Ground.data }, { on := 6, ground := Ground.data }, { on := 10, ground := Ground.data }], guard := none }) rfl (fun K hK => ?_) AllReadyH.nil
          go_simp
          refine Calls.mono (addScaled_R _ _ _ c _ _ _ _ _ hc hro1.out.row8 hro2.out.row8) ?_
          rintro e w6 ⟨g6, rfl, hb6, hr6, hg6⟩
          have hS6 : wr.grownBy w6 (some M) := grown_below (grownBy_drew (World.grownBy.refl _ _)) hb6
          go_wp2_with fail
          refine hK.out _ _ ?_ (fun hHeld => ?_)
          · exact hS6
          clear hK K
          try simp only [Act.put, List.setIfInBounds_toArray, List.set_cons_zero, List.set_cons_succ]
          refine wpAnyH_take (i := 12) (oi := { dst := some 75, op := Op.indexAddr 38 (Operand.tmp 63) (Operand.tmp 64), type := 0, pos := "solve.go:137", after := #[{ on := 0, ground := Ground.data }, { on := 1, ground := Ground.data }, { on := 0, ground := Ground.phase }, { on := 1, ground := Ground.phase }, { on := 2, ground := Ground.phase }, { on := 3, ground := Ground.phase }, { on := 4, ground := Ground.phase }, { on := 5, ground := Ground.phase }, { on := 6, ground := Ground.phase }, { on := 7, ground := Ground.phase }, { on := 8, ground := Ground.phase }, { on := 9, ground := Ground.phase }, { on := 10, ground := Ground.phase }, { on := 11, ground := Ground.phase }], guard := none }) (v := ?_) rfl (by kernel_rfl) (by kernel_rfl) (by kernel_rfl) (fun _ _ _ h => h) (Or.inl ⟨by rfl, ?_⟩) hHeld ?_
          rotate_left
          · intro u hSw
            go_simp
            try with_reducible rfl
          try simp only [Act.put, List.setIfInBounds_toArray, List.set_cons_zero, List.set_cons_succ]
          have hRW6 : RowsW w6 M n c f5 _ := hRW.out.drew.below hb6
          have d8 : w6.frozen? ⟨M, k, none⟩ = false := frozen_of_row _ _ _ _ _ hRW6.blk
          have d9 : w6.cell? ⟨M, k, none⟩ = some (.slice (some ⟨bo, oo, none⟩) c mo) := by
            have := cellAt hRW6.blk k _ (slF_at hlt); rw [hfk.out] at this; exact this
          refine wpAnyH_ready (rs := [13]) (by kernel_rfl) (by simp) ?_
          refine AllReadyH.cons (o := { dst := none, op := Op.store 22 (Operand.tmp 75) (Operand.tmp 74), type := 0, pos := "solve.go:137", after := #[{ on := 12, ground := Ground.data }, { on := 11, ground := Ground.data }, { on := 11, ground := Ground.chain }, { on := 0, ground := Ground.phase }, { on := 1, ground := Ground.phase }, { on := 2, ground := Ground.phase }, { on := 3, ground := Ground.phase }, { on := 4, ground := Ground.phase }, { on := 5, ground := Ground.phase }, { on := 6, ground := Ground.phase }, { on := 7, ground := Ground.phase }, { on := 8, ground := Ground.phase }, { on := 9, ground := Ground.phase }, { on := 10, ground := Ground.phase }, { on := 11, ground := Ground.phase }], guard := none }) rfl (fun K hK => ?_) AllReadyH.nil
          go_simp
          refine hK.out _ _ ?_ (fun hHeld => ?_)
          · exact grownBy_setCell hS6 _
          clear hK K
          try simp only [Act.put, List.setIfInBounds_toArray, List.set_cons_zero, List.set_cons_succ]
          refine wpAnyH_done (by kernel_rfl) ?_ _
          refine NoPanic.normal ?_
          have hput := hRW6.put hlt hr6 (Nat.le_refl _) (by simp)
          rw [pivP_step R hka] at hput
          have HPUT : Hid _ := hput
          have HGR : Hid (w.grownBy (w6.setCell ⟨M, k, none⟩ (.slice (some ⟨g6, 0, none⟩) c c)) (some M)) := grownBy_setCell (grown_below (grownBy_drew HGB.out) hb6) _
          clear hput hRW6 hr6 hb6 hS6 d8 d9 hc9
          go_wp2
          exact ⟨⟨k + 1, _, by omega, by go_num, HGR.out, HPUT.out⟩, by simp [intOf]; omega⟩
    · obtain rfl : k = n := by omega
      go_wp2
      exact ⟨rfl, .tuple #[], by simp [results, Tryd.results56, go_sem], rfl, ⟨f5, hRW.out.congr fun x hx j hj => by simp [pivP, hx]⟩, HGB.out⟩
end Go.Proofs.YtkoakingmnjdoabDoor
