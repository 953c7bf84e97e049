/- Elimination in the program, eliminate: the labelled loops, of all lists of rows. -/
import Derived.Test.YtkoakingmnjdoabDoorSolveP
import Derived.WalkMore
namespace Go.Proofs.YtkoakingmnjdoabDoor
open Go.RowKit Gf
set_option linter.unusedVariables false
set_option maxRecDepth 20000
def natV (p : List Nat) : List Value := p.map fun x => Value.int .i64 ((x : Nat) : Int)
theorem natV_snoc (p : List Nat) (k : Nat) : natV p ++ [.int .i64 (k : Int)] = natV (p ++ [k]) := by simp [natV]
set_option maxHeartbeats 8000000 in
theorem eliminate_F (M n c cn cols : Nat) (f : Nat → Option Addr × Nat) (R : Mt) (w : World) (hn : n ≤ 64) (hc : c ≤ 128) (hcols : cols ≤ c) (hR : RowsW w M n c f R) :
    Calls Tryd.prog 52 #[.slice (some ⟨M, 0, none⟩) n cn, .int .i64 cols] w fun e w' => ∃ a cap p f' R', e = .returned (.slice a p.length cap) ∧ w'.ownsRow w.heap.size 3 1 (.slice a p.length cap) p.length (natV p) ∧
      RowsW w' M n c f' R' ∧ Red R' p n cols ∧ RowsIn R' n R n c ∧ RowsIn R n R' n c ∧ w.grownBy w' (some M) := by
  have HR : Hid _ := hR
  clear hR
  go_enter Tryd.func52, Tryd.ntmps52
  go_wp2
  go_step3
  go_wp2
  go_step3
  go_wp2
  go_loopw [5, 9] (fun v i wr => ∃ (k : Nat) (p : List Nat) (f' : Nat → Option Addr × Nat) (R' : Mt), k ≤ cols ∧ i = .int .i64 k ∧ wr.ownsRow w.heap.size 3 1 v p.length (natV p) ∧
    RowsW wr M n c f' R' ∧ Red R' p n k ∧ RowsIn R' n R n c ∧ RowsIn R n R' n c ∧ w.grownBy wr (some M)) (fun _ i _ => cols - (intOf i).toNat)
  case atStart => exact ⟨0, [], f, R, by omega, rfl, ⟨rfl, .inl ⟨rfl, rfl⟩⟩, HR.out, Red.start _ _, RowsIn.refl _ _ _, RowsIn.refl _ _ _, World.grownBy.refl _ _⟩
  case round =>
    obtain ⟨k, p, f5, R5, hk, rfl, hown, hrw, hred, hin, hback, hgb⟩ := hrel
    obtain ⟨av, cv, rfl⟩ := own_shape hown
    have hpl := hred.len
    have HOWN : Hid _ := hown
    have HRW : Hid _ := hrw
    have HRED : Hid _ := hred
    have HIN : Hid _ := hin
    have HBACK : Hid _ := hback
    have HGB : Hid _ := hgb
    clear hown hrw hred hin hback hgb
    generalize wr = W5 at *
    by_cases hlt : k < cols
    · go_wp2
      go_loopw [5, 7] (fun v i wq => ∃ r0 : Nat, p.length ≤ r0 ∧ r0 ≤ n ∧ v = .slice av p.length cv ∧ i = .int .i64 r0 ∧ wq = W5 ∧ ∀ i, p.length ≤ i → i < r0 → R5 i k = 0) (fun _ i _ => n - (intOf i).toNat)
      case atStart => exact ⟨p.length, by omega, hpl, rfl, rfl, rfl, fun i h1 h2 => by omega⟩
      case round =>
        obtain ⟨r0, h1, h2, rfl, rfl, rfl, hz⟩ := hrel
        have HZ : Hid _ := hz
        clear hz
        by_cases hr : r0 < n
        · obtain ⟨b, off, m, hf, hm, hbM, hb, c1, c2⟩ := HRW.out.get hr (show k < c by omega)
          by_cases hzero : R5 r0 k = 0
          · rw [hzero] at c2
            clear hf
            go_wp2
            exact ⟨⟨r0 + 1, by omega, by omega, by first | rfl | trivial, by go_num, by first | rfl | trivial, fun i h3 h4 => by
              by_cases e : i = r0
              · rw [e]; exact hzero
              · exact HZ.out i h3 (by omega)⟩, by simp [intOf]; omega⟩
          · have hnz : ((R5 r0 k).toNat : Int) ≠ 0 := by
              intro e; exact hzero (F.val_eq_zero.1 (by omega))
            clear hf
            go_wp2_with fail
            refine Calls.mono (makePivot_F M n c cn r0 p.length k f5 R5 _ hn hc hr (by omega) (by omega) hzero HRW.out) ?_
            rintro e w2 ⟨rfl, ⟨f6, hrw2⟩, hg2⟩
            have hsz := HGB.out.size
            have hsz2 := hg2.size
            have ho2 := own_rows HOWN.out HRW.out.blk (by decide) hg2
            have ho := ho2.alloc (.cells #[.int .i64 k] 3)
            obtain ⟨g2, cap2, w6, hrun, ho3, hgr, hor, hlt2⟩ := appendI (b := w2.heap.size) (c := 1) (x := (k : Int)) 23 ho (cellAt (heap_alloc_last w2 (.cells #[.int .i64 k] 3)) 0 _ rfl) (by omega) (by simp; omega)
            rw [natV_snoc] at ho3
            have hrw3 := (hrw2.below ((Below.refl _ _).alloc (Nat.le_refl _) (.cells #[.int .i64 k] 3))).own ho (by decide) (by decide) hgr
            have hgA : w.grownBy (w2.alloc (.cells #[.int .i64 k] 3)) (some M) := grown_below (grown_trans HGB.out hg2 (fun j _ h => h)) ((Below.refl _ _).alloc (Nat.le_refl _) _)
            have hgB := grown_own hgA ho hgr
            have hredN := HRED.out.take h1 hr hzero
            have hinN := (pivF_in R5 k c hr (show p.length < n by omega)).trans HIN.out
            have hbackN := RowsIn.trans HBACK.out (pivF_back R5 k c hr (show p.length < n by omega) hzero)
            have hlen : (p ++ [k]).length = p.length + 1 := by simp
            rw [← hlen] at ho3
            have HRun : Hid _ := hrun
            have HO3 : Hid _ := ho3
            have HRW3 : Hid _ := hrw3
            have HGB3 : Hid _ := hgB
            have HRED3 : Hid _ := hredN
            have HIN3 : Hid _ := hinN
            have HBACK3 : Hid _ := hbackN
            have HLEN : Hid _ := hlen
            clear hrun ho3 hrw3 hgB hredN hinN hbackN hgA ho2 ho hrw2 hg2 hgr hor c1 c2 hlen hsz hsz2 hlt2 hb
            by_cases hfull : p.length + 1 = n
            · go_wp2_with (at_builtin; refine wpList_append_run rfl _ _ 23 rfl _ _ _ _ rfl rfl HRun.out ?_)
              rw [Exit.noGoto_ret]
              go_ret
              exact ⟨some ⟨g2, 0, none⟩, cap2, p ++ [k], f6, _, by rw [HLEN.out, hfull]; rfl, HO3.out, HRW3.out, HRED3.out.full (by rw [HLEN.out, hfull]) (by omega), HIN3.out, HBACK3.out, HGB3.out⟩
            · go_wp2_with (at_builtin; refine wpList_append_run rfl _ _ 23 rfl _ _ _ _ rfl rfl HRun.out ?_)
              exact ⟨⟨k + 1, p ++ [k], f6, _, by omega, by go_num, by have h := HO3.out; rw [HLEN.out] at h ⊢; exact h, HRW3.out, HRED3.out, HIN3.out, HBACK3.out, HGB3.out⟩, by simp [intOf]; omega⟩
        · obtain rfl : r0 = n := by omega
          go_wp2
          exact ⟨⟨k + 1, p, f5, R5, by omega, by go_num, HOWN.out, HRW.out, HRED.out.skip HZ.out, HIN.out, HBACK.out, HGB.out⟩, by simp [intOf]; omega⟩
    · obtain rfl : k = cols := by omega
      go_wp2
      rw [Exit.noGoto_ret]
      go_ret
      exact ⟨av, cv, p, f5, R5, rfl, HOWN.out, HRW.out, HRED.out, HIN.out, HBACK.out, HGB.out⟩
end Go.Proofs.YtkoakingmnjdoabDoor
