/- What Product of package mat answers where something isn't in form or doesn't fit, and Stack of nothing; nothing that was there turns. -/
import Derived.Test.YtkmlanolaogaiaaDoorMatStk
import Derived.Test.YtkmlanolaogaiaaDoorMatOf
import Derived.Test.YtkmlanolaogaiaaDoorHolds
import Derived.RegionTactic
namespace Go.Proofs.YtkmlanolaogaiaaDoor
open Go.RowKit Gf
set_option linter.unusedVariables false
set_option maxRecDepth 20000
/-- is it in form? -/
def Fm (r c : Int) (l : Nat) : Prop := 0 ≤ r ∧ r ≤ 64 ∧ 0 ≤ c ∧ c ≤ 64 ∧ (l : Int) = r * c
theorem Fm.nat {r c : Int} {l : Nat} (h : Fm r c l) : ∃ p q : Nat, r = p ∧ c = q ∧ p ≤ 64 ∧ q ≤ 64 ∧ l = p * q := by
  obtain ⟨h1, h2, h3, h4, h5⟩ := h
  obtain ⟨p, rfl⟩ := Int.eq_ofNat_of_zero_le h1
  obtain ⟨q, rfl⟩ := Int.eq_ofNat_of_zero_le h3
  exact ⟨p, q, rfl, rfl, by omega, by omega, by rw [← Int.natCast_mul] at h5; omega⟩
set_option maxHeartbeats 2000000 in
theorem product_bad (r c q d : Int) (la ca lb cb : Nat) (a b : Option Addr) (w : World) (s : Addr) (hs : w.cell? ⟨0, 0, none⟩ = some (errAt s)) (h : ¬ (Fm r c la ∧ Fm q d lb ∧ c = q)) :
    Calls Tryd.prog 8 #[.agg #[.int .i64 r, .int .i64 c, .slice a la ca], .agg #[.int .i64 q, .int .i64 d, .slice b lb cb]] w fun e w' => e = .returned (.tuple #[.agg #[.int .i64 0, .int .i64 0, .slice none 0 0], errAt s]) ∧ Below w.heap.size w w' := by
  have hA := holds_new (holds_new (holds_new (holds_nil w) #[.int .i64 r, .int .i64 c, .slice a la ca] 24) #[.int .i64 q, .int .i64 d, .slice b lb cb] 24) #[.int .i64 0, .int .i64 0, .slice none 0 0] 24
  simp only [World.size_alloc] at hA
  have HA : Hid _ := hA
  have HB : Hid _ := (((Below.refl w.heap.size w).alloc (Nat.le_refl _) (.cells #[.int .i64 r, .int .i64 c, .slice a la ca] 24)).alloc (by simp) (.cells #[.int .i64 q, .int .i64 d, .slice b lb cb] 24)).alloc (by simp; omega) (.cells #[.int .i64 0, .int .i64 0, .slice none 0 0] 24)
  have HS : Hid _ := hs
  have H : Hid _ := h
  clear hs h hA
  have fin : ∀ (wz : World), Below w.heap.size w wz → Below w.heap.size w (((wz.setCell ⟨w.heap.size + 1 + 1, 0, none⟩ (.int .i64 0)).setCell ⟨w.heap.size + 1 + 1, 1, none⟩ (.int .i64 0)).setCell ⟨w.heap.size + 1 + 1, 2, none⟩ (.slice none 0 0)) := fun wz h => ((h.setCell (by simp; omega) _).setCell (by simp; omega) _).setCell (by simp; omega) _
  have FIN : Hid _ := fin
  clear fin
  unfold errAt at *
  go_enter Tryd.func8, Tryd.ntmps8
  by_cases hf : Fm r c la
  · obtain ⟨r, c, rfl, rfl, hr, hc, hl⟩ := hf.nat
    have HF : Hid _ := hf
    have HL : Hid _ := hl
    clear hf hl
    go_wp2_with fail
    refine Calls.mono (check_ok r c a la ca _ hr hc HL.out) ?_
    rintro e w1 ⟨rfl, hb⟩
    have HA1 : Hid _ := holds_later HA.out hb
    have HB1 : Hid (Below w.heap.size w w1) := HB.out.trans (hb.mono HB.out.size)
    clear hb HA HB
    have c1 := cellAt (holds_at HA1.out 1 rfl) 0 _ rfl
    have c2 := cellAt (holds_at HA1.out 1 rfl) 1 _ rfl
    have c3 := cellAt (holds_at HA1.out 1 rfl) 2 _ rfl
    by_cases hg : Fm q d lb
    · obtain ⟨q, d, rfl, rfl, hq, hd, hl⟩ := hg.nat
      have hne : ((c : Int) != (q : Int)) = true := by
        have : ¬ ((c : Int) = q) := fun e => H.out ⟨HF.out, hg, e⟩
        simpa [bne_iff_ne] using this
      have HL2 : Hid _ := hl
      clear hg hl
      go_wp2_with fail
      refine Calls.mono (check_ok q d b lb cb _ hq hd HL2.out) ?_
      rintro e w2 ⟨rfl, hb⟩
      have HA2 : Hid _ := holds_later HA1.out hb
      have HB2 : Hid (Below w.heap.size w w2) := HB1.out.trans (hb.mono HB1.out.size)
      clear hb HA1 HB1 c1 c2 c3
      have b1 := cellAt (holds_at HA2.out 2 rfl) 1 _ rfl
      have b2 := cellAt (holds_at HA2.out 1 rfl) 0 _ rfl
      have c4 := cellAt (holds_at HA2.out 0 rfl) 0 _ rfl
      have c5 := cellAt (holds_at HA2.out 0 rfl) 1 _ rfl
      have c6 := cellAt (holds_at HA2.out 0 rfl) 2 _ rfl
      have d4 : w2.frozen? ⟨w.heap.size + 1 + 1, 0, none⟩ = false := frozen_of_row _ _ _ _ _ (holds_at HA2.out 0 rfl)
      have d5 : w2.frozen? ⟨w.heap.size + 1 + 1, 1, none⟩ = false := frozen_of_row _ _ _ _ _ (holds_at HA2.out 0 rfl)
      have d6 : w2.frozen? ⟨w.heap.size + 1 + 1, 2, none⟩ = false := frozen_of_row _ _ _ _ _ (holds_at HA2.out 0 rfl)
      have c9 := cell_later HB2.out HS.out
      go_wp2
      go_region
      go_wp2
      refine bodyPost_ret (v := .tuple #[.agg #[.int .i64 0, .int .i64 0, .slice none 0 0], .iface 95 (.pointer (some s))]) (by simp [results, Tryd.results8, go_sem, c4, c5, c6]) rfl ⟨rfl, FIN.out _ HB2.out.drew⟩
    · have HG : Hid _ := hg
      have c9 := cell_later HB1.out HS.out
      clear hg
      go_wp2_with fail
      refine Calls.mono (check_bad q d b lb cb _ _ c9 HG.out) ?_
      rintro e w2 ⟨rfl, hb⟩
      have HA2 : Hid _ := holds_later HA1.out hb
      have HB2 : Hid (Below w.heap.size w w2) := HB1.out.trans (hb.mono HB1.out.size)
      clear hb HA1 HB1 c1 c2 c3 c9
      have c4 := cellAt (holds_at HA2.out 0 rfl) 0 _ rfl
      have c5 := cellAt (holds_at HA2.out 0 rfl) 1 _ rfl
      have c6 := cellAt (holds_at HA2.out 0 rfl) 2 _ rfl
      have d4 : w2.frozen? ⟨w.heap.size + 1 + 1, 0, none⟩ = false := frozen_of_row _ _ _ _ _ (holds_at HA2.out 0 rfl)
      have d5 : w2.frozen? ⟨w.heap.size + 1 + 1, 1, none⟩ = false := frozen_of_row _ _ _ _ _ (holds_at HA2.out 0 rfl)
      have d6 : w2.frozen? ⟨w.heap.size + 1 + 1, 2, none⟩ = false := frozen_of_row _ _ _ _ _ (holds_at HA2.out 0 rfl)
      have c9 := cell_later HB2.out HS.out
      go_wp2
      go_region
      go_wp2
      refine bodyPost_ret (v := .tuple #[.agg #[.int .i64 0, .int .i64 0, .slice none 0 0], .iface 95 (.pointer (some s))]) (by simp [results, Tryd.results8, go_sem, c4, c5, c6]) rfl ⟨rfl, FIN.out _ HB2.out.drew⟩
  · have HF : Hid _ := hf
    have c9 := cell_later HB.out HS.out
    clear hf
    go_wp2_with fail
    refine Calls.mono (check_bad r c a la ca _ _ c9 HF.out) ?_
    rintro e w2 ⟨rfl, hb⟩
    have HA2 : Hid _ := holds_later HA.out hb
    have HB2 : Hid (Below w.heap.size w w2) := HB.out.trans (hb.mono HB.out.size)
    clear hb HA HB c9
    have c4 := cellAt (holds_at HA2.out 0 rfl) 0 _ rfl
    have c5 := cellAt (holds_at HA2.out 0 rfl) 1 _ rfl
    have c6 := cellAt (holds_at HA2.out 0 rfl) 2 _ rfl
    have d4 : w2.frozen? ⟨w.heap.size + 1 + 1, 0, none⟩ = false := frozen_of_row _ _ _ _ _ (holds_at HA2.out 0 rfl)
    have d5 : w2.frozen? ⟨w.heap.size + 1 + 1, 1, none⟩ = false := frozen_of_row _ _ _ _ _ (holds_at HA2.out 0 rfl)
    have d6 : w2.frozen? ⟨w.heap.size + 1 + 1, 2, none⟩ = false := frozen_of_row _ _ _ _ _ (holds_at HA2.out 0 rfl)
    have c9 := cell_later HB2.out HS.out
    go_wp2
    go_region
    go_wp2
    refine bodyPost_ret (v := .tuple #[.agg #[.int .i64 0, .int .i64 0, .slice none 0 0], .iface 95 (.pointer (some s))]) (by simp [results, Tryd.results8, go_sem, c4, c5, c6]) rfl ⟨rfl, FIN.out _ HB2.out.drew⟩
set_option maxHeartbeats 2000000 in
theorem stack_nil (c : Int) (w : World) (s : Addr) (hs : w.cell? ⟨0, 0, none⟩ = some (errAt s)) :
    Calls Tryd.prog 10 #[.int .i64 c, .slice none 0 0] w fun e w' =>
      ((0 ≤ c ∧ c ≤ 64) ∧ ∃ g, e = .returned (.tuple #[.agg #[.int .i64 0, .int .i64 c, .slice (some ⟨g, 0, none⟩) 0 0], .nilIface]) ∧ w.heap.size ≤ g ∧
        w'.heap[g]? = some (.cells (vfs []) 5 (0, 0)) ∧ Below w.heap.size w w') ∨
      ¬ (0 ≤ c ∧ c ≤ 64) ∧ e = .returned (.tuple #[.agg #[.int .i64 0, .int .i64 0, .slice none 0 0], errAt s]) ∧ Below w.heap.size w w' := by
  have HA : Hid _ := holds_new (holds_nil w) #[.int .i64 0, .int .i64 0, .slice none 0 0] 24
  have HB : Hid _ := (Below.refl w.heap.size w).alloc (Nat.le_refl _) (.cells #[.int .i64 0, .int .i64 0, .slice none 0 0] 24)
  have HS : Hid _ := hs
  clear hs
  go_enter Tryd.func10, Tryd.ntmps10
  go_wp2
  refine wp_loop_rounds 1 ?_
  rw [rounds_succ]
  by_cases hc : 0 ≤ c ∧ c ≤ 64
  · obtain ⟨k, rfl⟩ := Int.eq_ofNat_of_zero_le hc.1
    have hk : k ≤ 64 := by omega
    have HC : Hid _ := hc
    clear hc
    go_wp2_with fail
    refine Calls.mono (of_F k 0 0 none [] _ hk rfl (by decide) (fun x h => by cases h) (.inl rfl)) ?_
    rintro e w2 ⟨g, n, rfl, hn, hg, hh, hb⟩
    obtain rfl : n = 0 := by rw [hn]; simp
    have HA2 : Hid _ := holds_cons (holds_later HA.out hb) hh
    have HB2 : Hid (Below w.heap.size w w2) := HB.out.trans (hb.mono HB.out.size)
    have hgw : w.heap.size < g := by simp at hg; omega
    have c4 := cellAt (holds_at HA2.out 1 rfl) 0 _ rfl
    have c5 := cellAt (holds_at HA2.out 1 rfl) 1 _ rfl
    have c6 := cellAt (holds_at HA2.out 1 rfl) 2 _ rfl
    have d4 : w2.frozen? ⟨w.heap.size, 0, none⟩ = false := frozen_of_row _ _ _ _ _ (holds_at HA2.out 1 rfl)
    have d5 : w2.frozen? ⟨w.heap.size, 1, none⟩ = false := frozen_of_row _ _ _ _ _ (holds_at HA2.out 1 rfl)
    have d6 : w2.frozen? ⟨w.heap.size, 2, none⟩ = false := frozen_of_row _ _ _ _ _ (holds_at HA2.out 1 rfl)
    clear hb hh hn hg HA HB
    go_wp2
    refine bodyPost_ret (v := .tuple #[.agg #[.int .i64 0, .int .i64 k, .slice (some ⟨g, 0, none⟩) 0 0], .nilIface]) (by simp [results, Tryd.results10, go_sem, c4, c5, c6]) rfl (.inl ⟨HC.out, g, rfl, by omega, ?_, ?_⟩)
    · rw [heap_setCell_other _ _ _ _ (by show g ≠ w.heap.size; omega), heap_setCell_other _ _ _ _ (by show g ≠ w.heap.size; omega), heap_setCell_other _ _ _ _ (by show g ≠ w.heap.size; omega)]
      exact holds_at HA2.out 0 rfl
    · exact ((HB2.out.setCell (Nat.le_refl _) _).setCell (Nat.le_refl _) _).setCell (Nat.le_refl _) _
  · have HC : Hid _ := hc
    clear hc
    go_wp2_with fail
    refine Calls.mono (of_no c 0 0 none _ s (cell_later HB.out HS.out) (fun h => HC.out ⟨h.1, h.2.1⟩)) ?_
    unfold errAt
    rintro e w2 ⟨rfl, hb⟩
    have HA2 : Hid _ := holds_later HA.out hb
    have HB2 : Hid (Below w.heap.size w w2) := HB.out.trans (hb.mono HB.out.size)
    have c4 := cellAt (holds_at HA2.out 0 rfl) 0 _ rfl
    have c5 := cellAt (holds_at HA2.out 0 rfl) 1 _ rfl
    have c6 := cellAt (holds_at HA2.out 0 rfl) 2 _ rfl
    have d4 : w2.frozen? ⟨w.heap.size, 0, none⟩ = false := frozen_of_row _ _ _ _ _ (holds_at HA2.out 0 rfl)
    have d5 : w2.frozen? ⟨w.heap.size, 1, none⟩ = false := frozen_of_row _ _ _ _ _ (holds_at HA2.out 0 rfl)
    have d6 : w2.frozen? ⟨w.heap.size, 2, none⟩ = false := frozen_of_row _ _ _ _ _ (holds_at HA2.out 0 rfl)
    clear hb HA HB
    go_wp2
    refine bodyPost_ret (v := .tuple #[.agg #[.int .i64 0, .int .i64 0, .slice none 0 0], .iface 95 (.pointer (some s))]) (by simp [results, Tryd.results10, go_sem, c4, c5, c6]) rfl (.inr ⟨HC.out, rfl, ?_⟩)
    exact ((HB2.out.setCell (Nat.le_refl _) _).setCell (Nat.le_refl _) _).setCell (Nat.le_refl _) _
end Go.Proofs.YtkmlanolaogaiaaDoor
