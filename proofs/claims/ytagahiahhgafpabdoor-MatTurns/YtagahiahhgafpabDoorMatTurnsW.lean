/- The walk of the statement MatTurns: it returns true of all matrices and places. -/
import Derived.Test.YtagahiahhgafpabDoorMatT
import Derived.Test.YtagahiahhgafpabDoorMatAt
import Derived.Test.YtagahiahhgafpabDoorMatAl
import Derived.Test.YtagahiahhgafpabDoorNum
namespace Go.Proofs.YtagahiahhgafpabDoor
open Go.RowKit Gf
set_option linter.unusedVariables false
set_option maxHeartbeats 2000000 in
theorem turns_bad (r c n0 n1 : Int) (a : Option Addr) (l cap : Nat) (w : World) (s : Addr) (hs : w.cell? ⟨0, 0, none⟩ = some (errAt s)) (h : ¬ (0 ≤ r ∧ r ≤ 64 ∧ 0 ≤ c ∧ c ≤ 64 ∧ (l : Int) = r * c)) :
    Calls Tryd.prog 3 #[.agg #[.int .i64 r, .int .i64 c, .slice a l cap], .agg #[.int .i64 n0, .int .i64 n1]] w fun e w' => e = .returned (.bool true) ∧ Below w.heap.size w w' := by
  have hlt := World.block_lt_of_cell? w _ hs
  simp at hlt
  have H : Hid _ := h
  have HS : Hid _ := hs
  clear hs h
  go_enter Tryd.func3, Tryd.ntmps3
  go_wp2_with fail
  refine Calls.mono (alive_ok _) ?_
  rintro e w1 ⟨rfl, hb1⟩
  have hW1 : Below w.heap.size w w1 := (((Below.refl w.heap.size w).alloc (Nat.le_refl _) _).alloc (by simp) _).trans (hb1.mono (by simp; omega))
  have k1 := heap_later (heap_alloc2_old w (.cells #[.int .i64 r, .int .i64 c, .slice a l cap] 24) (.cells #[.int .i64 n0, .int .i64 n1] 25)) hb1
  have K1 : Hid _ := k1
  have c1 := cellAt k1 0 _ rfl
  have c2 := cellAt k1 1 _ rfl
  have c3 := cellAt k1 2 _ rfl
  have HW1 : Hid _ := hW1
  clear hb1 k1 hW1
  go_wp2_with fail
  refine Calls.mono (transpose_bad r c a l cap _ s ((HW1.out.cell (p := ⟨0, 0, none⟩) hlt).trans HS.out) H.out) ?_
  rintro e w2 ⟨rfl, hb2⟩
  have hW2 : Below w.heap.size w w2 := HW1.out.trans (hb2.mono HW1.out.size)
  have HW2 : Hid _ := hW2
  have k2 := heap_later K1.out hb2
  have c4 := cellAt k2 0 _ rfl
  have c5 := cellAt k2 1 _ rfl
  have c6 := cellAt k2 2 _ rfl
  have z2 : w.heap.size < w2.heap.size := ltHeap k2
  clear hb2 k2 hW2 c1 c2 c3
  go_wp2_with fail
  refine Calls.mono (inForm_no r c a l cap _ H.out) ?_
  rintro e w3 ⟨rfl, hb3⟩
  have hW3 : Below w.heap.size w w3 := (HW2.out.alloc HW2.out.size _).trans (hb3.mono (by have := HW2.out.size; simp; omega))
  have c7 := (hW3.cell (p := ⟨0, 0, none⟩) hlt).trans HS.out
  have HW3 : Hid _ := hW3
  have q := eq_same w3 s
  clear hb3 hW3 c4 c5 c6
  unfold errAt at *
  go_wp2
  go_ret
  exact ⟨rfl, HW3.out⟩
set_option maxHeartbeats 4000000 in
theorem turns_ok (r c l cap : Nat) (n0 n1 : Int) (a : Option Addr) (xs : List F) (w : World) (hr : r ≤ 64) (hc : c ≤ 64) (hl : l = r * c) (hx : xs.length = r * c) (hcap : l ≤ cap) (hX : Row8 w a xs) (es : List Addr) (hes : ErrsAt w gsNum es) :
    Calls Tryd.prog 3 #[.agg #[.int .i64 r, .int .i64 c, .slice a l cap], .agg #[.int .i64 n0, .int .i64 n1]] w fun e w' => e = .returned (.bool true) ∧ Below w.heap.size w w' := by
  have HL : Hid _ := hl
  have HX : Hid _ := hx
  have HR : Hid (Row8 w a xs) := hX
  have HE : Hid _ := hes
  clear hl hx hX hes
  go_enter Tryd.func3, Tryd.ntmps3
  go_wp2_with fail
  refine Calls.mono (alive_ok _) ?_
  rintro e w1 ⟨rfl, hb1⟩
  have hW1 : Below w.heap.size w w1 := (((Below.refl w.heap.size w).alloc (Nat.le_refl _) _).alloc (by simp) _).trans (hb1.mono (by simp; omega))
  have k1 := heap_later (heap_alloc2_old w (.cells #[.int .i64 r, .int .i64 c, .slice a l cap] 24) (.cells #[.int .i64 n0, .int .i64 n1] 25)) hb1
  have k1' := heap_later (heap_alloc2_new w (.cells #[.int .i64 r, .int .i64 c, .slice a l cap] 24) (.cells #[.int .i64 n0, .int .i64 n1] 25)) hb1
  have K1 : Hid _ := k1
  have N1 : Hid _ := k1'
  have c1 := cellAt k1 0 _ rfl
  have c2 := cellAt k1 1 _ rfl
  have c3 := cellAt k1 2 _ rfl
  have HW1 : Hid _ := hW1
  clear hb1 k1 k1' hW1
  go_wp2_with fail
  refine Calls.mono (transpose_F r c l cap a xs _ hr hc HL.out HX.out hcap (row8_below HR.out HW1.out)) ?_
  rintro e w2 ⟨gt, nt, rfl, hnt, hgt, hht, hb2⟩
  have HNT : Hid _ := hnt
  have HT2 : Hid _ := hht
  have hW2 : Below w.heap.size w w2 := HW1.out.trans (hb2.mono HW1.out.size)
  have HW2 : Hid _ := hW2
  have k2 := heap_later K1.out hb2
  have K2 : Hid _ := k2
  have N2 : Hid _ := heap_later N1.out hb2
  have c4 := cellAt k2 0 _ rfl
  have c5 := cellAt k2 1 _ rfl
  have c6 := cellAt k2 2 _ rfl
  have z2 : w.heap.size < w2.heap.size := ltHeap k2
  clear hb2 k2 hW2 c1 c2 c3 hnt hht
  go_wp2_with fail
  refine Calls.mono (inForm_yes r c a l cap _ hr hc HL.out) ?_
  rintro e w3 ⟨rfl, hb3⟩
  have t3 := heap_later (heap_alloc_last w2 (.cells #[.int .i64 c, .int .i64 r, .slice (some ⟨gt, 0, none⟩) nt nt] 24)) hb3
  have T3 : Hid _ := t3
  have HT3 : Hid _ := heap_later ((Below.heap_alloc w2 (.cells #[.int .i64 c, .int .i64 r, .slice (some ⟨gt, 0, none⟩) nt nt] 24) _ (ltHeap HT2.out)).trans HT2.out) hb3
  have K3 : Hid _ := heap_later ((Below.heap_alloc w2 (.cells #[.int .i64 c, .int .i64 r, .slice (some ⟨gt, 0, none⟩) nt nt] 24) _ (ltHeap K2.out)).trans K2.out) hb3
  have N3 : Hid _ := heap_later ((Below.heap_alloc w2 (.cells #[.int .i64 c, .int .i64 r, .slice (some ⟨gt, 0, none⟩) nt nt] 24) _ (ltHeap N2.out)).trans N2.out) hb3
  have hW3 : Below w.heap.size w w3 := (HW2.out.alloc HW2.out.size _).trans (hb3.mono (by have := HW2.out.size; simp; omega))
  have HW3 : Hid _ := hW3
  have c1 := cellAt t3 0 _ rfl
  have c2 := cellAt t3 1 _ rfl
  have c3 := cellAt t3 2 _ rfl
  clear hb3 hW3 c4 c5 c6 t3 K1 N1 K2 N2 HT2 HW1 HW2
  go_wp2_with fail
  refine Calls.mono (transpose_F c r nt nt _ (trM r c xs) _ hc hr HNT.out (trM_len _ _ _) (Nat.le_refl _) (row8_own HT3.out)) ?_
  rintro e w4 ⟨gu, nu, rfl, hnu, hgu, hhu, hb4⟩
  rw [trM_trM HX.out] at hhu
  have HNU : Hid _ := hnu
  have T4 : Hid _ := heap_later T3.out hb4
  have HT4 : Hid _ := heap_later HT3.out hb4
  have K4 : Hid _ := heap_later K3.out hb4
  have N4 : Hid _ := heap_later N3.out hb4
  have HU4 : Hid _ := hhu
  have HW4 : Hid (Below w.heap.size w w4) := HW3.out.trans (hb4.mono HW3.out.size)
  have z4 := ltHeap T4.out
  have y4 := ltHeap K4.out
  have x4 := ltHeap N4.out
  have c4 := cellAt K4.out 0 _ rfl
  have c5 := cellAt K4.out 1 _ rfl
  have c6 := cellAt K4.out 2 _ rfl
  have d4 := cellAt T4.out 0 _ rfl
  have d5 := cellAt T4.out 1 _ rfl
  have d6 := cellAt T4.out 2 _ rfl
  clear hb4 c1 c2 c3 hnu hhu T3 HT3 K3 N3 HW3
  go_wp2_with fail
  refine Calls.mono (same_F r c _ a nu nu l cap xs xs _ (by rw [HNU.out, HX.out]) (by rw [HL.out, HX.out]) (row8_alloc (row8_own HU4.out) _) (row8_alloc (row8_below HR.out HW4.out) _)) ?_
  rintro e w5 ⟨rfl, hb5⟩
  rw [eqB_true]
  have al : ∀ {k : Nat} {o : Obj}, w4.heap[k]? = some o → w5.heap[k]? = some o := fun h => heap_later ((Below.heap_alloc w4 (.cells #[.int .i64 r, .int .i64 c, .slice (some ⟨gu, 0, none⟩) nu nu] 24) _ (ltHeap h)).trans h) hb5
  have T5 : Hid _ := al T4.out
  have HT5 : Hid _ := al HT4.out
  have K5 : Hid _ := al K4.out
  have N5 : Hid _ := al N4.out
  have HW5 : Hid (Below w.heap.size w w5) := (HW4.out.alloc HW4.out.size _).trans (hb5.mono (by have := HW4.out.size; simp; omega))
  have c1 := cellAt K5.out 0 _ rfl
  have c2 := cellAt K5.out 1 _ rfl
  have c3 := cellAt K5.out 2 _ rfl
  have e4 := cellAt T5.out 0 _ rfl
  have e5 := cellAt T5.out 1 _ rfl
  have e6 := cellAt T5.out 2 _ rfl
  have e7 := cellAt N5.out 0 _ rfl
  have e8 := cellAt N5.out 1 _ rfl
  clear hb5 al c4 c5 c6 d4 d5 d6 T4 HT4 K4 N4 HW4 HU4
  go_wp2_with fail
  by_cases hin : 0 ≤ n0 ∧ n0 < r ∧ 0 ≤ n1 ∧ n1 < c
  · obtain ⟨i, rfl⟩ := Int.eq_ofNat_of_zero_le hin.1
    obtain ⟨j, rfl⟩ := Int.eq_ofNat_of_zero_le hin.2.2.1
    have hi : i < r := by omega
    have hj : j < c := by omega
    clear hin
    refine Calls.mono (at_F r c l cap i j a xs _ hr hc HL.out HX.out hcap (row8_below HR.out HW5.out) hi hj) ?_
    rintro e w6 ⟨rfl, hb6⟩
    have HT6 : Hid _ := heap_later HT5.out hb6
    have T6 := heap_later T5.out hb6
    have N6 := heap_later N5.out hb6
    have HW6 : Hid (Below w.heap.size w w6) := HW5.out.trans (hb6.mono HW5.out.size)
    have f4 := cellAt T6 0 _ rfl
    have f5 := cellAt T6 1 _ rfl
    have f6 := cellAt T6 2 _ rfl
    have f7 := cellAt N6 0 _ rfl
    have f8 := cellAt N6 1 _ rfl
    clear hb6 T6 N6 c1 c2 c3 e4 e5 e6 e7 e8
    go_wp2_with fail
    refine Calls.mono (at_F c r nt nt j i _ (trM r c xs) _ hc hr HNT.out (trM_len _ _ _) (Nat.le_refl _) (row8_own HT6.out) hj hi) ?_
    rintro e w7 ⟨rfl, hb7⟩
    rw [at8_trM hi hj]
    have HW7 : Hid (Below w.heap.size w w7) := HW6.out.trans (hb7.mono HW6.out.size)
    clear hb7 f4 f5 f6 f7 f8
    go_wp2_with (go_at_call 9; refine Calls.mono (num_nil _) ?_; rintro e w' ⟨rfl, rfl⟩)
    go_ret
    exact ⟨rfl, HW7.out⟩
  · have HI : Hid _ := hin
    obtain ⟨s, hs1, hs2, _⟩ := errs_at HE.out 11 1 rfl
    have hlt := World.block_lt_of_cell? w _ hs2
    simp at hlt
    have HS : Hid _ := hs2
    clear hin hs2
    refine Calls.mono (at_no r c l cap n0 n1 a _ hr hc HL.out s ((HW5.out.cell (p := ⟨1, 0, none⟩) hlt).trans HS.out) HI.out) ?_
    rintro e w6 ⟨rfl, hb6⟩
    have HT6 : Hid _ := heap_later HT5.out hb6
    have T6 := heap_later T5.out hb6
    have N6 := heap_later N5.out hb6
    have HW6 : Hid (Below w.heap.size w w6) := HW5.out.trans (hb6.mono HW5.out.size)
    have f4 := cellAt T6 0 _ rfl
    have f5 := cellAt T6 1 _ rfl
    have f6 := cellAt T6 2 _ rfl
    have f7 := cellAt N6 0 _ rfl
    have f8 := cellAt N6 1 _ rfl
    clear hb6 T6 N6 c1 c2 c3 e4 e5 e6 e7 e8
    go_wp2_with fail
    refine Calls.mono (at_no c r nt nt n1 n0 _ _ hc hr HNT.out s ((HW6.out.cell (p := ⟨1, 0, none⟩) hlt).trans HS.out) (fun h => HI.out ⟨h.2.2.1, h.2.2.2, h.1, h.2.1⟩)) ?_
    rintro e w7 ⟨rfl, hb7⟩
    have HW7 : Hid (Below w.heap.size w w7) := HW6.out.trans (hb7.mono HW6.out.size)
    clear hb7 f4 f5 f6 f7 f8
    go_wp2_with fail
    refine Calls.mono (num_err (errsAt_below HE.out HW7.out) hs1) ?_
    rintro e w8 ⟨rfl, hb8⟩
    have HW8 : Hid (Below w.heap.size w w8) := HW7.out.trans (hb8.mono HW7.out.size)
    clear hb8
    go_wp2_with fail
    refine Calls.mono (num_err (errsAt_below HE.out HW8.out) hs1) ?_
    rintro e w9 ⟨rfl, hb9⟩
    have HW9 : Hid (Below w.heap.size w w9) := HW8.out.trans (hb9.mono HW8.out.size)
    clear hb9
    go_wp2
    go_ret
    exact ⟨rfl, HW9.out⟩
theorem turns_walk (r c n0 n1 : Int) (a : Option Addr) (l cap : Nat) (xs : List F) (w : World) (hx : l = xs.length) (hcap : l ≤ cap) (hX : Row8 w a xs) (es : List Addr) (hes : ErrsAt w gsNum es) :
    Calls Tryd.prog 3 #[.agg #[.int .i64 r, .int .i64 c, .slice a l cap], .agg #[.int .i64 n0, .int .i64 n1]] w fun e w' => e = .returned (.bool true) ∧ Below w.heap.size w w' := by
  by_cases h : 0 ≤ r ∧ r ≤ 64 ∧ 0 ≤ c ∧ c ≤ 64 ∧ (l : Int) = r * c
  · obtain ⟨r, rfl⟩ := Int.eq_ofNat_of_zero_le h.1
    obtain ⟨c, rfl⟩ := Int.eq_ofNat_of_zero_le h.2.2.1
    have e : l = r * c := by have := h.2.2.2.2; rw [← Int.natCast_mul] at this; omega
    exact turns_ok r c l cap n0 n1 a xs w (by omega) (by omega) e (by omega) hcap hX es hes
  · obtain ⟨s, _, hs2, _⟩ := errs_at hes 1 0 rfl
    exact turns_bad r c n0 n1 a l cap w s hs2 h
end Go.Proofs.YtagahiahhgafpabDoor
