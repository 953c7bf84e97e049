/- What Row of package half answers, and Rows of numbers that aren't legal; alive of stage 5; nothing that was there turns. -/
import Derived.Test.YtlcaodnimnghoaaDoorHalfM
import Derived.Test.YtlcaodnimnghoaaDoorHalfP
namespace Go.Proofs.YtlcaodnimnghoaaDoor
open Go.RowKit Gf
set_option linter.unusedVariables false
set_option maxRecDepth 20000
set_option maxHeartbeats 1000000 in
theorem hrows_bad (k r : Int) (w : World) (s : Addr) (hs : w.cell? ⟨0, 0, none⟩ = some (errAt s)) (hk0 : -9223372036854775808 ≤ k) (hk1 : k ≤ 9223372036854775807) (hr0 : -9223372036854775808 ≤ r) (hr1 : r ≤ 9223372036854775807) (h : ¬ LegalP k r) :
    Calls Tryd.prog 18 #[.int .i64 k, .int .i64 r] w fun e w' => e = .returned (.tuple #[.agg #[.int .i64 0, .int .i64 0, .slice none 0 0], errAt s]) ∧ Below w.heap.size w w' := by
  have HB0 : Hid _ := (Below.refl w.heap.size w).alloc (Nat.le_refl _) (.cells #[.int .i64 0, .int .i64 0, .slice none 0 0] 42)
  have HA0 : Hid _ := holds_new (holds_nil w) #[.int .i64 0, .int .i64 0, .slice none 0 0] 42
  have HS : Hid _ := cell_later HB0.out hs
  have H : Hid _ := h
  clear h hs
  unfold errAt at *
  go_enter Tryd.func18, Tryd.ntmps18
  go_wp2_with fail
  refine Calls.mono (generator_bad k r _ s HS.out hk0 hk1 hr0 hr1 H.out) ?_
  unfold errAt
  rintro e w1 ⟨rfl, hb1⟩
  have HA1 : Hid _ := holds_alloc (holds_later HA0.out hb1) (.cells #[.int .i64 0, .int .i64 0, .slice none 0 0] 42)
  have hB1 := HB0.out.trans (hb1.mono HB0.out.size)
  have HB1 : Hid _ := hB1.alloc hB1.size (.cells #[.int .i64 0, .int .i64 0, .slice none 0 0] 42)
  have zz := hb1.size
  have k2 := holds_at (holds_later HA0.out hb1) 0 rfl
  have d4 : w1.frozen? ⟨w.heap.size, 0, none⟩ = false := frozen_of_row _ _ _ _ _ k2
  have d5 : w1.frozen? ⟨w.heap.size, 1, none⟩ = false := frozen_of_row _ _ _ _ _ k2
  have d6 : w1.frozen? ⟨w.heap.size, 2, none⟩ = false := frozen_of_row _ _ _ _ _ k2
  have c4 := cellAt k2 0 _ rfl
  have c5 := cellAt k2 1 _ rfl
  have c6 := cellAt k2 2 _ rfl
  have z4 := ltHeap k2
  have hbX : Hid _ := hb1
  clear hb1 hB1 k2
  go_wp2
  refine bodyPost_ret (v := .tuple #[.agg #[.int .i64 0, .int .i64 0, .slice none 0 0], .iface 121 (.pointer (some s))]) (by simp [results, Tryd.results18, go_sem, c4, c5, c6, z4]) rfl ⟨rfl, ?_⟩
  have hX := (((HB0.out.trans (hbX.out.mono HB0.out.size)).setCell (p := ⟨w.heap.size, 0, none⟩) (Nat.le_refl _) (.int .i64 0)).setCell (p := ⟨w.heap.size, 1, none⟩) (Nat.le_refl _) (.int .i64 0)).setCell (p := ⟨w.heap.size, 2, none⟩) (Nat.le_refl _) (.slice none 0 0)
  exact hX.alloc hX.size _
theorem rowAt_half {k r h : Nat} (hh : h < 2 * (k + r)) : rowAt (2 * k) (halfM k r) h = rowF (2 * k) (halfF k (carN (groupN k r)) h) := rowAt_grid hh
set_option maxHeartbeats 1000000 in
theorem hrow_F (k r h : Nat) (w : World) (s0 : Addr) (hs0 : w.cell? ⟨3, 0, none⟩ = some (errAt s0)) (h1 : 1 ≤ k) (h2 : 2 ≤ r) (h3 : k + r ≤ 16) (hh : h < 2 * (k + r)) :
    Calls Tryd.prog 17 #[.int .i64 k, .int .i64 r, .int .i64 h] w fun e w' => ∃ g cap, e = .returned (.tuple #[.slice (some ⟨g, 0, none⟩) (2 * k) cap, .nilIface]) ∧ w.heap.size ≤ g ∧ Has8 w' g (rowF (2 * k) (halfF k (carN (groupN k r)) h)) cap ∧ Below w.heap.size w w' := by
  obtain ⟨s, p, hp, hst, en⟩ : ∃ s p : Nat, p < 2 ∧ s < k + r ∧ h = 2 * s + p := ⟨h / 2, h % 2, by omega, by omega, by omega⟩
  have HE : Hid _ := en
  have HV : Hid _ := fun w s hs => hrows_F k r w s hs h1 h2 h3
  have hrh := rowAt_half hh
  have hml := halfM_len k r
  obtain ⟨n, hn⟩ : ∃ n, n = 2 * (k + r) := ⟨_, rfl⟩
  obtain ⟨c, hc⟩ : ∃ c, c = 2 * k := ⟨_, rfl⟩
  rw [← hn] at hh
  rw [← hn, ← hc] at HV hml
  rw [← hc] at hrh ⊢
  rw [← hrh]
  have hn32 : n ≤ 32 := by omega
  have hc32 : c ≤ 32 := by omega
  have HML : Hid _ := hml
  have HS : Hid _ := hs0
  clear en hrh hml hn hc hs0
  go_enter Tryd.func17, Tryd.ntmps17
  go_wp2_with fail
  refine (find_ok k r h s p _ h1 h2 h3 HE.out hp hst).mono ?_
  rintro e w1 ⟨rfl, hb1⟩
  have HB1 : Hid _ := hb1.alloc hb1.size (.cells #[.int .i64 s, .int .i64 p] 66)
  clear hb1
  go_wp2_with fail
  refine Calls.mono (HV.out _ s0 (cell_later HB1.out HS.out)) ?_
  rintro e w2 ⟨g2, m2, rfl, hm2, hg2, hh2, hb2⟩
  have HM2 : Hid _ := hm2
  have HA2 : Hid _ := holds_new (holds_cons (holds_nil w2) hh2) #[.int .i64 n, .int .i64 c, .slice (some ⟨g2, 0, none⟩) m2 m2] 42
  have hB2 := HB1.out.trans (hb2.mono HB1.out.size)
  have HB2 : Hid _ := hB2.alloc hB2.size (.cells #[.int .i64 n, .int .i64 c, .slice (some ⟨g2, 0, none⟩) m2 m2] 42)
  clear hb2 hh2 hm2 hB2
  have c1 := cellAt (holds_at HA2.out 0 rfl) 0 _ rfl
  have c2 := cellAt (holds_at HA2.out 0 rfl) 1 _ rfl
  have c3 := cellAt (holds_at HA2.out 0 rfl) 2 _ rfl
  have z3 := ltHeap (holds_at HA2.out 0 rfl)
  go_wp2_with fail
  refine Calls.mono (row_F n c m2 m2 h (some ⟨g2, 0, none⟩) (halfM k r) _ (by omega) (by omega) HM2.out HML.out (Nat.le_refl _) (holds_row HA2.out 1 rfl) (fun h => by cases h) hh) ?_
  rintro e w5 ⟨a5, cap5, rfl, hr5, hn5, h5, hb5⟩
  obtain ⟨g5, rfl, hg5, h8⟩ := h5 (by simp)
  have H8 : Hid _ := h8
  have HB5 : Hid (Below w.heap.size w w5) := HB2.out.trans (hb5.mono HB2.out.size)
  have hz := HB2.out.size
  clear hb5 hr5 hn5 h5 h8 c1 c2 c3 z3
  go_wp2
  go_ret2
  exact ⟨g5, cap5, rfl, by omega, H8.out, HB5.out⟩
theorem hrow_err (k r h : Int) (s : Addr) (w : World) (hF : ∀ w0 : World, w0 = w → Calls Tryd.prog 34 #[.int .i64 k, .int .i64 r, .int .i64 h] w0 fun e w' => e = .returned (.tuple #[.agg #[.int .i64 0, .int .i64 0], errAt s]) ∧ Below w0.heap.size w0 w') :
    Calls Tryd.prog 17 #[.int .i64 k, .int .i64 r, .int .i64 h] w fun e w' => e = .returned (.tuple #[.slice none 0 0, errAt s]) ∧ Below w.heap.size w w' := by
  have HF : Hid _ := hF
  clear hF
  unfold errAt at HF ⊢
  go_enter Tryd.func17, Tryd.ntmps17
  go_wp2_with fail
  refine (HF.out _ rfl).mono ?_
  rintro e w1 ⟨rfl, hb⟩
  have HB : Hid _ := hb
  clear hb
  go_wp2
  go_ret2
  exact ⟨rfl, HB.out.alloc HB.out.size _⟩
theorem hrow_bad (k r h : Int) (w : World) (s : Addr) (hs : w.cell? ⟨0, 0, none⟩ = some (errAt s)) (hk0 : -9223372036854775808 ≤ k) (hk1 : k ≤ 9223372036854775807) (hr0 : -9223372036854775808 ≤ r) (hr1 : r ≤ 9223372036854775807) (hL : ¬ LegalP k r) :
    Calls Tryd.prog 17 #[.int .i64 k, .int .i64 r, .int .i64 h] w fun e w' => e = .returned (.tuple #[.slice none 0 0, errAt s]) ∧ Below w.heap.size w w' :=
  hrow_err k r h s w fun w0 e => find_bad k r h w0 s (e ▸ hs) hk0 hk1 hr0 hr1 hL
theorem hrow_no (k r : Nat) (h : Int) (w : World) (s : Addr) (hs : w.cell? ⟨1, 0, none⟩ = some (errAt s)) (h1 : 1 ≤ k) (h2 : 2 ≤ r) (h3 : k + r ≤ 16) (hh : ¬ (0 ≤ h ∧ h < 2 * (k + r))) :
    Calls Tryd.prog 17 #[.int .i64 k, .int .i64 r, .int .i64 h] w fun e w' => e = .returned (.tuple #[.slice none 0 0, errAt s]) ∧ Below w.heap.size w w' :=
  hrow_err k r h s w fun w0 e => find_no k r h w0 s (e ▸ hs) h1 h2 h3 hh
theorem alive5_row : rowF (2 * 1) (halfF 1 (carN (groupN 1 2)) 5) = [1, 142] := by decide +kernel
theorem alive5_name : strB (nameB 4 9) = ⟨#[112, 48, 98]⟩ := by decide +kernel
set_option maxHeartbeats 2000000 in
theorem alive5_ok (w : World) (s0 : Addr) (hs0 : w.cell? ⟨3, 0, none⟩ = some (errAt s0)) : Calls Tryd.prog 9 #[] w fun e w' => e = .returned (.bool true) ∧ Below w.heap.size w w' := by
  have HS : Hid _ := hs0
  clear hs0
  go_enter Tryd.func9, Tryd.ntmps9
  go_wp2_with fail
  refine Calls.mono (name_ok 4 3 9 _ (by decide) (by decide) (by decide) (by decide)) ?_
  rw [alive5_name]
  rintro e w1 ⟨rfl, hb1⟩
  have HB1 : Hid _ := hb1
  clear hb1
  go_wp2_with fail
  refine Calls.mono (hrow_F 1 2 5 _ s0 (cell_later HB1.out HS.out) (by decide) (by decide) (by decide) (by decide)) ?_
  rw [alive5_row]
  rintro e w2 ⟨g, cap, rfl, hg, hh, hb2⟩
  have HB2 : Hid (Below w.heap.size w w2) := HB1.out.trans (hb2.mono HB1.out.size)
  have hcv := conv8 (la := 2) (ca := cap) (show 2 = ([1, 142] : List F).length from rfl) (row8_has hh)
  rw [show str8 [1, 142] = { data := #[1, 142] } by decide +kernel] at hcv
  have hcv2 := conv8 (ca := 2) (show 2 = ([1, 142] : List F).length from rfl) (row8_own (heap_alloc_last w2 (.cells #[.int .u8 1, .int .u8 142] 5)) (xs := [1, 142]))
  rw [show str8 [1, 142] = { data := #[1, 142] } by decide +kernel] at hcv2
  clear hb2 hh
  go_wp2
  go_ret
  exact ⟨rfl, HB2.out.alloc HB2.out.size _⟩
end Go.Proofs.YtlcaodnimnghoaaDoor
