/- What find, Of, Split and Carrier of package half answer, at all numbers; nothing that was there turns. -/
import Derived.Test.YtjmbpldkggbdlaaGreatDoorHalfW
namespace Go.Proofs.YtjmbpldkggbdlaaGreatDoor
open Go.RowKit Gf
set_option linter.unusedVariables false
set_option maxRecDepth 20000
theorem find_ok (k r h s p : Nat) (w : World) (h1 : 1 ≤ k) (h2 : 2 ≤ r) (h3 : k + r ≤ 16) (hh : h = 2 * s + p) (hp : p < 2) (hs : s < k + r) :
    Calls Tryz.prog 43 #[.int .i64 k, .int .i64 r, .int .i64 h] w fun e w' => e = .returned (.tuple #[.agg #[.int .i64 s, .int .i64 p], .nilIface]) ∧ Below w.heap.size w w' := by
  have HH : Hid _ := hh
  have a1 : (h : Int) < 2 * (k + r) := by omega
  have HA : Hid _ := a1
  clear hh a1
  have hA := holds_new (holds_nil w) #[.int .i64 0, .int .i64 0] 77
  have HA1 : Hid _ := hA
  have HB1 : Hid _ := (Below.refl w.heap.size w).alloc (Nat.le_refl _) (.cells #[.int .i64 0, .int .i64 0] 77)
  clear hA
  go_enter Tryz.func43, Tryz.ntmps43
  go_wp2_with fail
  refine (bcheck_ok _ _ _ h1 h2 h3).mono ?_
  rintro e w' ⟨rfl, rfl⟩
  go_wp2_with fail
  refine (hthere_yes _ _ _ (by omega) HA.out).mono ?_
  rintro e w' ⟨rfl, rfl⟩
  go_wp2_with fail
  refine (placeOf_F h s p _ HH.out hp (by omega)).mono ?_
  rintro e w2 ⟨rfl, hb⟩
  have k1 := heap_later (holds_at HA1.out 0 rfl) hb
  have c1 := cellAt k1 0 _ rfl
  have c2 := cellAt k1 1 _ rfl
  have d1 : w2.frozen? ⟨w.heap.size, 0, none⟩ = false := frozen_of_row _ _ _ _ _ k1
  have d2 : w2.frozen? ⟨w.heap.size, 1, none⟩ = false := frozen_of_row _ _ _ _ _ k1
  have HB2 : Hid (Below w.heap.size w w2) := HB1.out.trans (hb.mono HB1.out.size)
  clear k1 hb
  go_wp2
  refine bodyPost_ret (v := .tuple #[.agg #[.int .i64 s, .int .i64 p], .nilIface]) (by simp [results, Tryz.results43, go_sem, c1, c2]) rfl ⟨rfl, ?_⟩
  exact (HB2.out.setCell (Nat.le_refl _) _).setCell (Nat.le_refl _) _
theorem find_bad (k r h : Int) (w : World) (s : Addr) (hs : w.cell? ⟨0, 0, none⟩ = some (errAt s)) (hk0 : -9223372036854775808 ≤ k) (hk1 : k ≤ 9223372036854775807) (hr0 : -9223372036854775808 ≤ r) (hr1 : r ≤ 9223372036854775807) (hL : ¬ LegalP k r) :
    Calls Tryz.prog 43 #[.int .i64 k, .int .i64 r, .int .i64 h] w fun e w' => e = .returned (.tuple #[.agg #[.int .i64 0, .int .i64 0], errAt s]) ∧ Below w.heap.size w w' := by
  have HS : Hid _ := cell?_alloc_old (.cells #[.int .i64 0, .int .i64 0] 77) hs
  have H : Hid _ := hL
  clear hs hL
  have HB1 : Hid _ := (Below.refl w.heap.size w).alloc (Nat.le_refl _) (.cells #[.int .i64 0, .int .i64 0] 77)
  go_enter Tryz.func43, Tryz.ntmps43
  go_wp2_with fail
  refine (bcheck_bad k r _ s HS.out hk0 hk1 hr0 hr1 H.out).mono ?_
  unfold errAt
  rintro e w' ⟨rfl, rfl⟩
  go_wp2
  refine bodyPost_ret (v := .tuple #[.agg #[.int .i64 0, .int .i64 0], .iface 188 (.pointer (some s))]) (by simp [results, Tryz.results43, go_sem]) rfl ⟨rfl, ?_⟩
  exact HB1.out
theorem find_no (k r : Nat) (h : Int) (w : World) (s : Addr) (hs : w.cell? ⟨1, 0, none⟩ = some (errAt s)) (h1 : 1 ≤ k) (h2 : 2 ≤ r) (h3 : k + r ≤ 16) (hh : ¬ (0 ≤ h ∧ h < 2 * (k + r))) :
    Calls Tryz.prog 43 #[.int .i64 k, .int .i64 r, .int .i64 h] w fun e w' => e = .returned (.tuple #[.agg #[.int .i64 0, .int .i64 0], errAt s]) ∧ Below w.heap.size w w' := by
  have hlt := World.block_lt_of_cell? w _ hs
  simp at hlt
  have hs1 := cell?_alloc_old (.cells #[.int .i64 0, .int .i64 0] 77) hs
  have H : Hid _ := hh
  clear hs hh
  have HB1 : Hid _ := (Below.refl w.heap.size w).alloc (Nat.le_refl _) (.cells #[.int .i64 0, .int .i64 0] 77)
  unfold errAt at *
  go_enter Tryz.func43, Tryz.ntmps43
  go_wp2_with fail
  refine (bcheck_ok _ _ _ h1 h2 h3).mono ?_
  rintro e w' ⟨rfl, rfl⟩
  go_wp2_with fail
  refine (hthere_no _ _ _ H.out).mono ?_
  rintro e w' ⟨rfl, rfl⟩
  go_wp2
  go_region
  go_wp2
  refine bodyPost_ret (v := .tuple #[.agg #[.int .i64 0, .int .i64 0], .iface 188 (.pointer (some s))]) (by simp [results, Tryz.results43, go_sem]) rfl ⟨rfl, ?_⟩
  exact HB1.out.drew
theorem split_ok (k r h s p : Nat) (w : World) (h1 : 1 ≤ k) (h2 : 2 ≤ r) (h3 : k + r ≤ 16) (hh : h = 2 * s + p) (hp : p < 2) (hs : s < k + r) :
    Calls Tryz.prog 29 #[.int .i64 k, .int .i64 r, .int .i64 h] w fun e w' => e = .returned (.tuple #[.int .i64 s, .int .i64 p, .nilIface]) ∧ Below w.heap.size w w' := by
  have HF : Hid _ := fun w => find_ok k r h s p w h1 h2 h3 hh hp hs
  clear hh
  go_enter Tryz.func29, Tryz.ntmps29
  go_wp2_with fail
  refine (HF.out _).mono ?_
  rintro e w1 ⟨rfl, hb⟩
  have HB : Hid _ := hb
  clear hb
  go_wp2
  go_region
  go_wp2
  refine bodyPost_ret (v := .tuple #[.int .i64 s, .int .i64 p, .nilIface]) (by simp [results, Tryz.results29, go_sem]) rfl ?_
  exact ⟨rfl, (HB.out.alloc HB.out.size _).drew⟩
theorem split_err (k r h : Int) (v : Value) (w : World) (hF : ∀ w0 : World, w0 = w → Calls Tryz.prog 43 #[.int .i64 k, .int .i64 r, .int .i64 h] w0 fun e w' => e = .returned (.tuple #[.agg #[.int .i64 0, .int .i64 0], v]) ∧ Below w0.heap.size w0 w') :
    Calls Tryz.prog 29 #[.int .i64 k, .int .i64 r, .int .i64 h] w fun e w' => e = .returned (.tuple #[.int .i64 0, .int .i64 0, v]) ∧ Below w.heap.size w w' := by
  have HF : Hid _ := hF
  clear hF
  go_enter Tryz.func29, Tryz.ntmps29
  go_wp2_with fail
  refine (HF.out _ rfl).mono ?_
  rintro e w1 ⟨rfl, hb⟩
  have HB : Hid _ := hb
  clear hb
  go_wp2
  go_region
  go_wp2
  refine bodyPost_ret (v := .tuple #[.int .i64 0, .int .i64 0, v]) (by simp [results, Tryz.results29, go_sem]) rfl ?_
  exact ⟨rfl, (HB.out.alloc HB.out.size _).drew⟩
theorem split_bad (k r h : Int) (w : World) (s : Addr) (hs : w.cell? ⟨0, 0, none⟩ = some (errAt s)) (hk0 : -9223372036854775808 ≤ k) (hk1 : k ≤ 9223372036854775807) (hr0 : -9223372036854775808 ≤ r) (hr1 : r ≤ 9223372036854775807) (hL : ¬ LegalP k r) :
    Calls Tryz.prog 29 #[.int .i64 k, .int .i64 r, .int .i64 h] w fun e w' => e = .returned (.tuple #[.int .i64 0, .int .i64 0, errAt s]) ∧ Below w.heap.size w w' :=
  split_err k r h _ w fun w0 e => find_bad k r h w0 s (e ▸ hs) hk0 hk1 hr0 hr1 hL
theorem split_no (k r : Nat) (h : Int) (w : World) (s : Addr) (hs : w.cell? ⟨1, 0, none⟩ = some (errAt s)) (h1 : 1 ≤ k) (h2 : 2 ≤ r) (h3 : k + r ≤ 16) (hh : ¬ (0 ≤ h ∧ h < 2 * (k + r))) :
    Calls Tryz.prog 29 #[.int .i64 k, .int .i64 r, .int .i64 h] w fun e w' => e = .returned (.tuple #[.int .i64 0, .int .i64 0, errAt s]) ∧ Below w.heap.size w w' :=
  split_err k r h _ w fun w0 e => find_no k r h w0 s (e ▸ hs) h1 h2 h3 hh
end Go.Proofs.YtjmbpldkggbdlaaGreatDoor
