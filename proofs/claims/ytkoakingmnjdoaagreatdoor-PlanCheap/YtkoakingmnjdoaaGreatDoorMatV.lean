/- What Times, Left and combine of package mat answer, of all matrices in form; nothing that was there turns. -/
import Derived.Test.YtkoakingmnjdoaaGreatDoorMatO
import Derived.Test.YtkoakingmnjdoaaGreatDoorMatS
namespace Go.Proofs.YtkoakingmnjdoaaGreatDoor
open Go.RowKit Gf
set_option linter.unusedVariables false
set_option maxRecDepth 20000
theorem rowF_set {c i : Nat} {f : Nat → F} {x : F} : (rowF c f).set i x = rowF c (fun j => if j = i then x else f j) := by
  refine rowF_eq (by rw [List.length_set, rowF_len]) fun j hj => ?_
  by_cases h : j = i
  · subst h; simp [at8, rowF_len, hj]
  · rw [if_neg h]
    have e : at8 ((rowF c f).set i x) j = at8 (rowF c f) j := by simp [at8, Ne.symm h]
    rw [e, at8_rowF hj]
/-- a column, made as far as row k -/
def colP (r : Nat) (f : Nat → F) (k : Nat) : List F := rowF r (fun i => if i < k then f i else 0)
theorem colP_len (r : Nat) (f : Nat → F) (k : Nat) : (colP r f k).length = r := rowF_len _ _
theorem colP_zero (r : Nat) (f : Nat → F) : zeros r = colP r f 0 := rowF_eq (zeros_len r) fun j hj => by rw [at8_zeros, if_neg (by omega)]
theorem colP_done (r : Nat) (f : Nat → F) : colP r f r = rowF r f := rowF_congr fun j hj => by rw [if_pos hj]
theorem colP_step (r : Nat) (f : Nat → F) (k : Nat) : (colP r f k).set k (f k) = colP r f (k + 1) := by
  rw [colP, rowF_set]
  refine rowF_congr fun j hj => ?_
  by_cases h : j = k
  · subst h; rw [if_pos rfl, if_pos (by omega)]
  · rw [if_neg h]
    by_cases h2 : j < k
    · rw [if_pos h2, if_pos (by omega)]
    · rw [if_neg h2, if_neg (by omega)]
set_option maxHeartbeats 1000000 in
theorem combine_F (r c l cap lv cv : Nat) (a b : Option Addr) (xs vs : List F) (w : World) (hr : r ≤ 64) (hc : c ≤ 64) (hl : l = r * c) (hx : xs.length = r * c) (hcap : l ≤ cap) (hX : Row8 w a xs) (hlv : lv = r) (hv : vs.length = r) (hV : Row8 w b vs) :
    Calls Tryz.prog 105 #[.slice b lv cv, .agg #[.int .i64 r, .int .i64 c, .slice a l cap]] w fun e w' => ∃ g, e = .returned (.slice (some ⟨g, 0, none⟩) c c) ∧ w.heap.size ≤ g ∧
      w'.heap[g]? = some (.cells (vfs (leftTo c vs xs r)) 5 (0, 0)) ∧ Below w.heap.size w w' := by
  subst hlv
  have HL : Hid _ := hl
  have HX : Hid _ := hx
  have HV : Hid _ := hv
  have HR : Hid (Row8 w a xs) := hX
  have HS : Hid (Row8 w b vs) := hV
  clear hl hx hX hv hV
  have hmk := run_make8 c (by omega)
  go_enter Tryz.func105, Tryz.ntmps105
  go_wp2
  have B2 : Hid _ := (Below.heap_alloc (w.alloc (.cells #[.int .i64 lv, .int .i64 c, .slice a l cap] 73)) (.cells (vfs (zeros c)) 5) w.heap.size (by simp)).trans (heap_alloc_last w (.cells #[.int .i64 lv, .int .i64 c, .slice a l cap] 73))
  have B1 : Hid _ := heap_alloc2_new w (.cells #[.int .i64 lv, .int .i64 c, .slice a l cap] 73) (.cells (vfs (zeros c)) 5)
  have B3 : Hid _ := ((Below.refl w.heap.size w).alloc (Nat.le_refl _) (.cells #[.int .i64 lv, .int .i64 c, .slice a l cap] 73)).alloc (by simp) (.cells (vfs (zeros c)) 5)
  clear hmk
  generalize hW : ((w.alloc (.cells #[.int .i64 lv, .int .i64 c, .slice a l cap] 73)).alloc (.cells (vfs (zeros c)) 5)) = W3 at *
  have z3 : w.heap.size < W3.heap.size := ltHeap B2.out
  clear hW
  go_loopw [5, 13] (fun s i wr => ∃ k g : Nat, k ≤ lv ∧ i = .int .i64 k ∧ s = .slice (some ⟨g, 0, none⟩) c c ∧ w.heap.size ≤ g ∧ Below W3.heap.size W3 wr ∧ wr.heap[g]? = some (.cells (vfs (leftTo c vs xs k)) 5 (0, 0))) (fun _ i _ => lv - (intOf i).toNat)
  case atStart => exact ⟨0, w.heap.size + 1, by omega, rfl, rfl, by omega, Below.refl _ _, by rw [leftTo_zero]; exact B1.out⟩
  case round =>
    obtain ⟨k, g, hk, rfl, rfl, hg, hgb, hs⟩ := hrel
    by_cases hlt : k < lv
    · obtain ⟨b', off', rfl, hbl, hcl⟩ := row8_cell HS.out (show k < _ by rw [HV.out]; exact hlt)
      have hww : Below w.heap.size w wr := B3.out.trans (hgb.mono (by omega))
      have c0 := hww.cell (p := ⟨b', off' + k, none⟩) hbl
      rw [hcl k (by rw [HV.out]; exact hlt)] at c0
      have k0 := heap_later B2.out hgb
      have c1 := cellAt k0 0 _ rfl
      have c2 := cellAt k0 1 _ rfl
      have c3 := cellAt k0 2 _ rfl
      have HGB : Hid _ := hgb
      have HG : Hid _ := hs
      have HWW : Hid _ := hww
      clear k0 hgb hs hww hcl
      go_wp2_with fail
      refine Calls.mono (rowOf_F lv c k l cap a xs w _ hr hc hlt HL.out HX.out hcap HR.out) ?_
      rintro e w4 ⟨a', cap', rfl, hr4, hc4, hb4⟩
      have HW4 : Hid (Below w.heap.size w w4) := HWW.out.trans (hb4.mono HWW.out.size)
      have HR4 : Hid _ := row8_below hr4 HW4.out
      have HG4 : Hid _ := row8_own (heap_later HG.out hb4)
      have HGB4 : Hid (Below W3.heap.size W3 w4) := HGB.out.trans (hb4.mono HGB.out.size)
      clear c0 c1 c2 c3 hb4 hr4 HGB HG
      go_wp2_with fail
      refine Calls.mono (addScaled_B (at8 vs k) _ a' c c c cap' (leftTo c vs xs k) (rowAt c xs k) (leftTo c vs xs (k + 1)) w4.heap.size w4 w4 (Below.refl _ _) (Nat.le_refl _) (leftTo_step HX.out hlt) (leftTo_len _ _ _ _).symm (rowAt_len HX.out hlt).symm (by omega) (by omega) HG4.out HR4.out) ?_
      rintro e w5 ⟨g5, rfl, hg5, hb5, _, hs5⟩
      rw [leftTo_len]
      have HG5 : Hid _ := hs5
      have HGB5 : Hid (Below W3.heap.size W3 w5) := HGB4.out.trans (hb5.mono HGB4.out.size)
      have hz5 : w.heap.size ≤ g5 := by have := HW4.out.size; omega
      clear hs5 hb5
      go_wp2
      exact ⟨⟨k + 1, g5, by omega, by go_num, rfl, hz5, HGB5.out, HG5.out⟩, by simp [intOf]; omega⟩
    · have e : k = lv := by omega
      subst e
      have HGB : Hid _ := hgb
      have HG : Hid _ := hs
      clear hgb hs
      go_wp2
      go_ret
      exact ⟨g, rfl, hg, HG.out, B3.out.trans (HGB.out.mono (by omega))⟩
end Go.Proofs.YtkoakingmnjdoaaGreatDoor
