/- What Product of package mat answers, of all matrices in form that fit; nothing that was there turns. -/
import Derived.Test.YtkoakingmnjdoaaGreatDoorMatV
import Derived.Deep.RegionHeld3
namespace Go.Proofs.YtkoakingmnjdoaaGreatDoor
open Go.RowKit Gf
set_option linter.unusedVariables false
set_option maxRecDepth 20000
/-- rows as values: the first are slices over blocks of their own, the others are nil -/
def slV (c : Nat) (gs : List Nat) (r : Nat) : Array Value := ((gs.map fun g => Value.slice (some ⟨g, 0, none⟩) c c) ++ List.replicate (r - gs.length) (Value.slice none 0 0)).toArray
theorem slV_size {c : Nat} {gs : List Nat} {r : Nat} (h : gs.length ≤ r) : (slV c gs r).size = r := by simp [slV]; omega
theorem slV_at {c : Nat} {gs : List Nat} {r i : Nat} (h : i < gs.length) : (slV c gs r)[i]? = some (.slice (some ⟨gs[i], 0, none⟩) c c) := by
  simp only [slV, List.getElem?_toArray]
  rw [List.getElem?_append_left (by simpa using h), List.getElem?_map, List.getElem?_eq_getElem h]; rfl
theorem slV_next {c : Nat} {gs : List Nat} {r : Nat} (h : gs.length < r) : (slV c gs r)[gs.length]? = some (.slice none 0 0) := by
  simp only [slV, List.getElem?_toArray]
  rw [List.getElem?_append_right (by simp), List.length_map, Nat.sub_self, List.getElem?_replicate, if_pos (by omega)]
theorem slV_set {c : Nat} {gs : List Nat} {r : Nat} (g : Nat) (h : gs.length < r) : (slV c gs r).setIfInBounds gs.length (.slice (some ⟨g, 0, none⟩) c c) = slV c (gs ++ [g]) r := by
  simp only [slV]
  apply Array.toList_inj.1
  simp only [Array.toList_setIfInBounds, List.length_append, List.length_singleton, List.map_append, List.map_cons, List.map_nil, List.append_assoc]
  rw [List.set_append_right _ _ (by simp)]
  rw [show r - gs.length = (r - (gs.length + 1)) + 1 from by omega, List.replicate_succ]
  simp
theorem run_makeS (n : Nat) (hn : n ≤ 64) (w : World) :
    (Instr.makeSlice 49 (.int .i64 (n : Int)) (.int .i64 (n : Int))).run Tryz.prog w = .ok (.slice (some ⟨w.heap.size, 0, none⟩) n n) (w.alloc (.cells (slV 0 [] n) 23)) := by
  have hi : (Tryz.prog.info? 23).map (fun i => (i.size, i.bytes, i.zero)) = some (1, 24, some (.slice none 0 0)) := by kernel_rfl
  cases hq : Tryz.prog.info? 23 with
  | none => simp [hq] at hi
  | some i =>
    simp only [hq, Option.map_some, Option.some.injEq, Prod.mk.injEq] at hi
    have := run_make (P := Tryz.prog) w 49 23 i _ Tryz.underlying49 hq hi.2.2 .i64 .i64 n n (by omega) (by omega) (by rw [hi.2.1]; omega) (by omega)
    rw [this, hi.1]
    have e : madeCells (Value.slice none 0 0).cells n = slV 0 [] n := by
      apply Array.ext_getElem?
      intro i
      by_cases h : i < n <;> simp [madeCells, slV, Value.cells, h, Nat.mod_one]
    simp only [Int.toNat_natCast, Nat.mul_one, e]
set_option maxHeartbeats 2000000 in
theorem product_F (r n c la ca lb cb : Nat) (a b : Option Addr) (xs ys : List F) (w : World) (hr : r ≤ 64) (hn : n ≤ 64) (hc : c ≤ 64) (hla : la = r * n) (hx : xs.length = r * n) (hca : la ≤ ca) (hX : Row8 w a xs)
    (hlb : lb = n * c) (hy : ys.length = n * c) (hcb : lb ≤ cb) (hY : Row8 w b ys) :
    Calls Tryz.prog 75 #[.agg #[.int .i64 r, .int .i64 n, .slice a la ca], .agg #[.int .i64 n, .int .i64 c, .slice b lb cb]] w fun e w' => ∃ g m, e = .returned (.tuple #[.agg #[.int .i64 r, .int .i64 c, .slice (some ⟨g, 0, none⟩) m m], .nilIface]) ∧ m = r * c ∧ w.heap.size ≤ g ∧
      w'.heap[g]? = some (.cells (vfs (mulM n c xs ys r)) 5 (0, 0)) ∧ Below w.heap.size w w' := by
  have HLA : Hid _ := hla
  have HLB : Hid _ := hlb
  have HX : Hid _ := hx
  have HY : Hid _ := hy
  have HRX : Hid (Row8 w a xs) := hX
  have HRY : Hid (Row8 w b ys) := hY
  clear hla hlb hx hy hX hY
  have hmk := run_makeS r hr
  go_enter Tryz.func75, Tryz.ntmps75
  go_wp2_with fail
  refine Calls.mono (check_ok r n a la ca _ hr hn HLA.out) ?_
  rintro e w1 ⟨rfl, hb1⟩
  obtain ⟨q1, q2⟩ := bcell hb1
  have z1 := hb1.size
  simp only [World.size_alloc] at z1
  go_wp2_with fail
  refine Calls.mono (check_ok n c b lb cb _ hn hc HLB.out) ?_
  rintro e w2 ⟨rfl, hb2⟩
  obtain ⟨q3, q4⟩ := bcell hb2
  have z2 := hb2.size
  have y1 : w.heap.size < w1.heap.size := by omega
  have y2 : w.heap.size + 1 < w1.heap.size := by omega
  have y3 : w.heap.size + 1 + 1 < w1.heap.size := by omega
  have y4 : w.heap.size < w2.heap.size := by omega
  have y5 : w.heap.size + 1 < w2.heap.size := by omega
  have y6 : w.heap.size + 1 + 1 < w2.heap.size := by omega
  have HB : Hid (Below w.heap.size w w2) := ((((Below.refl w.heap.size w).alloc (Nat.le_refl _) _).alloc (by simp) _).alloc (by simp; omega) _).trans ((hb1.trans (hb2.mono (by simpa using z1))).mono (by simp; omega))
  go_wp2
  have B0 : Hid ((w2.alloc (.cells (slV 0 [] r) 23)).heap[w.heap.size]? = some (.cells #[.int .i64 r, .int .i64 n, .slice a la ca] 73 (0, 0))) :=
    (Below.heap_alloc _ _ _ y4).trans ((hb2.block _ y1).trans ((hb1.block _ (by simp; omega)).trans ((Below.heap_alloc _ _ _ (by simp; omega)).trans (heap_alloc2_old w _ _))))
  have B1 : Hid ((w2.alloc (.cells (slV 0 [] r) 23)).heap[w.heap.size + 1]? = some (.cells #[.int .i64 n, .int .i64 c, .slice b lb cb] 73 (0, 0))) :=
    (Below.heap_alloc _ _ _ y5).trans ((hb2.block _ y2).trans ((hb1.block _ (by simp)).trans ((Below.heap_alloc _ _ _ (by simp)).trans (heap_alloc2_new w _ _))))
  have B2 : Hid ((w2.alloc (.cells (slV 0 [] r) 23)).heap[w.heap.size + 1 + 1]? = some (.cells #[.int .i64 0, .int .i64 0, .slice none 0 0] 73 (0, 0))) :=
    (Below.heap_alloc _ _ _ y6).trans ((hb2.block _ y3).trans ((hb1.block _ (by simp)).trans (by simpa using heap_alloc_last ((w.alloc (.cells #[.int .i64 r, .int .i64 n, .slice a la ca] 73)).alloc (.cells #[.int .i64 n, .int .i64 c, .slice b lb cb] 73)) (.cells #[.int .i64 0, .int .i64 0, .slice none 0 0] 73))))
  have B3 : Hid _ := heap_alloc_last w2 (.cells (slV 0 [] r) 23)
  have B4 : Hid (Below w.heap.size w (w2.alloc (.cells (slV 0 [] r) 23))) := HB.out.alloc (by omega) _
  clear HB q1 q2 q3 q4 hb1 hb2 y1 y2 y3 z1 z2 hmk
  generalize hM : w2.heap.size = M at *
  generalize (w2.alloc (.cells (slV 0 [] r) 23)) = W3 at *
  clear hM
  go_loopw [30] (fun i wr => ∃ k : Nat, ∃ gs : List Nat, k ≤ r ∧ i = .int .i64 k ∧ gs.length = k ∧ W3.grownBy wr (some M) ∧ wr.heap[M]? = some (.cells (slV c gs r) 23 (0, 0)) ∧
    ∀ j g, gs[j]? = some g → g ≠ M ∧ wr.heap[g]? = some (.cells (vfs (leftTo c (rowAt n xs j) ys n)) 5 (0, 0))) (fun i _ => r - (intOf i).toNat)
  case atStart => exact ⟨0, [], by omega, rfl, rfl, World.grownBy.refl _ _, B3.out, fun j g h => by simp at h⟩
  case round =>
    obtain ⟨k, gs, hk, rfl, hgs, hgb, hs, hrows⟩ := hrel
    by_cases hlt : k < r
    · have c1 : ∀ u, W3.grownBy u (some M) → u.cell? ⟨w.heap.size, 0, none⟩ = some (.int .i64 r) := fun u h => cellAt (grown_block h B0.out (by omega)) 0 _ rfl
      have c2 : ∀ u, W3.grownBy u (some M) → u.cell? ⟨w.heap.size, 1, none⟩ = some (.int .i64 n) := fun u h => cellAt (grown_block h B0.out (by omega)) 1 _ rfl
      have c3 : ∀ u, W3.grownBy u (some M) → u.cell? ⟨w.heap.size, 2, none⟩ = some (.slice a la ca) := fun u h => cellAt (grown_block h B0.out (by omega)) 2 _ rfl
      have c4 : ∀ u, W3.grownBy u (some M) → u.cell? ⟨w.heap.size + 1, 0, none⟩ = some (.int .i64 n) := fun u h => cellAt (grown_block h B1.out (by omega)) 0 _ rfl
      have c5 : ∀ u, W3.grownBy u (some M) → u.cell? ⟨w.heap.size + 1, 1, none⟩ = some (.int .i64 c) := fun u h => cellAt (grown_block h B1.out (by omega)) 1 _ rfl
      have c6 : ∀ u, W3.grownBy u (some M) → u.cell? ⟨w.heap.size + 1, 2, none⟩ = some (.slice b lb cb) := fun u h => cellAt (grown_block h B1.out (by omega)) 2 _ rfl
      have HS : Hid _ := hs
      have HG : Hid _ := hgs
      have HR : Hid _ := hrows
      have hsz : (wr.drew).heap[M]? = some (.cells (slV c gs r) 23 (0, 0)) := hs
      have HS' : Hid _ := hsz
      clear hs hgs hrows hsz
      go_wp2
      go_region_held3 (fun u => W3.grownBy u (some M)) (first | assumption | (refine grownBy_drew ?_; assumption) | exact grown_below ‹_› ‹_› | (refine grownBy_setCell ?_ _; assumption) | fail)
        (first | (go_at_call 100; refine Calls.mono (rowOf_F r n k la ca a xs w _ hr hn hlt HLA.out HX.out hca HRX.out) ?_; rintro e w4 ⟨a', cap', rfl, hr4, hc4, hb4⟩) | (go_at_call 105; refine Calls.mono (combine_F n c lb cb n cap' b a' ys (rowAt n xs k) _ hn hc HLB.out HY.out hcb (row8_below HRY.out (below_grown B4.out (grown_below (grownBy_drew hgb) hb4) (by omega))) rfl (rowAt_len HX.out hlt) (row8_below hr4 (below_grown B4.out (grown_below (grownBy_drew hgb) hb4) (by omega)))) ?_; rintro e w5 ⟨g5, rfl, hg5, hh5, hb5⟩; have c7 : w5.cell? ⟨M, k, none⟩ = some (.slice none 0 0) := cellAt (heap_later (heap_later HS'.out hb4) hb5) k _ (by have e := slV_next (c := c) (gs := gs) (r := r) (by rw [HG.out]; exact hlt); rwa [HG.out] at e); have c8 : w5.frozen? ⟨M, k, none⟩ = false := frozen_of_row _ _ _ _ _ (heap_later (heap_later HS'.out hb4) hb5)))
      have hgs := HG.out
      have hs5 := heap_later (heap_later HS'.out hb4) hb5
      have hg5M : g5 ≠ M := by
        have h1 := ltHeap (heap_later HS'.out hb4)
        omega
      have HT : Hid ((w5.setCell ⟨M, k, none⟩ (.slice (some ⟨g5, 0, none⟩) c c)).heap[M]? = some (.cells (slV c (gs ++ [g5]) r) 23 (0, 0))) := by
        show _ = _
        rw [heap_setCell_same _ _ _ _ _ _ hs5, ← hgs, slV_set g5 (by omega)]
      have HROW : Hid (∀ j g, (gs ++ [g5])[j]? = some g → g ≠ M ∧ (w5.setCell ⟨M, k, none⟩ (.slice (some ⟨g5, 0, none⟩) c c)).heap[g]? = some (.cells (vfs (leftTo c (rowAt n xs j) ys n)) 5 (0, 0))) := by
        intro j g hj
        by_cases hjk : j < gs.length
        · rw [List.getElem?_append_left hjk] at hj
          obtain ⟨h1, h2⟩ := HR.out j g hj
          exact ⟨h1, (heap_setCell_other _ _ _ _ h1).trans (heap_later (heap_later (w := wr.drew) h2 hb4) hb5)⟩
        · have hj2 := (List.getElem?_eq_some_iff.1 hj).1
          simp only [List.length_append, List.length_singleton] at hj2
          obtain rfl : j = k := by omega
          rw [List.getElem?_append_right (by omega), show j - gs.length = 0 from by omega] at hj
          obtain rfl : g5 = g := by simpa using hj
          exact ⟨hg5M, (heap_setCell_other _ _ _ _ hg5M).trans hh5⟩
      have HGB5 : Hid (W3.grownBy (w5.setCell ⟨M, k, none⟩ (.slice (some ⟨g5, 0, none⟩) c c)) (some M)) := grownBy_setCell (grown_below (grown_below (grownBy_drew hgb) hb4) hb5) _
      clear hs5 hgs c1 c2 c3 c4 c5 c6
      go_wp2
      exact ⟨⟨k + 1, gs ++ [g5], by omega, by go_num, by simp [HG.out], HGB5.out, HT.out, HROW.out⟩, by simp [intOf]; omega⟩
    · obtain rfl : k = r := by omega
      have k0 := grown_block hgb B1.out (by omega)
      have c1 := cellAt k0 0 _ rfl
      have c2 := cellAt k0 1 _ rfl
      have c3 := cellAt k0 2 _ rfl
      have k1 := grown_block hgb B2.out (by omega)
      have HK1 : Hid _ := k1
      have HGB : Hid _ := hgb
      have HS : Hid _ := hs
      have HG : Hid _ := hgs
      have HR : Hid _ := hrows
      have HLen : Hid _ := k0
      clear k0 k1 hgb hs hgs hrows
      go_wp2_with fail
      refine Calls.mono (of_F c k k _ ((List.range k).map fun i => leftTo c (rowAt n xs i) ys n) _ hc (by simp) hr (fun x hx => ?_) (.inr ⟨M, 0, rfl, fun j x hx => ?_⟩)) ?_
      · obtain ⟨i, _, rfl⟩ := List.mem_map.1 hx
        exact leftTo_len _ _ _ _
      · simp only [List.getElem?_map, Option.map_eq_some_iff] at hx
        obtain ⟨i, hi, rfl⟩ := hx
        obtain ⟨hjk, hi2⟩ := List.getElem?_eq_some_iff.1 hi
        simp only [List.length_range] at hjk
        simp only [List.getElem_range] at hi2
        subst hi2
        have hjg : j < gs.length := by rw [HG.out]; exact hjk
        have hgj : gs[j]? = some gs[j] := List.getElem?_eq_getElem hjg
        refine ⟨some ⟨gs[j], 0, none⟩, c, ?_, row8_own (HR.out j _ hgj).2⟩
        rw [Nat.zero_add, leftTo_len]
        exact cellAt HS.out j _ (slV_at hjg)
      rintro e w5 ⟨g, m, rfl, hm, hg, hh, hb5⟩
      have k2 := heap_later HK1.out hb5
      have c4 := cellAt k2 0 _ rfl
      have c5 := cellAt k2 1 _ rfl
      have c6 := cellAt k2 2 _ rfl
      have d4 : w5.frozen? ⟨w.heap.size + 1 + 1, 0, none⟩ = false := frozen_of_row _ _ _ _ _ k2
      have d5 : w5.frozen? ⟨w.heap.size + 1 + 1, 1, none⟩ = false := frozen_of_row _ _ _ _ _ k2
      have d6 : w5.frozen? ⟨w.heap.size + 1 + 1, 2, none⟩ = false := frozen_of_row _ _ _ _ _ k2
      have HM : Hid _ := hm
      have HH : Hid _ := hh
      have HBW : Hid (Below w.heap.size w w5) := (below_grown B4.out HGB.out (by omega)).trans (hb5.mono (below_grown B4.out HGB.out (by omega)).size)
      have hgw : w.heap.size + 1 + 1 < g := by
        have := ltHeap HK1.out
        omega
      clear hm hh hb5 k2 c1 c2 c3
      go_wp2
      refine bodyPost_ret (v := .tuple #[.agg #[.int .i64 k, .int .i64 c, .slice (some ⟨g, 0, none⟩) m m], .nilIface]) (by simp [results, Tryz.results75, go_sem, c4, c5, c6]) rfl ⟨g, m, rfl, HM.out, by omega, ?_, ?_⟩
      · rw [heap_setCell_other _ _ _ _ (by show g ≠ w.heap.size + 1 + 1; omega), heap_setCell_other _ _ _ _ (by show g ≠ w.heap.size + 1 + 1; omega), heap_setCell_other _ _ _ _ (by show g ≠ w.heap.size + 1 + 1; omega), mulM_rows HX.out]
        exact HH.out
      · exact ((HBW.out.setCell (by simp; omega) _).setCell (by simp; omega) _).setCell (by simp; omega) _
end Go.Proofs.YtkoakingmnjdoaaGreatDoor
