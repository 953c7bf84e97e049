/- What Reduce, Rank and Basis of package solve answer, of all matrices. -/
import Derived.Test.YtjmbpldkggbdlaaGreatDoorSolveD
import Derived.Test.YtjmbpldkggbdlaaGreatDoorMatT
import Derived.BigRegion
namespace Go.Proofs.YtjmbpldkggbdlaaGreatDoor
open Go.RowKit Gf
set_option linter.unusedVariables false
set_option maxRecDepth 20000
/-- the cells of a matrix of c columns -/
def cellF (c : Nat) (xs : List F) : Mt := fun i j => at8 xs (i * c + j)
theorem RowsIn.congr_left {A B B' : Mt} {n m c : Nat} (h : RowsIn B n A m c) (e : ∀ i, i < n → ∀ j, j < c → B' i j = B i j) : RowsIn B' n A m c := fun i hi => by
  obtain ⟨x, hx⟩ := h i hi
  exact ⟨x, fun j hj => (e i hi j hj).trans (hx j hj)⟩
theorem RowsIn.congr_right {A A' B : Mt} {n m c : Nat} (h : RowsIn B n A m c) (e : ∀ i, i < m → ∀ j, j < c → A' i j = A i j) : RowsIn B n A' m c := fun i hi => by
  obtain ⟨x, hx⟩ := h i hi
  exact ⟨x, fun j hj => (hx j hj).trans (sumF_congr fun k hk => by rw [e k hk j hj])⟩
/-- a matrix in form, as it comes -/
def FormOk (r c : Int) (l : Nat) : Prop := 0 ≤ r ∧ r ≤ 64 ∧ 0 ≤ c ∧ c ≤ 64 ∧ (l : Int) = r * c
set_option maxHeartbeats 1000000 in
theorem eliminated_bad (r c r2 q : Int) (l ca lb cb : Nat) (a b : Option Addr) (w : World) (s : Addr) (hs : w.cell? ⟨2, 0, none⟩ = some (errAt s)) (h : ¬ FormOk r c l) :
    Calls Tryz.prog 76 #[.agg #[.int .i64 r, .int .i64 c, .slice a l ca], .agg #[.int .i64 r2, .int .i64 q, .slice b lb cb]] w fun e w' =>
      e = .returned (.tuple #[.slice none 0 0, .slice none 0 0, errAt s]) ∧ Below w.heap.size w w' := by
  have H : Hid _ := h
  clear h
  have HS : Hid _ := cell?_alloc_old (.cells #[.int .i64 r2, .int .i64 q, .slice b lb cb] 63) (cell?_alloc_old (.cells #[.int .i64 r, .int .i64 c, .slice a l ca] 63) hs)
  clear hs
  unfold errAt at *
  go_enter Tryz.func76, Tryz.ntmps76
  go_wp2_with fail
  refine Calls.mono (check_bad r c a l ca _ _ HS.out H.out) ?_
  rintro e w1 ⟨rfl, hb1⟩
  have c9 := cell_later hb1 HS.out
  have HB1 : Hid (Below w.heap.size w w1) := (((Below.refl w.heap.size w).alloc (Nat.le_refl _) _).alloc (by simp) _).trans (hb1.mono (by simp; omega))
  clear hb1
  go_wp2
  go_region
  go_wp2
  refine bodyPost_ret (v := .tuple #[.slice none 0 0, .slice none 0 0, .iface 188 (.pointer (some s))]) (by simp [results, Tryz.results76, go_sem]) rfl ⟨rfl, HB1.out.drew⟩
set_option maxHeartbeats 1000000 in
theorem eliminated_odd (r c : Nat) (r2 q : Int) (l ca lb cb : Nat) (a b : Option Addr) (w : World) (s : Addr) (hs : w.cell? ⟨2, 0, none⟩ = some (errAt s)) (hr : r ≤ 64) (hc : c ≤ 64) (hl : l = r * c) (h : (r : Int) ≠ r2) :
    Calls Tryz.prog 76 #[.agg #[.int .i64 r, .int .i64 c, .slice a l ca], .agg #[.int .i64 r2, .int .i64 q, .slice b lb cb]] w fun e w' =>
      e = .returned (.tuple #[.slice none 0 0, .slice none 0 0, errAt s]) ∧ Below w.heap.size w w' := by
  have H : Hid _ := hl
  clear hl
  have HS : Hid _ := cell?_alloc_old (.cells #[.int .i64 r2, .int .i64 q, .slice b lb cb] 63) (cell?_alloc_old (.cells #[.int .i64 r, .int .i64 c, .slice a l ca] 63) hs)
  clear hs
  unfold errAt at *
  have hne : ((r : Int) != r2) = true := by simpa using h
  go_enter Tryz.func76, Tryz.ntmps76
  go_wp2_with fail
  refine Calls.mono (check_ok r c a l ca _ hr hc H.out) ?_
  rintro e w1 ⟨rfl, hb1⟩
  have hA := holds_later (holds_new (holds_new (holds_nil w) #[.int .i64 r, .int .i64 c, .slice a l ca] 63) #[.int .i64 r2, .int .i64 q, .slice b lb cb] 63) hb1
  rw [World.size_alloc] at hA
  have c1 := cellAt (holds_at hA 1 rfl) 0 _ rfl
  have c2 := cellAt (holds_at hA 0 rfl) 0 _ rfl
  have c9 := cell_later hb1 HS.out
  have HB1 : Hid (Below w.heap.size w w1) := (((Below.refl w.heap.size w).alloc (Nat.le_refl _) _).alloc (by simp) _).trans (hb1.mono (by simp; omega))
  clear hb1 hA
  go_wp2
  go_region
  go_wp2
  refine bodyPost_ret (v := .tuple #[.slice none 0 0, .slice none 0 0, .iface 188 (.pointer (some s))]) (by simp [results, Tryz.results76, go_sem]) rfl ⟨rfl, HB1.out.drew⟩
theorem rowsW_rows8 {w : World} {M n c : Nat} {f : Nat → Option Addr × Nat} {R : Mt} (h : RowsW w M n c f R) : Rows8 w (some ⟨M, 0, none⟩) ((List.range n).map fun k => rowF c (R k)) := by
  refine .inr ⟨M, 0, rfl, fun j x hx => ?_⟩
  simp only [List.getElem?_map, Option.map_eq_some_iff] at hx
  obtain ⟨i, hi, rfl⟩ := hx
  obtain ⟨hjk, hi2⟩ := List.getElem?_eq_some_iff.1 hi
  simp only [List.length_range] at hjk
  simp only [List.getElem_range] at hi2
  subst hi2
  refine ⟨(f j).1, (f j).2, ?_, (h.row j hjk).row8⟩
  rw [Nat.zero_add, rowF_len]
  exact cellAt h.blk j _ (slF_at hjk)
set_option maxHeartbeats 4000000 in
theorem reduce_F (r c l cap : Nat) (a : Option Addr) (xs : List F) (w : World) (hr : r ≤ 64) (hc : c ≤ 64) (hl : l = r * c) (hx : xs.length = r * c) (hcap : l ≤ cap) (hX : Row8 w a xs) (hnil : a = none → cap = 0) :
    Calls Tryz.prog 56 #[.agg #[.int .i64 r, .int .i64 c, .slice a l cap]] w fun e w' => ∃ g m av cv p R', e = .returned (.tuple #[.agg #[.int .i64 r, .int .i64 c, .slice (some ⟨g, 0, none⟩) m m], .slice av p.length cv, .nilIface]) ∧
      m = r * c ∧ w.heap.size ≤ g ∧ w'.heap[g]? = some (.cells (vfs (grid c R' r)) 5 (0, 0)) ∧ w'.ownsRow w.heap.size 3 1 (.slice av p.length cv) p.length (natV p) ∧
      Red R' p r c ∧ RowsIn R' r (cellF c xs) r c ∧ RowsIn (cellF c xs) r R' r c ∧ Below w.heap.size w w' := by
  have HL : Hid _ := hl
  have HX : Hid _ := hx
  have HRX : Hid (Row8 w a xs) := hX
  have HNA : Hid _ := hnil
  clear hl hx hX hnil
  go_enter Tryz.func56, Tryz.ntmps56
  go_wp2_with fail
  have hal := (((Below.refl w.heap.size w).alloc (Nat.le_refl _) (.cells #[.int .i64 r, .int .i64 c, .slice a l cap] 63)).alloc (by simp) (.cells #[.int .i64 0, .int .i64 0, .slice none 0 0] 63))
  refine Calls.mono (eliminated_F r c 0 l cap 0 0 a none xs [] _ hr hc (by omega) HL.out HX.out hcap (row8_below HRX.out hal) HNA.out (by omega) (by simp) (by omega) (.inl rfl) (fun _ => rfl)) ?_
  rintro e w2 ⟨M, av, cv, p, f', R', rfl, hM, hown, hrw, hred, hin, hback, hb2⟩
  have hA := holds_later (holds_new (holds_new (holds_nil w) #[.int .i64 r, .int .i64 c, .slice a l cap] 63) #[.int .i64 0, .int .i64 0, .slice none 0 0] 63) hb2
  rw [World.size_alloc] at hA
  have HW2 : Hid (Below w.heap.size w w2) := hal.trans (hb2.mono (by simp; omega))
  have c1 := cellAt (holds_at hA 1 rfl) 1 _ rfl
  have HA : Hid _ := hA
  have H1 : Hid _ := hown
  have H2 : Hid _ := hrw
  have H3 : Hid _ := hred
  have H4 : Hid _ := hin
  have H5 : Hid _ := hback
  clear hA hown hrw hred hin hback hb2 hM
  go_wp2_with fail
  refine Calls.mono (of_F c r r _ ((List.range r).map fun k => rowF c (R' k)) _ hc (by simp) hr (fun x hx => ?_) (rowsW_rows8 H2.out)) ?_
  · obtain ⟨i, _, rfl⟩ := List.mem_map.1 hx
    exact rowF_len _ _
  rintro e w3 ⟨g, m, rfl, hm, hg, hh, hb3⟩
  rw [← grid_flat] at hh
  have hA3 := holds_alloc (holds_cons (holds_later HA.out hb3) hh) (.cells #[.int .i64 r, .int .i64 c, .slice (some ⟨g, 0, none⟩) m m] 63)
  have hsz2 := HW2.out.size
  have HW3 : Hid (Below w.heap.size w (w3.alloc (.cells #[.int .i64 r, .int .i64 c, .slice (some ⟨g, 0, none⟩) m m] 63))) := (HW2.out.trans (hb3.mono HW2.out.size)).alloc (Nat.le_trans HW2.out.size hb3.size) _
  have z0 := ltHeap (holds_at HA.out 0 rfl)
  have k1 := holds_at hA3 1 rfl
  have c4 := cellAt k1 0 _ rfl
  have c5 := cellAt k1 1 _ rfl
  have c6 := cellAt k1 2 _ rfl
  have d4 : (w3.alloc (.cells #[.int .i64 r, .int .i64 c, .slice (some ⟨g, 0, none⟩) m m] 63)).frozen? ⟨w.heap.size + 1, 0, none⟩ = false := frozen_of_row _ _ _ _ _ k1
  have d5 : (w3.alloc (.cells #[.int .i64 r, .int .i64 c, .slice (some ⟨g, 0, none⟩) m m] 63)).frozen? ⟨w.heap.size + 1, 1, none⟩ = false := frozen_of_row _ _ _ _ _ k1
  have d6 : (w3.alloc (.cells #[.int .i64 r, .int .i64 c, .slice (some ⟨g, 0, none⟩) m m] 63)).frozen? ⟨w.heap.size + 1, 2, none⟩ = false := frozen_of_row _ _ _ _ _ k1
  have HH : Hid ((w3.alloc (.cells #[.int .i64 r, .int .i64 c, .slice (some ⟨g, 0, none⟩) m m] 63)).heap[g]? = some (.cells (vfs (grid c R' r)) 5 (0, 0))) := holds_at hA3 0 rfl
  have HM : Hid _ := hm
  have HO : Hid _ := (own_below H1.out hb3).alloc (.cells #[.int .i64 r, .int .i64 c, .slice (some ⟨g, 0, none⟩) m m] 63)
  clear hm hh hb3 hA3 k1 c1
  go_wp2
  refine bodyPost_ret (v := .tuple #[.agg #[.int .i64 r, .int .i64 c, .slice (some ⟨g, 0, none⟩) m m], .slice av p.length cv, .nilIface]) (by simp [results, Tryz.results56, go_sem, c4, c5, c6]) rfl ⟨g, m, av, cv, p, R', rfl, HM.out, by omega, ?_, ?_, H3.out, ?_, ?_, ?_⟩
  · rw [heap_setCell_other _ _ _ _ (by show g ≠ w.heap.size + 1; omega), heap_setCell_other _ _ _ _ (by show g ≠ w.heap.size + 1; omega), heap_setCell_other _ _ _ _ (by show g ≠ w.heap.size + 1; omega)]
    exact HH.out
  · refine own_lower (ownsRow_setCell_below (ownsRow_setCell_below (ownsRow_setCell_below HO.out ?_ _) ?_ _) ?_ _) ?_ <;> simp; omega
  · exact RowsIn.congr_right H4.out fun i hi j hj => by simp [cellF, augL, hj]
  · exact RowsIn.congr_left H5.out fun i hi j hj => by simp [cellF, augL, hj]
  · exact ((HW3.out.setCell (by simp) _).setCell (by simp) _).setCell (by simp) _
set_option maxHeartbeats 2000000 in
theorem reduce_bad (r c : Int) (l cap : Nat) (a : Option Addr) (w : World) (s : Addr) (hs : w.cell? ⟨2, 0, none⟩ = some (errAt s)) (h : ¬ FormOk r c l) :
    Calls Tryz.prog 56 #[.agg #[.int .i64 r, .int .i64 c, .slice a l cap]] w fun e w' => e = .returned (.tuple #[.agg #[.int .i64 0, .int .i64 0, .slice none 0 0], .slice none 0 0, errAt s]) ∧ Below w.heap.size w w' := by
  have H : Hid _ := h
  clear h
  have HS : Hid _ := cell?_alloc_old (.cells #[.int .i64 0, .int .i64 0, .slice none 0 0] 63) (cell?_alloc_old (.cells #[.int .i64 r, .int .i64 c, .slice a l cap] 63) hs)
  clear hs
  go_enter Tryz.func56, Tryz.ntmps56
  go_wp2_with fail
  refine Calls.mono (eliminated_bad r c r 0 l cap 0 0 a none _ s HS.out H.out) ?_
  rintro e w2 ⟨rfl, hb2⟩
  have hal := (((Below.refl w.heap.size w).alloc (Nat.le_refl _) (.cells #[.int .i64 r, .int .i64 c, .slice a l cap] 63)).alloc (by simp) (.cells #[.int .i64 0, .int .i64 0, .slice none 0 0] 63))
  have hA := holds_later (holds_new (holds_new (holds_nil w) #[.int .i64 r, .int .i64 c, .slice a l cap] 63) #[.int .i64 0, .int .i64 0, .slice none 0 0] 63) hb2
  rw [World.size_alloc] at hA
  have HW2 : Hid (Below w.heap.size w w2) := hal.trans (hb2.mono (by simp; omega))
  have k1 := holds_at hA 0 rfl
  have c4 := cellAt k1 0 _ rfl
  have c5 := cellAt k1 1 _ rfl
  have c6 := cellAt k1 2 _ rfl
  have d4 : w2.frozen? ⟨w.heap.size + 1, 0, none⟩ = false := frozen_of_row _ _ _ _ _ k1
  have d5 : w2.frozen? ⟨w.heap.size + 1, 1, none⟩ = false := frozen_of_row _ _ _ _ _ k1
  have d6 : w2.frozen? ⟨w.heap.size + 1, 2, none⟩ = false := frozen_of_row _ _ _ _ _ k1
  unfold errAt at *
  clear hA k1 hb2 hal
  go_wp2
  refine bodyPost_ret (v := .tuple #[.agg #[.int .i64 0, .int .i64 0, .slice none 0 0], .slice none 0 0, .iface 188 (.pointer (some s))]) (by simp [results, Tryz.results56, go_sem, c4, c5, c6]) rfl ⟨rfl, ?_⟩
  exact ((HW2.out.setCell (by simp) _).setCell (by simp) _).setCell (by simp) _
/-- the rank, as the program tells it -/
theorem rank_F (r c l cap : Nat) (a : Option Addr) (xs : List F) (w : World) (hr : r ≤ 64) (hc : c ≤ 64) (hl : l = r * c) (hx : xs.length = r * c) (hcap : l ≤ cap) (hX : Row8 w a xs) (hnil : a = none → cap = 0) :
    Calls Tryz.prog 36 #[.agg #[.int .i64 r, .int .i64 c, .slice a l cap]] w fun e w' => e = .returned (.tuple #[.int .i64 (pivL (cellF c xs) r c).length, .nilIface]) ∧ Below w.heap.size w w' := by
  have HL : Hid _ := hl
  have HX : Hid _ := hx
  have HRX : Hid (Row8 w a xs) := hX
  have HNA : Hid _ := hnil
  clear hl hx hX hnil
  go_enter Tryz.func36, Tryz.ntmps36
  go_wp2_with fail
  refine Calls.mono (reduce_F r c l cap a xs _ hr hc HL.out HX.out hcap (row8_alloc HRX.out _) HNA.out) ?_
  rintro e w2 ⟨g, m, av, cv, p, R', rfl, _, _, _, _, hred, hin, hback, hb2⟩
  have hp := hred.eq hin hback (Nat.le_refl _)
  have HP : Hid _ := hp
  have HW2 : Hid (Below w.heap.size w w2) := ((Below.refl w.heap.size w).alloc (Nat.le_refl _) _).trans (hb2.mono (by simp))
  clear hp hred hin hback hb2
  go_wp2
  go_ret2
  exact ⟨by rw [HP.out]; rfl, HW2.out.alloc HW2.out.size _⟩
theorem rank_bad (r c : Int) (l cap : Nat) (a : Option Addr) (w : World) (s : Addr) (hs : w.cell? ⟨2, 0, none⟩ = some (errAt s)) (h : ¬ FormOk r c l) :
    Calls Tryz.prog 36 #[.agg #[.int .i64 r, .int .i64 c, .slice a l cap]] w fun e w' => e = .returned (.tuple #[.int .i64 0, errAt s]) ∧ Below w.heap.size w w' := by
  have H : Hid _ := h
  have HS : Hid _ := cell?_alloc_old (.cells #[.int .i64 r, .int .i64 c, .slice a l cap] 63) hs
  clear h hs
  go_enter Tryz.func36, Tryz.ntmps36
  go_wp2_with fail
  refine Calls.mono (reduce_bad r c l cap a _ s HS.out H.out) ?_
  rintro e w2 ⟨rfl, hb2⟩
  have HW2 : Hid (Below w.heap.size w w2) := ((Below.refl w.heap.size w).alloc (Nat.le_refl _) _).trans (hb2.mono (by simp))
  unfold errAt at *
  clear hb2
  go_wp2
  go_ret2
  exact ⟨rfl, HW2.out.alloc HW2.out.size _⟩
theorem cellF_tr {r c : Nat} {xs : List F} : ∀ i, i < c → ∀ j, j < r → cellF r (trM r c xs) i j = tr (cellF c xs) i j := fun i hi j hj => by
  simp only [cellF, tr, trM]; exact at8_grid hi hj
end Go.Proofs.YtjmbpldkggbdlaaGreatDoor
