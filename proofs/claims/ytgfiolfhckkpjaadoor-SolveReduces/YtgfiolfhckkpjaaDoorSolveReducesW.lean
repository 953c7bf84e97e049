/- The walk of the statement SolveReduces: it returns true of all matrices. -/
import Derived.Test.YtgfiolfhckkpjaaDoorSolveG
import Derived.Test.YtgfiolfhckkpjaaDoorMatAl
import Derived.Test.YtgfiolfhckkpjaaDoorMatOf
import Derived.Test.YtgfiolfhckkpjaaDoorMatSq
import Derived.Test.YtgfiolfhckkpjaaDoorHolds
import Derived.Test.YtgfiolfhckkpjaaDoorNumKept
import Derived.Test.YtgfiolfhckkpjaaDoorRegHeld
import Derived.Test.YtgfiolfhckkpjaaDoorSolveL
import Derived.Test.YtgfiolfhckkpjaaDoorGfRefW
import Derived.Test.YtgfiolfhckkpjaaDoorGfApp
import Derived.Deep.DeepCutAuto
import Derived.Test.YtgfiolfhckkpjaaDoorMatTake
import Derived.Test.YtgfiolfhckkpjaaDoorNumApart
import Derived.Laws.OwnMore
import Derived.Test.YtgfiolfhckkpjaaDoorRef2
import Derived.Test.YtgfiolfhckkpjaaDoorMatRow
import Derived.Test.YtgfiolfhckkpjaaDoorSolveF
import Derived.Test.YtgfiolfhckkpjaaDoorOwn
import Derived.Test.YtgfiolfhckkpjaaDoorErrs
/- What Solve answers of lists of another length, and what Express answers. -/
namespace Go.Proofs.YtgfiolfhckkpjaaDoor
open Go.RowKit Gf
set_option linter.unusedVariables false
set_option maxRecDepth 20000
theorem SolOf.congr {A B : Mt} {r c : Nat} {v x : Nat → F} (h : SolOf A r c v x) (e : ∀ i, i < r → ∀ j, j < c → A i j = B i j) : SolOf B r c v x :=
  ⟨fun i hi => (h.sol i hi).trans (sumF_congr fun l hl => by rw [e i hi l hl]), fun l hl hn => h.off l hl (by rw [pivL_congr e]; exact hn)⟩
theorem Dep.congr {A B : Mt} {n c : Nat} {b : Nat → F} (h : Dep A n c b) (e : ∀ i, i < n → ∀ j, j < c → A i j = B i j) : Dep B n c b := by
  obtain ⟨x, hx⟩ := h
  exact ⟨x, fun i hi => (hx i hi).trans (sumF_congr fun l hl => by rw [e i hi l hl])⟩
/-- the answer of Solve or Express where the arguments don't fit -/
def noSol (s : Addr) : Value := .tuple #[.slice none 0 0, .bool false, errAt s]
theorem FormOk.nat {r c : Int} {l : Nat} (h : FormOk r c l) : ∃ r' c' : Nat, r = r' ∧ c = c' ∧ r' ≤ 64 ∧ c' ≤ 64 ∧ l = r' * c' := by
  obtain ⟨h0, h1, h2, h3, h4⟩ := h
  obtain ⟨r', rfl⟩ := Int.eq_ofNat_of_zero_le h0
  obtain ⟨c', rfl⟩ := Int.eq_ofNat_of_zero_le h2
  exact ⟨r', c', rfl, rfl, by omega, by omega, by exact_mod_cast h4⟩
end Go.Proofs.YtgfiolfhckkpjaaDoor

/- What Inverse of package solve answers, of all matrices. -/
namespace Go.Proofs.YtgfiolfhckkpjaaDoor
open Go.RowKit Gf
set_option linter.unusedVariables false
set_option maxRecDepth 20000
def slX (n : Nat) (g : Nat → Value) : Array Value := ((List.range n).map g).toArray
theorem slX_size (n : Nat) (g : Nat → Value) : (slX n g).size = n := by simp [slX]
theorem slX_at {n k : Nat} {g : Nat → Value} (h : k < n) : (slX n g)[k]? = some (g k) := by simp [slX, h]
theorem slX_set {n k : Nat} {g : Nat → Value} (v : Value) (h : k < n) : (slX n g).setIfInBounds k v = slX n (fun x => if x = k then v else g x) := by
  apply Array.ext_getElem?
  intro i
  rw [Array.getElem?_setIfInBounds]
  by_cases hi : i < n
  · rw [slX_at hi, slX_at hi, slX_size]
    by_cases e : k = i
    · subst e; simp [hi]
    · simp [e, show ¬ i = k from fun h => e h.symm]
  · rw [Array.getElem?_eq_none (by rw [slX_size]; omega), Array.getElem?_eq_none (by rw [slX_size]; omega), slX_size]
    simp; omega
theorem augL_one {n : Nat} {xs : List F} : ∀ i, i < n → ∀ j, j < n + n → augL n n xs (oneM n) i j = augI n (cellF n xs) i j := fun i hi j hj => by
  simp only [augL, augI, cellF]
  by_cases h : j < n
  · rw [if_pos h, if_pos h]
  · rw [if_neg h, if_neg h, oneM, at8_grid hi (by omega)]
    by_cases e : i = j - n
    · rw [if_pos e, if_pos (by omega)]
    · rw [if_neg e, if_neg (by omega)]
theorem row8T_tail {w : World} {b off n c : Nat} {f : Nat → F} (h : Row8T w (some ⟨b, off, none⟩) (rowF (c + n) f)) (hn : 0 < n) : Row8T w (some ⟨b, off + c, none⟩) (rowF n fun j => f (c + j)) := by
  rcases h with e | ⟨b', off', cs, fr, e, hb, h⟩
  · have := congrArg List.length e
    rw [rowF_len] at this
    simp at this; omega
  · cases e
    refine .inr ⟨b, off + c, cs, fr, rfl, hb, fun j hj => ?_⟩
    rw [rowF_len] at hj
    have := h (c + j) (by rw [rowF_len]; omega)
    rw [at8_rowF (by omega)] at this
    rw [at8_rowF hj, Nat.add_assoc]
    exact this
/-- a matrix that undoes another one, on either side -/
structure InvOf (n : Nat) (A B : Mt) : Prop where
  right : ∀ i, i < n → ∀ j, j < n → mulF n A B i j = if i = j then 1 else 0
  left : ∀ i, i < n → ∀ j, j < n → mulF n B A i j = if i = j then 1 else 0
set_option maxHeartbeats 8000000 in
theorem inverse_F (n l cap : Nat) (a : Option Addr) (xs : List F) (w : World) (hn : n ≤ 64) (hl : l = n * n) (hx : xs.length = n * n) (hcap : l ≤ cap) (hX : Row8 w a xs) (hnil : a = none → cap = 0) (s : Addr) (hs : w.cell? ⟨2, 0, none⟩ = some (errAt s)) :
    Calls Tryd.prog 40 #[.agg #[.int .i64 n, .int .i64 n, .slice a l cap]] w fun e w' =>
      ((pivL (cellF n xs) n n).length = n ∧ ∃ g m Y, e = .returned (.tuple #[.agg #[.int .i64 n, .int .i64 n, .slice (some ⟨g, 0, none⟩) m m], .nilIface]) ∧ m = n * n ∧ w.heap.size ≤ g ∧ w'.heap[g]? = some (.cells (vfs (grid n Y n)) 5 (0, 0)) ∧ InvOf n (cellF n xs) Y ∧ Below w.heap.size w w') ∨
      ((pivL (cellF n xs) n n).length ≠ n ∧ e = .returned (.tuple #[.agg #[.int .i64 0, .int .i64 0, .slice none 0 0], errAt s]) ∧ Below w.heap.size w w') := by
  have HL : Hid _ := hl
  have HX : Hid _ := hx
  have HRX : Hid (Row8 w a xs) := hX
  have HNA : Hid _ := hnil
  have HS : Hid _ := hs
  have hlt0 := World.block_lt_of_cell? w _ hs
  simp at hlt0
  clear hl hx hX hnil hs
  go_enter Tryd.func40, Tryd.ntmps40
  go_wp2_with fail
  refine Calls.mono (one_F n _ hn) ?_
  rintro e w2 ⟨g1, n1, rfl, hn1, hg1, hh1, hb2⟩
  have hal := (((Below.refl w.heap.size w).alloc (Nat.le_refl _) (.cells #[.int .i64 n, .int .i64 n, .slice a l cap] 24)).alloc (by simp) (.cells #[.int .i64 0, .int .i64 0, .slice none 0 0] 24))
  have hA := holds_cons (holds_later (holds_new (holds_new (holds_nil w) #[.int .i64 n, .int .i64 n, .slice a l cap] 24) #[.int .i64 0, .int .i64 0, .slice none 0 0] 24) hb2) hh1
  rw [World.size_alloc] at hA
  have HW2 : Hid (Below w.heap.size w w2) := hal.trans (hb2.mono (by simp; omega))
  have hA := holds_new hA #[.int .i64 n, .int .i64 n, .slice (some ⟨g1, 0, none⟩) n1 n1] 24
  have HW3 : Hid (Below w.heap.size w (w2.alloc (.cells #[.int .i64 n, .int .i64 n, .slice (some ⟨g1, 0, none⟩) n1 n1] 24))) := HW2.out.alloc HW2.out.size _
  have hsz : w.heap.size + 2 ≤ w2.heap.size := by have := hb2.size; simpa using this
  have c1 := cellAt (holds_at hA 0 rfl) 0 _ rfl
  have c2 := cellAt (holds_at hA 0 rfl) 1 _ rfl
  have c3 := cellAt (holds_at hA 0 rfl) 2 _ rfl
  have c4 := cellAt (holds_at hA 3 rfl) 0 _ rfl
  have c5 := cellAt (holds_at hA 3 rfl) 1 _ rfl
  have c6 := cellAt (holds_at hA 3 rfl) 2 _ rfl
  have HA : Hid _ := hA
  have HN1 : Hid _ := hn1
  clear hn1 hh1 hb2 hA HW2 hal
  go_wp2_with fail
  refine Calls.mono (eliminated_F n n n l cap n1 n1 a (some ⟨g1, 0, none⟩) xs (oneM n) _ hn hn hn HL.out HX.out hcap (row8_below HRX.out HW3.out) HNA.out HN1.out (by simp [oneM, grid_len]) (Nat.le_refl _) (holds_row HA.out 1 rfl) (fun h => by cases h)) ?_
  rintro e w4 ⟨M, av, cv, p, f', R', rfl, hM, hown, hrw, hred, hin, hback, hb4⟩
  have hA := holds_later HA.out hb4
  have hp : p = pivL (cellF n xs) n n := (hred.eq hin hback (by omega)).trans (pivL_congr fun i hi j hj => by simp [augL, cellF, hj])
  have hin2 := RowsIn.congr_right hin (A' := augI n (cellF n xs)) fun i hi j hj => (augL_one i hi j hj).symm
  have hback2 := RowsIn.congr_left hback (B' := augI n (cellF n xs)) fun i hi j hj => (augL_one i hi j hj).symm
  have HP : Hid _ := hp
  have HRW : Hid _ := hrw
  have HRED : Hid _ := hred
  have HIN : Hid _ := hin2
  have HBACK : Hid _ := hback2
  have HA4 : Hid _ := hA
  have HW4 : Hid (Below w.heap.size w w4) := HW3.out.trans (hb4.mono HW3.out.size)
  have hM2 : w2.heap.size + 1 ≤ M := by simpa using hM
  have hplen := hred.len
  have c1' := cellAt (holds_at hA 3 rfl) 1 _ rfl
  have k1 := holds_at hA 2 rfl
  clear hA hown hrw hred hin hback hin2 hback2 hb4 hp c1 c2 c3 c4 c5 c6 hM
  by_cases hfull : p.length = n
  · have HFULL : Hid _ := hfull
    rw [hfull]
    clear hfull
    go_wp2
    go_loopw [40] (fun i wr => ∃ (k : Nat) (g : Nat → Value), k ≤ n ∧ i = .int .i64 k ∧ w4.grownBy wr (some M) ∧ wr.heap[M]? = some (.cells (slX n g) 22 (0, 0)) ∧
      (∀ x, x < k → ∃ a' cap', g x = .slice a' n cap' ∧ Row8T wr a' (rowF n fun j => R' x (n + j))) ∧ ∀ x, k ≤ x → x < n → g x = .slice (f' x).1 (n + n) (f' x).2) (fun i _ => n - (intOf i).toNat)
    case atStart => exact ⟨0, fun x => .slice (f' x).1 (n + n) (f' x).2, by omega, rfl, World.grownBy.refl _ _, HRW.out.blk, fun x h => by omega, fun x _ _ => rfl⟩
    case round =>
      obtain ⟨k, g, hk, rfl, hgb, hs, hdone, hrest⟩ := hrel
      have HGB : Hid _ := hgb
      have HSS : Hid _ := hs
      have HDONE : Hid _ := hdone
      have HREST : Hid _ := hrest
      have zM := ltHeap HRW.out.blk
      have z0 := ltHeap (holds_at HA4.out 3 rfl)
      have c2 := cellAt (grown_block hgb (holds_at HA4.out 3 rfl) (by omega)) 1 _ rfl
      by_cases hlt : k < n
      · have c3 := cellAt hs k _ (slX_at hlt)
        rw [hrest k (Nat.le_refl _) hlt] at c3
        obtain ⟨bo, oo, mo, hfo, hmo, hboM, hbo, _, _⟩ := HRW.out.get hlt (show 0 < n + n by omega)
        rw [hfo] at c3
        have d3 : wr.frozen? ⟨M, k, none⟩ = false := frozen_of_row _ _ _ _ _ hs
        have HFO : Hid _ := hfo
        have hmn : n < mo := by omega
        have hNE : NoElems wr (some M) := noElems_some hs (by decide)
        have hgS : wr.grownBy (wr.setCell ⟨M, k, none⟩ (.slice (some ⟨bo, oo + n, none⟩) n (mo - n))) (some M) := grownBy_setCell (World.grownBy.refl _ _) _
        have hrow := row8T_grown (HRW.out.row k hlt) hgb (noElems_some HRW.out.blk (by decide))
        rw [hfo] at hrow
        have HROW : Hid _ := row8T_grown (row8T_tail hrow (by omega)) hgS hNE
        have HS1 : Hid ((wr.setCell ⟨M, k, none⟩ (.slice (some ⟨bo, oo + n, none⟩) n (mo - n))).heap[M]? = some (.cells (slX n fun x => if x = k then .slice (some ⟨bo, oo + n, none⟩) n (mo - n) else g x) 22 (0, 0))) := by
          show _ = _
          rw [heap_setCell_same _ _ _ _ _ _ hs, slX_set _ hlt]
        have HGS : Hid _ := hgS
        have HNE : Hid _ := hNE
        clear hgb hs hdone hrest hfo hgS hNE hrow
        go_wp2
        refine ⟨⟨k + 1, _, by omega, by go_num, grownBy_setCell HGB.out _, HS1.out, fun x hx => ?_, fun x h1 h2 => ?_⟩, by simp [intOf]; omega⟩
        · by_cases e : x = k
          · subst e
            rw [if_pos rfl]
            exact ⟨_, _, rfl, HROW.out⟩
          · rw [if_neg e]
            obtain ⟨a', cap', h1, h2⟩ := HDONE.out x (by omega)
            exact ⟨a', cap', h1, row8T_grown h2 HGS.out HNE.out⟩
        · show (if x = k then _ else g x) = _
          rw [if_neg (by omega)]
          exact HREST.out x (by omega) h2
      · obtain rfl : k = n := by omega
        have hW : Below w.heap.size w wr := below_grown HW4.out hgb (by omega)
        have HW5 : Hid _ := hW
        have hA5 : Holds wr [(w.heap.size + 1, .cells #[.int .i64 0, .int .i64 0, .slice none 0 0] 24 (0, 0))] := holds_cons (holds_nil _) (grown_block hgb (holds_at HA4.out 2 rfl) (by omega))
        have HA5 : Hid _ := hA5
        clear hgb hs hdone hrest hA5 hW
        have HR8 : Hid (Rows8 wr (some ⟨M, 0, none⟩) ((List.range k).map fun x => rowF k fun j => R' x (k + j))) := .inr ⟨M, 0, rfl, fun j x hx => by
          simp only [List.getElem?_map, Option.map_eq_some_iff] at hx
          obtain ⟨i, hi, rfl⟩ := hx
          obtain ⟨hjk, hi2⟩ := List.getElem?_eq_some_iff.1 hi
          simp only [List.length_range] at hjk
          simp only [List.getElem_range] at hi2
          subst hi2
          obtain ⟨a', cap', h1, h2⟩ := HDONE.out j hjk
          refine ⟨a', cap', ?_, h2.row8⟩
          rw [Nat.zero_add, rowF_len, ← h1]
          exact cellAt HSS.out j _ (slX_at hjk)⟩
        go_wp2_with fail
        refine Calls.mono (of_F k k k _ ((List.range k).map fun x => rowF k fun j => R' x (k + j)) _ hn (by simp) hn (fun x hx => ?_) HR8.out) ?_
        · obtain ⟨i, _, rfl⟩ := List.mem_map.1 hx
          exact rowF_len _ _
        rintro e w5 ⟨g5, m5, rfl, hm5, hg5, hh5, hb5⟩
        rw [← grid_flat k (fun x j => R' x (k + j))] at hh5
        have k1 := holds_at (holds_later HA5.out hb5) 0 rfl
        have c4 := cellAt k1 0 _ rfl
        have c5 := cellAt k1 1 _ rfl
        have c6 := cellAt k1 2 _ rfl
        have d4 : w5.frozen? ⟨w.heap.size + 1, 0, none⟩ = false := frozen_of_row _ _ _ _ _ k1
        have d5 : w5.frozen? ⟨w.heap.size + 1, 1, none⟩ = false := frozen_of_row _ _ _ _ _ k1
        have d6 : w5.frozen? ⟨w.heap.size + 1, 2, none⟩ = false := frozen_of_row _ _ _ _ _ k1
        have hgw : w.heap.size + 1 < g5 := by have := ltHeap (holds_at HA5.out 0 rfl); omega
        have HW6 : Hid (Below w.heap.size w w5) := HW5.out.trans (hb5.mono HW5.out.size)
        have HH5 : Hid _ := hh5
        have HM5 : Hid _ := hm5
        clear hh5 hm5 hb5 hg5 k1 c2
        go_wp2
        refine bodyPost_ret (v := .tuple #[.agg #[.int .i64 k, .int .i64 k, .slice (some ⟨g5, 0, none⟩) m5 m5], .nilIface]) (by simp [results, Tryd.results40, go_sem, c4, c5, c6]) rfl ?_
        refine .inl ⟨by rw [← HP.out]; exact HFULL.out, g5, m5, fun x j => R' x (k + j), rfl, HM5.out, by omega, ?_, ⟨inv_right HRED.out HFULL.out HBACK.out, inv_left HRED.out HFULL.out HIN.out⟩, ?_⟩
        · rw [heap_setCell_other _ _ _ _ (by show g5 ≠ w.heap.size + 1; omega), heap_setCell_other _ _ _ _ (by show g5 ≠ w.heap.size + 1; omega), heap_setCell_other _ _ _ _ (by show g5 ≠ w.heap.size + 1; omega)]
          exact HH5.out
        · exact ((HW6.out.setCell (by simp) _).setCell (by simp) _).setCell (by simp) _
  · have hlt : p.length < n := by omega
    have c4 := cellAt k1 0 _ rfl
    have c5 := cellAt k1 1 _ rfl
    have c6 := cellAt k1 2 _ rfl
    have d4 : w4.frozen? ⟨w.heap.size + 1, 0, none⟩ = false := frozen_of_row _ _ _ _ _ k1
    have d5 : w4.frozen? ⟨w.heap.size + 1, 1, none⟩ = false := frozen_of_row _ _ _ _ _ k1
    have d6 : w4.frozen? ⟨w.heap.size + 1, 2, none⟩ = false := frozen_of_row _ _ _ _ _ k1
    have c9 := cell_later HW4.out HS.out
    have HNF : Hid _ := hfull
    unfold errAt at *
    clear hfull k1
    go_wp2
    go_region
    go_wp2
    refine bodyPost_ret (v := .tuple #[.agg #[.int .i64 0, .int .i64 0, .slice none 0 0], .iface 95 (.pointer (some s))]) (by simp [results, Tryd.results40, go_sem, c4, c5, c6]) rfl ?_
    exact .inr ⟨by rw [← HP.out]; exact HNF.out, rfl, (((HW4.out.setCell (by simp) _).setCell (by simp) _).setCell (by simp) _).drew⟩
set_option maxHeartbeats 2000000 in
theorem inverse_bad (r c : Int) (l cap : Nat) (a : Option Addr) (w : World) (s : Addr) (hs : w.cell? ⟨0, 0, none⟩ = some (errAt s)) (h : ¬ (FormOk r c l ∧ r = c)) :
    Calls Tryd.prog 40 #[.agg #[.int .i64 r, .int .i64 c, .slice a l cap]] w fun e w' => e = .returned (.tuple #[.agg #[.int .i64 0, .int .i64 0, .slice none 0 0], errAt s]) ∧ Below w.heap.size w w' := by
  have H : Hid _ := h
  have hlt0 := World.block_lt_of_cell? w _ hs
  simp at hlt0
  have HS : Hid _ := cell?_alloc_old (.cells #[.int .i64 0, .int .i64 0, .slice none 0 0] 24) (cell?_alloc_old (.cells #[.int .i64 r, .int .i64 c, .slice a l cap] 24) hs)
  have hal := (((Below.refl w.heap.size w).alloc (Nat.le_refl _) (.cells #[.int .i64 r, .int .i64 c, .slice a l cap] 24)).alloc (by simp) (.cells #[.int .i64 0, .int .i64 0, .slice none 0 0] 24))
  clear h hs
  by_cases hc : 0 ≤ c ∧ c ≤ 64
  · obtain ⟨h0, h1⟩ := hc
    obtain ⟨n, rfl⟩ := Int.eq_ofNat_of_zero_le h0
    go_enter Tryd.func40, Tryd.ntmps40
    go_wp2_with fail
    refine Calls.mono (one_F n _ (by omega)) ?_
    rintro e w2 ⟨g1, n1, rfl, hn1, hg1, hh1, hb2⟩
    have hA := holds_cons (holds_later (holds_new (holds_new (holds_nil w) #[.int .i64 r, .int .i64 n, .slice a l cap] 24) #[.int .i64 0, .int .i64 0, .slice none 0 0] 24) hb2) hh1
    rw [World.size_alloc] at hA
    have HW2 : Hid (Below w.heap.size w w2) := hal.trans (hb2.mono (by simp; omega))
    have hA := holds_new hA #[.int .i64 n, .int .i64 n, .slice (some ⟨g1, 0, none⟩) n1 n1] 24
    have HW3 : Hid (Below w.heap.size w (w2.alloc (.cells #[.int .i64 n, .int .i64 n, .slice (some ⟨g1, 0, none⟩) n1 n1] 24))) := HW2.out.alloc HW2.out.size _
    have hsz : w.heap.size + 2 ≤ w2.heap.size := by have := hb2.size; simpa using this
    have c1 := cellAt (holds_at hA 0 rfl) 0 _ rfl
    have c2 := cellAt (holds_at hA 0 rfl) 1 _ rfl
    have c3 := cellAt (holds_at hA 0 rfl) 2 _ rfl
    have c4 := cellAt (holds_at hA 3 rfl) 0 _ rfl
    have c5 := cellAt (holds_at hA 3 rfl) 1 _ rfl
    have c6 := cellAt (holds_at hA 3 rfl) 2 _ rfl
    have HA : Hid _ := hA
    have HS3 : Hid _ := cell?_alloc_old (.cells #[.int .i64 n, .int .i64 n, .slice (some ⟨g1, 0, none⟩) n1 n1] 24) (cell_later hb2 HS.out)
    have HE : Hid (Calls Tryd.prog 41 #[.agg #[.int .i64 r, .int .i64 n, .slice a l cap], .agg #[.int .i64 n, .int .i64 n, .slice (some ⟨g1, 0, none⟩) n1 n1]] (w2.alloc (.cells #[.int .i64 n, .int .i64 n, .slice (some ⟨g1, 0, none⟩) n1 n1] 24)) fun e w' =>
        e = .returned (.tuple #[.slice none 0 0, .slice none 0 0, errAt s]) ∧ Below (w2.alloc (.cells #[.int .i64 n, .int .i64 n, .slice (some ⟨g1, 0, none⟩) n1 n1] 24)).heap.size (w2.alloc (.cells #[.int .i64 n, .int .i64 n, .slice (some ⟨g1, 0, none⟩) n1 n1] 24)) w') := by
      by_cases hf : FormOk r n l
      · obtain ⟨r', c', rfl, hc, h1, h2, h3⟩ := hf.nat
        have hc : n = c' := by omega
        subst hc
        exact eliminated_odd r' n n n l cap n1 n1 a _ _ s HS3.out h1 h2 h3 (fun e => H.out ⟨hf, e⟩)
      · exact eliminated_bad r n n n l cap n1 n1 a _ _ s HS3.out hf
    clear hn1 hh1 hb2 hA HW2 hal H
    go_wp2_with fail
    refine Calls.mono HE.out ?_
    rintro e w4 ⟨rfl, hb4⟩
    have k1 := holds_at (holds_later HA.out hb4) 2 rfl
    have HW4 : Hid (Below w.heap.size w w4) := HW3.out.trans (hb4.mono HW3.out.size)
    have b4 := cellAt k1 0 _ rfl
    have b5 := cellAt k1 1 _ rfl
    have b6 := cellAt k1 2 _ rfl
    have d4 : w4.frozen? ⟨w.heap.size + 1, 0, none⟩ = false := frozen_of_row _ _ _ _ _ k1
    have d5 : w4.frozen? ⟨w.heap.size + 1, 1, none⟩ = false := frozen_of_row _ _ _ _ _ k1
    have d6 : w4.frozen? ⟨w.heap.size + 1, 2, none⟩ = false := frozen_of_row _ _ _ _ _ k1
    unfold errAt at *
    clear k1 hb4 c1 c2 c3 c4 c5 c6 HE
    go_wp2
    refine bodyPost_ret (v := .tuple #[.agg #[.int .i64 0, .int .i64 0, .slice none 0 0], .iface 95 (.pointer (some s))]) (by simp [results, Tryd.results40, go_sem, b4, b5, b6]) rfl ?_
    exact ⟨rfl, ((HW4.out.setCell (by simp) _).setCell (by simp) _).setCell (by simp) _⟩
  · have HC : Hid _ := hc
    clear hc H
    go_enter Tryd.func40, Tryd.ntmps40
    go_wp2_with fail
    refine Calls.mono (one_bad c _ s HS.out HC.out) ?_
    rintro e w2 ⟨rfl, hb2⟩
    have hA := holds_later (holds_new (holds_new (holds_nil w) #[.int .i64 r, .int .i64 c, .slice a l cap] 24) #[.int .i64 0, .int .i64 0, .slice none 0 0] 24) hb2
    rw [World.size_alloc] at hA
    have HW2 : Hid (Below w.heap.size w w2) := hal.trans (hb2.mono (by simp; omega))
    have hA := holds_alloc hA (.cells #[.int .i64 0, .int .i64 0, .slice none 0 0] 24)
    have k1 := holds_at hA 0 rfl
    have b4 := cellAt k1 0 _ rfl
    have b5 := cellAt k1 1 _ rfl
    have b6 := cellAt k1 2 _ rfl
    have d4 : (w2.alloc (.cells #[.int .i64 0, .int .i64 0, .slice none 0 0] 24)).frozen? ⟨w.heap.size + 1, 0, none⟩ = false := frozen_of_row _ _ _ _ _ k1
    have d5 : (w2.alloc (.cells #[.int .i64 0, .int .i64 0, .slice none 0 0] 24)).frozen? ⟨w.heap.size + 1, 1, none⟩ = false := frozen_of_row _ _ _ _ _ k1
    have d6 : (w2.alloc (.cells #[.int .i64 0, .int .i64 0, .slice none 0 0] 24)).frozen? ⟨w.heap.size + 1, 2, none⟩ = false := frozen_of_row _ _ _ _ _ k1
    have HW3 : Hid (Below w.heap.size w (w2.alloc (.cells #[.int .i64 0, .int .i64 0, .slice none 0 0] 24))) := HW2.out.alloc HW2.out.size _
    unfold errAt at *
    clear hA k1 hb2
    go_wp2
    refine bodyPost_ret (v := .tuple #[.agg #[.int .i64 0, .int .i64 0, .slice none 0 0], .iface 95 (.pointer (some s))]) (by simp [results, Tryd.results40, go_sem, b4, b5, b6]) rfl ?_
    exact ⟨rfl, ((HW3.out.setCell (by simp) _).setCell (by simp) _).setCell (by simp) _⟩
end Go.Proofs.YtgfiolfhckkpjaaDoor

/- The chapter's worked answers of package solve hold: the function 'alive' of the statements returns true. -/
namespace Go.Proofs.YtgfiolfhckkpjaaDoor
open Go.RowKit Gf
set_option linter.unusedVariables false
set_option maxRecDepth 20000
def gsSolve : List Nat := [0, 2, 11]
theorem alive_rank : (pivL (cellF 2 [1, 1, 1, 1, 0, 1]) 3 2).length = 2 := by
  have e : pivL (cellF 2 [1, 1, 1, 1, 0, 1]) 3 2 = List.range 2 := by
    refine sorted_eq (pivL_up _ _ _) List.pairwise_lt_range fun i => ?_
    rw [mem_pivL, List.mem_range]
    refine ⟨fun h => h.1, fun hi => ⟨hi, fun ⟨x, hx⟩ => ?_⟩⟩
    rcases (show i = 0 ∨ i = 1 by omega) with rfl | rfl
    · have := hx 0 (by omega)
      exact F.one_ne_zero this
    · have := hx 2 (by omega)
      have e2 : sumF (fun l => gm (cellF 2 [1, 1, 1, 1, 0, 1] 2 l) (x l)) 1 = 0 := by
        show ga 0 (gm 0 (x 0)) = 0
        simp
      rw [e2] at this
      exact F.one_ne_zero this
  rw [e]; rfl
theorem alive_self : ∀ i, i < 2 → ∀ j, j < 2 → mulF 2 (cellF 2 [1, 2, 0, 1]) (cellF 2 [1, 2, 0, 1]) i j = if i = j then 1 else 0 := by decide +kernel
theorem alive_inv {Y : Mt} (h : InvOf 2 (cellF 2 [1, 2, 0, 1]) Y) : grid 2 Y 2 = [1, 2, 0, 1] := by
  rw [grid_congr (g := cellF 2 [1, 2, 0, 1]) (fun i j hi hj => inv_same h.left alive_self i hi j hj)]
  decide +kernel
set_option maxHeartbeats 2000000 in
theorem alive3_ok (w : World) (s : Addr) (hs : w.cell? ⟨2, 0, none⟩ = some (errAt s)) : Calls Tryd.prog 17 #[] w fun e w' => e = .returned (.bool true) ∧ Below w.heap.size w w' := by
  have HS : Hid _ := hs
  clear hs
  go_enter Tryd.func17, Tryd.ntmps17
  go_wp2_with fail
  have h1 : (w.alloc (.cells #[.int .u8 1, .int .u8 1, .int .u8 1, .int .u8 1, .int .u8 0, .int .u8 1] 5)).heap[w.heap.size]? = some (.cells (vfs [1, 1, 1, 1, 0, 1]) 5 (0, 0)) := heap_alloc_last w _
  refine Calls.mono (rank_F 3 2 6 6 (some ⟨w.heap.size, 0, none⟩) [1, 1, 1, 1, 0, 1] _ (by decide) (by decide) rfl rfl (Nat.le_refl _) (row8_own h1) (fun h => by cases h)) ?_
  rintro e w1 ⟨he, hb1⟩
  rw [alive_rank] at he
  subst he
  have HW1 : Hid (Below w.heap.size w w1) := ((Below.refl w.heap.size w).alloc (Nat.le_refl _) _).trans (hb1.mono (by simp))
  clear hb1 h1
  go_wp2_with fail
  have h2 : (w1.alloc (.cells #[.int .u8 1, .int .u8 2, .int .u8 0, .int .u8 1] 5)).heap[w1.heap.size]? = some (.cells (vfs [1, 2, 0, 1]) 5 (0, 0)) := heap_alloc_last w1 _
  have hb2 : Below w.heap.size w (w1.alloc (.cells #[.int .u8 1, .int .u8 2, .int .u8 0, .int .u8 1] 5)) := HW1.out.alloc HW1.out.size _
  refine Calls.mono (inverse_F 2 4 4 (some ⟨w1.heap.size, 0, none⟩) [1, 2, 0, 1] _ (by decide) rfl rfl (Nat.le_refl _) (row8_own h2) (fun h => by cases h) s (cell_later hb2 HS.out)) ?_
  rintro e w2 (⟨_, g, m, Y, rfl, hm, hg, hh, hinv, hb3⟩ | ⟨hne, _, _⟩)
  · rw [alive_inv hinv] at hh
    obtain rfl : m = 4 := hm
    have HW2 : Hid (Below w.heap.size w w2) := hb2.trans (hb3.mono hb2.size)
    have hA := holds_new (holds_cons (holds_nil w2) hh) #[.int .i64 2, .int .i64 2, .slice (some ⟨g, 0, none⟩) 4 4] 24
    have c3 := cellAt (holds_at hA 0 rfl) 2 _ rfl
    have hcv := conv8 (ca := 4) (show 4 = ([1, 2, 0, 1] : List F).length from rfl) (holds_row hA 1 rfl)
    rw [show str8 [1, 2, 0, 1] = { data := #[1, 2, 0, 1] } by decide +kernel] at hcv
    clear hb3 hh hA h2 hb2 hinv
    go_wp2
    go_ret
    exact ⟨rfl, HW2.out.alloc HW2.out.size _⟩
  · exact absurd (rk_one alive_self) hne
end Go.Proofs.YtgfiolfhckkpjaaDoor

/- What the statements' own 'in' answers: a matrix with marked room behind its cells; nothing that was there turns. -/
namespace Go.Proofs.YtgfiolfhckkpjaaDoor
open Go.RowKit Gf
set_option linter.unusedVariables false
set_option maxRecDepth 20000
set_option maxHeartbeats 1000000 in
theorem in3_F (r c : Int) (l cap : Nat) (a : Option Addr) (xs : List F) (w : World) (hl : l = xs.length) (hm : l ≤ 140737488351232) (hX : Row8 w a xs) (hnil : a = none → cap = 0) :
    Calls Tryd.prog 18 #[.agg #[.int .i64 r, .int .i64 c, .slice a l cap]] w fun e w' => ∃ g, e = .returned (.agg #[.int .i64 r, .int .i64 c, .slice (some ⟨g, 0, none⟩) l (l + 6)]) ∧ w.heap.size ≤ g ∧
      w'.heap[g]? = some (.cells (vfs (xs ++ marks)) 5 (0, 0)) ∧ Below w.heap.size w w' := by
  have HL : Hid _ := hl
  have HR : Hid (Row8 w a xs) := hX
  have HN : Hid _ := hnil
  clear hl hX hnil
  have k0 := heap_alloc2_old w (.cells #[.int .i64 r, .int .i64 c, .slice a l cap] 24) (.cells #[.int .i64 0, .int .i64 0, .slice none 0 0] 24)
  have k1 := heap_alloc2_new w (.cells #[.int .i64 r, .int .i64 c, .slice a l cap] 24) (.cells #[.int .i64 0, .int .i64 0, .slice none 0 0] 24)
  go_enter Tryd.func18, Tryd.ntmps18
  go_wp2
  have HB : Hid (Below w.heap.size w ((w.alloc (.cells #[.int .i64 r, .int .i64 c, .slice a l cap] 24)).alloc (.cells #[.int .i64 0, .int .i64 0, .slice none 0 0] 24))) := ((Below.refl _ _).alloc (Nat.le_refl _) _).alloc (by simp) _
  have HR2 : Hid _ := row8_alloc (row8_alloc HR.out (.cells #[.int .i64 r, .int .i64 c, .slice a l cap] 24)) (.cells #[.int .i64 0, .int .i64 0, .slice none 0 0] 24)
  have hsz : w.heap.size < ((w.alloc (.cells #[.int .i64 r, .int .i64 c, .slice a l cap] 24)).alloc (.cells #[.int .i64 0, .int .i64 0, .slice none 0 0] 24)).heap.size := by simp; omega
  generalize ((w.alloc (.cells #[.int .i64 r, .int .i64 c, .slice a l cap] 24)).alloc (.cells #[.int .i64 0, .int .i64 0, .slice none 0 0] 24)) = W at *
  have c0 := boxB (B := w.heap.size + 1) k0 (by omega) 0 _ rfl
  have c1 := boxB (B := w.heap.size + 1) k0 (by omega) 1 _ rfl
  have c2 := boxB (B := w.heap.size + 1) k0 (by omega) 2 _ rfl
  have hR : Below (w.heap.size + 1) W W := Below.refl _ _
  have z1 := ltHeap k1
  clear hsz HR2
  go_region_held3 (fun w' => Below (w.heap.size + 1) W w') (first | assumption | (refine Below.drew ?_; assumption) | exact ((hB5.setCell (by simp) _).setCell (by simp) _).setCell (by simp) _) ((go_at_call 31; refine Calls.mono (bytes_F a l cap xs _ HL.out hm (row8_below HR.out (HB.out.trans (Below.mono ‹Below (w.heap.size + 1) W _› (by omega)))) HN.out) ?_; rintro e w5 ⟨g, rfl, hg, hb, hh⟩; have hB5 : Below (w.heap.size + 1) W w5 := Below.trans ‹Below (w.heap.size + 1) W _› (Below.mono hb (Nat.le_of_lt z1)); have k9 := (hb.block _ z1).trans k1; have d0 := cellAt k9 0 _ rfl; have d1 := cellAt k9 1 _ rfl; have d2 := cellAt k9 2 _ rfl; have f0 : w5.frozen? ⟨w.heap.size + 1, 0, none⟩ = false := frozen_of_row _ _ _ _ _ k9; have f1 : w5.frozen? ⟨w.heap.size + 1, 1, none⟩ = false := frozen_of_row _ _ _ _ _ k9; have f2 : w5.frozen? ⟨w.heap.size + 1, 2, none⟩ = false := frozen_of_row _ _ _ _ _ k9; have HH : Hid _ := hh; clear hh; have hg' : W.heap.size ≤ g := hg; have hQ : True := trivial))
  go_wp2
  refine bodyPost_ret (v := .agg #[.int .i64 r, .int .i64 c, .slice (some ⟨g, 0, none⟩) l (l + 6)]) (by simp [results, Tryd.results18, go_sem, d0, d1, d2]) rfl ⟨g, rfl, by omega, ?_, ?_⟩
  · rw [heap_setCell_other _ _ _ _ (by show g ≠ w.heap.size + 1; omega), heap_setCell_other _ _ _ _ (by show g ≠ w.heap.size + 1; omega), heap_setCell_other _ _ _ _ (by show g ≠ w.heap.size + 1; omega)]
    exact HH.out
  · exact HB.out.trans (Below.mono ‹Below (w.heap.size + 1) W (World.setCell _ _ _)› (by omega))
end Go.Proofs.YtgfiolfhckkpjaaDoor

/- The document's own answer for elimination, an echelon that remembers how it was made: the plain algebra; no program is spoken of. -/
namespace Go.Proofs.YtgfiolfhckkpjaaDoor
open Go.RowKit Gf
set_option linter.unusedVariables false
set_option maxRecDepth 20000
theorem pivL_next (B : Mt) (n i : Nat) : pivL B n (i + 1) = pivL B n i ++ (if @decide (isPiv B n i) (Classical.propDecidable _) then [i] else []) := by
  simp only [pivL, List.range_succ, List.filter_append, List.filter_cons, List.filter_nil]
structure SpanOf (A : Mt) (c n t : Nat) (V U : Mt) (f : Nat → Nat) : Prop where
  made : ∀ i, i < t → ∀ j, j < c → V i j = sumF (fun l => gm (U i l) (A l j)) n
  one : ∀ i, i < t → V i (f i) = 1
  zero : ∀ i k, i < k → k < t → V k (f i) = 0
  lt : ∀ i, i < t → f i < c
  off : ∀ i, i < t → ∀ l, l < n → l ∉ pivL (tr A) c n → U i l = 0
  len : t = (pivL (tr A) c n).length
  all : RowsIn A n V t c
/-- what is left of a row when the first k rows of the span are taken off it -/
def wN (V : Mt) (f : Nat → Nat) (v : Nat → F) : Nat → Nat → F
  | 0 => v
  | k + 1 => fun j => ga (wN V f v k j) (gm (wN V f v k (f k)) (V k j))
/-- and what was taken off -/
def uN (V U : Mt) (f : Nat → Nat) (v : Nat → F) : Nat → Nat → F
  | 0 => fun _ => 0
  | k + 1 => fun l => ga (uN V U f v k l) (gm (wN V f v k (f k)) (U k l))
theorem SpanOf.start (A : Mt) (c : Nat) (V U : Mt) (f : Nat → Nat) : SpanOf A c 0 0 V U f :=
  ⟨fun i h => absurd h (Nat.not_lt_zero _), fun i h => absurd h (Nat.not_lt_zero _), fun i k _ h => absurd h (Nat.not_lt_zero _), fun i h => absurd h (Nat.not_lt_zero _), fun i h => absurd h (Nat.not_lt_zero _), rfl, fun i h => absurd h (Nat.not_lt_zero _)⟩
theorem SpanOf.sum {A V U : Mt} {c n t : Nat} {f : Nat → Nat} (h : SpanOf A c n t V U f) (v : Nat → F) : ∀ k, k ≤ t → ∀ j, j < c → wN V f v k j = ga (v j) (sumF (fun l => gm (uN V U f v k l) (A l j)) n)
  | 0, _, j, _ => by simp only [wN, uN]; rw [sumF_none (fun l _ => F.zero_mul _), F.add_zero]
  | k + 1, hk, j, hj => by
    simp only [wN, uN]
    rw [h.sum v k (by omega) j hj, h.made k (by omega) j hj]
    rw [show sumF (fun l => gm (ga (uN V U f v k l) (gm (wN V f v k (f k)) (U k l))) (A l j)) n = ga (sumF (fun l => gm (uN V U f v k l) (A l j)) n) (gm (wN V f v k (f k)) (sumF (fun l => gm (U k l) (A l j)) n)) by
      rw [sumF_mul_left, ← sumF_add]
      exact sumF_congr fun l _ => by rw [F.add_mul, F.mul_assoc]]
    rw [F.add_assoc]
theorem SpanOf.zeros {A V U : Mt} {c n t : Nat} {f : Nat → Nat} (h : SpanOf A c n t V U f) (v : Nat → F) : ∀ k, k ≤ t → ∀ i, i < k → wN V f v k (f i) = 0
  | 0, _, i, hi => absurd hi (Nat.not_lt_zero _)
  | k + 1, hk, i, hi => by
    simp only [wN]
    by_cases e : i = k
    · subst e; rw [h.one i (by omega), F.mul_one, F.add_self]
    · rw [h.zeros v k (by omega) i (by omega), h.zero i k (by omega) (by omega), F.mul_zero, F.add_zero]
theorem SpanOf.offs {A V U : Mt} {c n t : Nat} {f : Nat → Nat} (h : SpanOf A c n t V U f) (v : Nat → F) : ∀ k, k ≤ t → ∀ l, l < n → l ∉ pivL (tr A) c n → uN V U f v k l = 0
  | 0, _, l, _, _ => rfl
  | k + 1, hk, l, hl, hn => by
    simp only [uN]
    rw [h.offs v k (by omega) l hl hn, h.off k (by omega) l hl hn, F.mul_zero, F.add_zero]
theorem SpanOf.rest_zero {A V U : Mt} {c n t : Nat} {f : Nat → Nat} (h : SpanOf A c n t V U f) {v : Nat → F} (hd : Dep (tr A) c n v) : ∀ j, j < c → wN V f v t j = 0 := by
  obtain ⟨x, hx⟩ := hd
  have h1 : RowsIn (fun _ => wN V f v t) 1 A n c := fun i _ => ⟨fun l => ga (x l) (uN V U f v t l), fun j hj => by
    show wN V f v t j = _
    rw [h.sum v t (Nat.le_refl _) j hj, hx j hj, ← sumF_add]
    exact sumF_congr fun l _ => by rw [F.add_mul, F.mul_comm (x l)]; rfl⟩
  obtain ⟨d, hd⟩ := h1.trans h.all 0 (by omega)
  have hz : ∀ i, i < t → d i = 0 := by
    intro i
    induction i using Nat.strongRecOn with
    | _ i ih =>
      intro hi
      have h2 : wN V f v t (f i) = 0 := h.zeros v t (Nat.le_refl _) i hi
      rw [show wN V f v t (f i) = _ from hd (f i) (h.lt i hi), sumF_pick _ i t hi (fun k hk hne => by
        by_cases e : k < i
        · rw [ih k e hk, F.zero_mul]
        · rw [h.zero i k (by omega) hk, F.mul_zero]), h.one i hi, F.mul_one] at h2
      exact h2
  intro j hj
  rw [show wN V f v t j = _ from hd j hj]
  exact sumF_none fun i hi => by rw [hz i hi, F.zero_mul]
theorem SpanOf.rest_dep {A V U : Mt} {c n t : Nat} {f : Nat → Nat} (h : SpanOf A c n t V U f) {v : Nat → F} (hz : ∀ j, j < c → wN V f v t j = 0) : ∀ j, j < c → v j = sumF (fun l => gm (tr A j l) (uN V U f v t l)) n := by
  intro j hj
  have := h.sum v t (Nat.le_refl _) j hj
  rw [hz j hj] at this
  rw [F.eq_of_add_eq_zero this.symm]
  exact sumF_congr fun l _ => F.mul_comm _ _
theorem SpanOf.piv_no {A V U : Mt} {c n t : Nat} {f : Nat → Nat} (h : SpanOf A c n t V U f) (hz : ∀ j, j < c → wN V f (A n) t j = 0) : pivL (tr A) c (n + 1) = pivL (tr A) c n := by
  rw [pivL_next, if_neg, List.append_nil]
  intro hh
  exact (@of_decide_eq_true _ (Classical.propDecidable _) hh) ⟨_, h.rest_dep hz⟩
theorem SpanOf.piv_yes {A V U : Mt} {c n t : Nat} {f : Nat → Nat} (h : SpanOf A c n t V U f) {j : Nat} (hj : j < c) (hz : wN V f (A n) t j ≠ 0) : pivL (tr A) c (n + 1) = pivL (tr A) c n ++ [n] := by
  rw [pivL_next, if_pos]
  simp only [decide_eq_true_eq]
  intro hd
  exact hz (h.rest_zero hd j hj)
theorem SpanOf.add_no {A V U : Mt} {c n t : Nat} {f : Nat → Nat} (h : SpanOf A c n t V U f) (hz : ∀ j, j < c → wN V f (A n) t j = 0) (hU : ∀ i, i < t → U i n = 0) : SpanOf A c (n + 1) t V U f := by
  have hp := h.piv_no hz
  refine ⟨fun i hi j hj => ?_, h.one, h.zero, h.lt, fun i hi l hl hn => ?_, by rw [hp]; exact h.len, fun i hi => ?_⟩
  · simp only [sumF]; rw [← h.made i hi j hj, hU i hi, F.zero_mul, F.add_zero]
  · by_cases e : l = n
    · rw [e]; exact hU i hi
    · rw [hp] at hn; exact h.off i hi l (by omega) hn
  · by_cases e : i = n
    · subst e
      have h1 : RowsIn (fun _ => A i) 1 A i c := fun k _ => ⟨uN V U f (A i) t, fun j hj => by
        refine (h.rest_dep hz j hj).trans (sumF_congr fun l _ => F.mul_comm _ _)⟩
      exact h1.trans h.all 0 (by omega)
    · exact h.all i (by omega)
def addV (V : Mt) (f : Nat → Nat) (v : Nat → F) (t a : Nat) : Mt := fun i => if i = t then (fun j => gm (inv (wN V f v t a)) (wN V f v t j)) else V i
def addU (V U : Mt) (f : Nat → Nat) (v : Nat → F) (t a n : Nat) : Mt := fun i => if i = t then (fun l => gm (inv (wN V f v t a)) (if l < n then uN V U f v t l else if l = n then 1 else 0)) else U i
def addf (f : Nat → Nat) (t a : Nat) : Nat → Nat := fun i => if i = t then a else f i
theorem SpanOf.add_yes {A V U : Mt} {c n t a : Nat} {f : Nat → Nat} (h : SpanOf A c n t V U f) (ha : a < c) (hz : wN V f (A n) t a ≠ 0) (hU : ∀ i, i < t → U i n = 0) :
    SpanOf A c (n + 1) (t + 1) (addV V f (A n) t a) (addU V U f (A n) t a n) (addf f t a) := by
  have hp := h.piv_yes ha hz
  have hV : ∀ j, j < c → addV V f (A n) t a t j = gm (inv (wN V f (A n) t a)) (ga (A n j) (sumF (fun l => gm (uN V U f (A n) t l) (A l j)) n)) := fun j hj => by
    simp only [addV, if_true]; rw [h.sum (A n) t (Nat.le_refl _) j hj]
  refine ⟨fun i hi j hj => ?_, fun i hi => ?_, fun i k hik hk => ?_, fun i hi => ?_, fun i hi l hl hn => ?_, ?_, fun i hi => ?_⟩
  · by_cases e : i = t
    · subst e
      rw [hV j hj]
      simp only [sumF, addU, if_true, Nat.lt_irrefl, if_false, F.mul_one]
      rw [F.mul_add, F.add_comm, sumF_mul_left]
      congr 1
      exact sumF_congr fun l hl => by rw [if_pos hl, F.mul_assoc]
    · simp only [addV, addU, e, if_false, sumF]
      rw [← h.made i (by omega) j hj, hU i (by omega), F.zero_mul, F.add_zero]
  · by_cases e : i = t
    · simp only [addV, addf, e, if_true]; exact F.inv_mul hz
    · simp only [addV, addf, e, if_false]; exact h.one i (by omega)
  · by_cases e : k = t
    · simp only [addV, addf, e, if_true, show ¬ i = t by omega, if_false]
      rw [h.zeros (A n) t (Nat.le_refl _) i (by omega), F.mul_zero]
    · simp only [addV, addf, e, if_false, show ¬ i = t by omega]; exact h.zero i k hik (by omega)
  · by_cases e : i = t
    · simp only [addf, e, if_true]; exact ha
    · simp only [addf, e, if_false]; exact h.lt i (by omega)
  · rw [hp] at hn
    simp only [List.mem_append, List.mem_singleton, not_or] at hn
    by_cases e : i = t
    · simp only [addU, e, if_true]
      rw [if_pos (by omega), h.offs (A n) t (Nat.le_refl _) l (by omega) hn.1, F.mul_zero]
    · simp only [addU, e, if_false]; exact h.off i (by omega) l (by omega) hn.1
  · rw [hp, List.length_append, ← h.len]; rfl
  · have hext : RowsIn A n (addV V f (A n) t a) (t + 1) c := fun k hk => by
      obtain ⟨x, hx⟩ := h.all k hk
      refine ⟨fun q => if q < t then x q else 0, fun j hj => ?_⟩
      simp only [sumF, Nat.lt_irrefl, if_false, F.zero_mul, F.add_zero]
      rw [hx j hj]
      exact sumF_congr fun q hq => by simp only [hq, if_true, addV, show ¬ q = t by omega, if_false]
    by_cases e : i = n
    · subst e
      have h1 : RowsIn (fun q => if q = 0 then (fun j => sumF (fun l => gm (uN V U f (A i) t l) (A l j)) i) else addV V f (A i) t a t) 2 (addV V f (A i) t a) (t + 1) c := by
        intro q hq
        by_cases e : q = 0
        · simp only [e, if_true]
          have h2 : RowsIn (fun _ => fun j => sumF (fun l => gm (uN V U f (A i) t l) (A l j)) i) 1 A i c := fun k _ => ⟨_, fun j hj => rfl⟩
          exact h2.trans hext 0 (by omega)
        · simp only [e, if_false]
          exact RowsIn.refl _ (t + 1) c t (by omega)
      have h3 : RowsIn (fun _ => A i) 1 (fun q => if q = 0 then (fun j => sumF (fun l => gm (uN V U f (A i) t l) (A l j)) i) else addV V f (A i) t a t) 2 c := by
        apply RowsIn.two
        intro q hq
        refine ⟨0, 1, 1, wN V f (A i) t a, by omega, by omega, fun j hj => ?_⟩
        simp only [if_true, show ¬ (1 = 0) by omega, if_false]
        rw [hV j hj, ← F.mul_assoc, F.mul_inv hz, F.one_mul, F.one_mul, F.add_comm, F.add_right_cancel]
      exact h3.trans h1 0 (by omega)
    · exact hext i (by omega)
end Go.Proofs.YtgfiolfhckkpjaaDoor

/- What the document's own Dot of package gf's chapter returns, of all lists: the sum of products; nothing is written. -/
namespace Go.Proofs.YtgfiolfhckkpjaaDoor
open Go.RowKit Gf
set_option linter.unusedVariables false
set_option maxRecDepth 20000
end Go.Proofs.YtgfiolfhckkpjaaDoor

/- What the document's own AddScaled of package gf's chapter makes, of all lists: the same list as package gf's; nothing that was there turns. -/

namespace Go.Proofs.YtgfiolfhckkpjaaDoor
open Go.RowKit Gf
set_option linter.unusedVariables false
set_option maxRecDepth 20000
theorem scaled_step (c : F) (xs ys : List F) (k : Nat) (h : k < xs.length ∨ k < ys.length) : (scaled c xs ys).take k ++ [ga (at8 xs k) (gm c (at8 ys k))] = (scaled c xs ys).take (k + 1) := by
  have hl : k < (scaled c xs ys).length := by rw [scaled_len]; omega
  rw [List.take_succ_eq_append_getElem hl]
  congr 2
  have := at8_scaled c xs ys k
  rw [← this]; simp [at8, hl]
set_option maxHeartbeats 2000000 in
theorem rscaled_11 (x : F) (ba oa : Nat) (bb ob : Nat) (ca cb : Nat) (xs : List F) (ys : List F) (w : World) (ha : xs.length ≤ 140737488351232) (hb : ys.length ≤ 140737488351232)
    (hx : ∀ j, j < xs.length → w.cell? ⟨ba, oa + j, none⟩ = some (.int .u8 ((at8 xs j).toNat : Int)))
    (hy : ∀ j, j < ys.length → w.cell? ⟨bb, ob + j, none⟩ = some (.int .u8 ((at8 ys j).toNat : Int)))
    : Calls Tryd.prog 53 #[.slice (some ⟨ba, oa, none⟩) xs.length ca, .int .u8 x.toNat, .slice (some ⟨bb, ob, none⟩) ys.length cb] w fun e w' => ∃ g cap, e = .returned (.slice (some ⟨g, 0, none⟩) (scaled x xs ys).length cap) ∧ w.heap.size ≤ g ∧
      Below w.heap.size w w' ∧ Has8 w' g (scaled x xs ys) cap := by
  have HN : Hid ((scaled x xs ys).length = max xs.length ys.length) := scaled_len _ _ _
  have HX : Hid _ := hx
  have HY : Hid _ := hy
  clear hx hy
  go_enter Tryd.func53, Tryd.ntmps53
  go_wp2
  go_loopw [7, 8] (fun o i wr => ∃ k g cap : Nat, k ≤ max xs.length ys.length ∧ i = .int .i64 k ∧ o = .slice (some ⟨g, 0, none⟩) k cap ∧ w.heap.size ≤ g ∧ Below w.heap.size w wr ∧ Has8 wr g ((scaled x xs ys).take k) cap) (fun _ i _ => max xs.length ys.length - (intOf i).toNat)
  case atStart => exact ⟨0, w.heap.size, 0, by omega, rfl, rfl, Nat.le_refl _, (Below.refl _ _).alloc (Nat.le_refl _) _, #[], heap_alloc_last w _, rfl, by simp, by simp [maxLen], by simp⟩
  case round =>
    obtain ⟨k, g, cap, hk, rfl, rfl, hg, hB, hh⟩ := hrel
    have hkl : k ≤ 140737488351232 := by omega
    by_cases hlx : k < xs.length
    · by_cases hly : k < ys.length
      · skip
        have c1 : wr.cell? ⟨ba, oa + k, none⟩ = some (.int .u8 ((at8 xs k).toNat : Int)) := cell_later hB (HX.out k hlx)
        have c2 : wr.cell? ⟨bb, ob + k, none⟩ = some (.int .u8 ((at8 ys k).toNat : Int)) := cell_later hB (HY.out k hly)
        have e0 : ga (at8 xs k) (gm x (at8 ys k)) = ga (at8 xs k) (gm x (at8 ys k)) := by
          rfl
        have HS : Hid _ := scaled_step x xs ys k (by first | exact .inl hlx | exact .inr hly)
        rw [e0] at HS
        have ex := xor_val (at8 xs k) (gm x (at8 ys k))
        obtain ⟨g2, cap2, w2, hrun, hh2, hgr, hat⟩ := append8 (ad := ⟨wr.heap.size, 0, none⟩) (m := 1) (c := 1) (ys := [ga (at8 xs k) (gm x (at8 ys k))]) 22 (has8_below hh ((Below.refl wr.heap.size wr).alloc (Nat.le_refl _) (.cells #[.int .u8 ((ga (at8 xs k) (gm x (at8 ys k))).toNat : Int)] 5))) (show k = _ by rw [List.length_take, HN.out]; omega) rfl (by omega) (fun j hj => by
          have hj0 : j = 0 := by simpa using hj
          subst hj0
          show (wr.alloc _).cell? ⟨wr.heap.size, 0, none⟩ = _
          rw [World.cell?_alloc_at _ _ _ _ rfl]; rfl)
        rw [HS.out] at hh2
        have hg2 : w.heap.size ≤ g2 := by
          have := hB.size
          rcases hat with e | e
          · omega
          · rw [e]; simp; omega
        have hB2 : Below w.heap.size w w2 := grownBy_below (hB.alloc hB.size (.cells #[.int .u8 ((ga (at8 xs k) (gm x (at8 ys k))).toNat : Int)] 5)) hgr hg (by have := hB.size; simp; omega)
        have HH2 : Hid _ := hh2
        have HB2 : Hid _ := hB2
        have HRUN : Hid _ := hrun
        clear hB hh hat hgr hh2 hB2 e0 hrun
        go_wp2_with (first | (at_builtin; refine wpList_append_run rfl _ _ 22 rfl _ _ _ _ rfl rfl HRUN.out ?_) | (go_at_call 39; refine (rmul_F _ _ _).mono ?_; rintro e w' ⟨rfl, rfl⟩))
        exact ⟨⟨k + 1, g2, cap2, by omega, by go_num, rfl, hg2, HB2.out, HH2.out⟩, by simp [intOf]; omega⟩
      · skip
        have c1 : wr.cell? ⟨ba, oa + k, none⟩ = some (.int .u8 ((at8 xs k).toNat : Int)) := cell_later hB (HX.out k hlx)
        have e0 : ga (at8 xs k) (gm x (at8 ys k)) = at8 xs k := by
          rw [at8_over (xs := ys) (by first | exact Nat.zero_le _ | omega), F.mul_zero, F.add_zero]
        have HS : Hid _ := scaled_step x xs ys k (by first | exact .inl hlx | exact .inr hly)
        rw [e0] at HS
        obtain ⟨g2, cap2, w2, hrun, hh2, hgr, hat⟩ := append8 (ad := ⟨wr.heap.size, 0, none⟩) (m := 1) (c := 1) (ys := [at8 xs k]) 22 (has8_below hh ((Below.refl wr.heap.size wr).alloc (Nat.le_refl _) (.cells #[.int .u8 ((at8 xs k).toNat : Int)] 5))) (show k = _ by rw [List.length_take, HN.out]; omega) rfl (by omega) (fun j hj => by
          have hj0 : j = 0 := by simpa using hj
          subst hj0
          show (wr.alloc _).cell? ⟨wr.heap.size, 0, none⟩ = _
          rw [World.cell?_alloc_at _ _ _ _ rfl]; rfl)
        rw [HS.out] at hh2
        have hg2 : w.heap.size ≤ g2 := by
          have := hB.size
          rcases hat with e | e
          · omega
          · rw [e]; simp; omega
        have hB2 : Below w.heap.size w w2 := grownBy_below (hB.alloc hB.size (.cells #[.int .u8 ((at8 xs k).toNat : Int)] 5)) hgr hg (by have := hB.size; simp; omega)
        have HH2 : Hid _ := hh2
        have HB2 : Hid _ := hB2
        have HRUN : Hid _ := hrun
        clear hB hh hat hgr hh2 hB2 e0 hrun
        go_wp2_with (at_builtin; refine wpList_append_run rfl _ _ 22 rfl _ _ _ _ rfl rfl HRUN.out ?_)
        exact ⟨⟨k + 1, g2, cap2, by omega, by go_num, rfl, hg2, HB2.out, HH2.out⟩, by simp [intOf]; omega⟩
    · by_cases hly : k < ys.length
      · skip
        have c2 : wr.cell? ⟨bb, ob + k, none⟩ = some (.int .u8 ((at8 ys k).toNat : Int)) := cell_later hB (HY.out k hly)
        have e0 : ga (at8 xs k) (gm x (at8 ys k)) = gm x (at8 ys k) := by
          rw [at8_over (xs := xs) (by first | exact Nat.zero_le _ | omega), F.zero_add]
        have HS : Hid _ := scaled_step x xs ys k (by first | exact .inl hlx | exact .inr hly)
        rw [e0] at HS
        have ex : bits .xor .u8 0 ((gm x (at8 ys k)).toNat : Int) = ((gm x (at8 ys k)).toNat : Int) := by
          have := xor_val 0 (gm x (at8 ys k))
          rw [F.zero_add] at this
          exact this
        obtain ⟨g2, cap2, w2, hrun, hh2, hgr, hat⟩ := append8 (ad := ⟨wr.heap.size, 0, none⟩) (m := 1) (c := 1) (ys := [gm x (at8 ys k)]) 22 (has8_below hh ((Below.refl wr.heap.size wr).alloc (Nat.le_refl _) (.cells #[.int .u8 ((gm x (at8 ys k)).toNat : Int)] 5))) (show k = _ by rw [List.length_take, HN.out]; omega) rfl (by omega) (fun j hj => by
          have hj0 : j = 0 := by simpa using hj
          subst hj0
          show (wr.alloc _).cell? ⟨wr.heap.size, 0, none⟩ = _
          rw [World.cell?_alloc_at _ _ _ _ rfl]; rfl)
        rw [HS.out] at hh2
        have hg2 : w.heap.size ≤ g2 := by
          have := hB.size
          rcases hat with e | e
          · omega
          · rw [e]; simp; omega
        have hB2 : Below w.heap.size w w2 := grownBy_below (hB.alloc hB.size (.cells #[.int .u8 ((gm x (at8 ys k)).toNat : Int)] 5)) hgr hg (by have := hB.size; simp; omega)
        have HH2 : Hid _ := hh2
        have HB2 : Hid _ := hB2
        have HRUN : Hid _ := hrun
        clear hB hh hat hgr hh2 hB2 e0 hrun
        go_wp2_with (first | (at_builtin; refine wpList_append_run rfl _ _ 22 rfl _ _ _ _ rfl rfl HRUN.out ?_) | (go_at_call 39; refine (rmul_F _ _ _).mono ?_; rintro e w' ⟨rfl, rfl⟩))
        exact ⟨⟨k + 1, g2, cap2, by omega, by go_num, rfl, hg2, HB2.out, HH2.out⟩, by simp [intOf]; omega⟩
      · skip
        have hk' : k = max xs.length ys.length := by omega
        have HK : Hid _ := hk'
        have HB : Hid _ := hB
        have HH : Hid _ := hh
        clear hk' hB hh
        go_wp2
        go_ret
        refine ⟨g, cap, ?_, hg, HB.out, ?_⟩
        · rw [HN.out, ← HK.out]; rfl
        · have := HH.out
          rw [List.take_of_length_le (by rw [HN.out, HK.out]; exact Nat.le_refl _)] at this
          exact this
set_option maxHeartbeats 2000000 in
theorem rscaled_10 (x : F) (ba oa : Nat) (b : Option Addr) (ca cb : Nat) (xs : List F) (w : World) (ha : xs.length ≤ 140737488351232) (hb : 0 ≤ 140737488351232)
    (hx : ∀ j, j < xs.length → w.cell? ⟨ba, oa + j, none⟩ = some (.int .u8 ((at8 xs j).toNat : Int)))
    : Calls Tryd.prog 53 #[.slice (some ⟨ba, oa, none⟩) xs.length ca, .int .u8 x.toNat, .slice b 0 cb] w fun e w' => ∃ g cap, e = .returned (.slice (some ⟨g, 0, none⟩) (scaled x xs []).length cap) ∧ w.heap.size ≤ g ∧
      Below w.heap.size w w' ∧ Has8 w' g (scaled x xs []) cap := by
  have HN : Hid ((scaled x xs []).length = max xs.length 0) := scaled_len _ _ _
  have HX : Hid _ := hx
  clear hx
  go_enter Tryd.func53, Tryd.ntmps53
  go_wp2
  go_loopw [7, 8] (fun o i wr => ∃ k g cap : Nat, k ≤ max xs.length 0 ∧ i = .int .i64 k ∧ o = .slice (some ⟨g, 0, none⟩) k cap ∧ w.heap.size ≤ g ∧ Below w.heap.size w wr ∧ Has8 wr g ((scaled x xs []).take k) cap) (fun _ i _ => max xs.length 0 - (intOf i).toNat)
  case atStart => exact ⟨0, w.heap.size, 0, by omega, rfl, rfl, Nat.le_refl _, (Below.refl _ _).alloc (Nat.le_refl _) _, #[], heap_alloc_last w _, rfl, by simp, by simp [maxLen], by simp⟩
  case round =>
    obtain ⟨k, g, cap, hk, rfl, rfl, hg, hB, hh⟩ := hrel
    have hkl : k ≤ 140737488351232 := by omega
    by_cases hlx : k < xs.length
    · skip
      have c1 : wr.cell? ⟨ba, oa + k, none⟩ = some (.int .u8 ((at8 xs k).toNat : Int)) := cell_later hB (HX.out k hlx)
      have e0 : ga (at8 xs k) (gm x (at8 [] k)) = at8 xs k := by
        rw [at8_over (xs := []) (by first | exact Nat.zero_le _ | omega), F.mul_zero, F.add_zero]
      have HS : Hid _ := scaled_step x xs [] k (by first | exact .inl hlx | exact .inr hly)
      rw [e0] at HS
      obtain ⟨g2, cap2, w2, hrun, hh2, hgr, hat⟩ := append8 (ad := ⟨wr.heap.size, 0, none⟩) (m := 1) (c := 1) (ys := [at8 xs k]) 22 (has8_below hh ((Below.refl wr.heap.size wr).alloc (Nat.le_refl _) (.cells #[.int .u8 ((at8 xs k).toNat : Int)] 5))) (show k = _ by rw [List.length_take, HN.out]; omega) rfl (by omega) (fun j hj => by
        have hj0 : j = 0 := by simpa using hj
        subst hj0
        show (wr.alloc _).cell? ⟨wr.heap.size, 0, none⟩ = _
        rw [World.cell?_alloc_at _ _ _ _ rfl]; rfl)
      rw [HS.out] at hh2
      have hg2 : w.heap.size ≤ g2 := by
        have := hB.size
        rcases hat with e | e
        · omega
        · rw [e]; simp; omega
      have hB2 : Below w.heap.size w w2 := grownBy_below (hB.alloc hB.size (.cells #[.int .u8 ((at8 xs k).toNat : Int)] 5)) hgr hg (by have := hB.size; simp; omega)
      have HH2 : Hid _ := hh2
      have HB2 : Hid _ := hB2
      have HRUN : Hid _ := hrun
      clear hB hh hat hgr hh2 hB2 e0 hrun
      go_wp2_with (at_builtin; refine wpList_append_run rfl _ _ 22 rfl _ _ _ _ rfl rfl HRUN.out ?_)
      exact ⟨⟨k + 1, g2, cap2, by omega, by go_num, rfl, hg2, HB2.out, HH2.out⟩, by simp [intOf]; omega⟩
    · skip
      have hk' : k = max xs.length 0 := by omega
      have HK : Hid _ := hk'
      have HB : Hid _ := hB
      have HH : Hid _ := hh
      clear hk' hB hh
      go_wp2
      go_ret
      refine ⟨g, cap, ?_, hg, HB.out, ?_⟩
      · rw [HN.out, ← HK.out]; rfl
      · have := HH.out
        rw [List.take_of_length_le (by rw [HN.out, HK.out]; exact Nat.le_refl _)] at this
        exact this
set_option maxHeartbeats 2000000 in
theorem rscaled_01 (x : F) (a : Option Addr) (bb ob : Nat) (ca cb : Nat) (ys : List F) (w : World) (ha : 0 ≤ 140737488351232) (hb : ys.length ≤ 140737488351232)
    (hy : ∀ j, j < ys.length → w.cell? ⟨bb, ob + j, none⟩ = some (.int .u8 ((at8 ys j).toNat : Int)))
    : Calls Tryd.prog 53 #[.slice a 0 ca, .int .u8 x.toNat, .slice (some ⟨bb, ob, none⟩) ys.length cb] w fun e w' => ∃ g cap, e = .returned (.slice (some ⟨g, 0, none⟩) (scaled x [] ys).length cap) ∧ w.heap.size ≤ g ∧
      Below w.heap.size w w' ∧ Has8 w' g (scaled x [] ys) cap := by
  have HN : Hid ((scaled x [] ys).length = max 0 ys.length) := scaled_len _ _ _
  have HY : Hid _ := hy
  clear hy
  go_enter Tryd.func53, Tryd.ntmps53
  go_wp2
  go_loopw [7, 8] (fun o i wr => ∃ k g cap : Nat, k ≤ max 0 ys.length ∧ i = .int .i64 k ∧ o = .slice (some ⟨g, 0, none⟩) k cap ∧ w.heap.size ≤ g ∧ Below w.heap.size w wr ∧ Has8 wr g ((scaled x [] ys).take k) cap) (fun _ i _ => max 0 ys.length - (intOf i).toNat)
  case atStart => exact ⟨0, w.heap.size, 0, by omega, rfl, rfl, Nat.le_refl _, (Below.refl _ _).alloc (Nat.le_refl _) _, #[], heap_alloc_last w _, rfl, by simp, by simp [maxLen], by simp⟩
  case round =>
    obtain ⟨k, g, cap, hk, rfl, rfl, hg, hB, hh⟩ := hrel
    have hkl : k ≤ 140737488351232 := by omega
    by_cases hly : k < ys.length
    · skip
      have c2 : wr.cell? ⟨bb, ob + k, none⟩ = some (.int .u8 ((at8 ys k).toNat : Int)) := cell_later hB (HY.out k hly)
      have e0 : ga (at8 [] k) (gm x (at8 ys k)) = gm x (at8 ys k) := by
        rw [at8_over (xs := []) (by first | exact Nat.zero_le _ | omega), F.zero_add]
      have HS : Hid _ := scaled_step x [] ys k (by first | exact .inl hlx | exact .inr hly)
      rw [e0] at HS
      have ex : bits .xor .u8 0 ((gm x (at8 ys k)).toNat : Int) = ((gm x (at8 ys k)).toNat : Int) := by
        have := xor_val 0 (gm x (at8 ys k))
        rw [F.zero_add] at this
        exact this
      obtain ⟨g2, cap2, w2, hrun, hh2, hgr, hat⟩ := append8 (ad := ⟨wr.heap.size, 0, none⟩) (m := 1) (c := 1) (ys := [gm x (at8 ys k)]) 22 (has8_below hh ((Below.refl wr.heap.size wr).alloc (Nat.le_refl _) (.cells #[.int .u8 ((gm x (at8 ys k)).toNat : Int)] 5))) (show k = _ by rw [List.length_take, HN.out]; omega) rfl (by omega) (fun j hj => by
        have hj0 : j = 0 := by simpa using hj
        subst hj0
        show (wr.alloc _).cell? ⟨wr.heap.size, 0, none⟩ = _
        rw [World.cell?_alloc_at _ _ _ _ rfl]; rfl)
      rw [HS.out] at hh2
      have hg2 : w.heap.size ≤ g2 := by
        have := hB.size
        rcases hat with e | e
        · omega
        · rw [e]; simp; omega
      have hB2 : Below w.heap.size w w2 := grownBy_below (hB.alloc hB.size (.cells #[.int .u8 ((gm x (at8 ys k)).toNat : Int)] 5)) hgr hg (by have := hB.size; simp; omega)
      have HH2 : Hid _ := hh2
      have HB2 : Hid _ := hB2
      have HRUN : Hid _ := hrun
      clear hB hh hat hgr hh2 hB2 e0 hrun
      go_wp2_with (first | (at_builtin; refine wpList_append_run rfl _ _ 22 rfl _ _ _ _ rfl rfl HRUN.out ?_) | (go_at_call 39; refine (rmul_F _ _ _).mono ?_; rintro e w' ⟨rfl, rfl⟩))
      exact ⟨⟨k + 1, g2, cap2, by omega, by go_num, rfl, hg2, HB2.out, HH2.out⟩, by simp [intOf]; omega⟩
    · skip
      have hk' : k = max 0 ys.length := by omega
      have HK : Hid _ := hk'
      have HB : Hid _ := hB
      have HH : Hid _ := hh
      clear hk' hB hh
      go_wp2
      go_ret
      refine ⟨g, cap, ?_, hg, HB.out, ?_⟩
      · rw [HN.out, ← HK.out]; rfl
      · have := HH.out
        rw [List.take_of_length_le (by rw [HN.out, HK.out]; exact Nat.le_refl _)] at this
        exact this
set_option maxHeartbeats 2000000 in
theorem rscaled_00 (x : F) (a : Option Addr) (b : Option Addr) (ca cb : Nat) (w : World) (ha : 0 ≤ 140737488351232) (hb : 0 ≤ 140737488351232)
    : Calls Tryd.prog 53 #[.slice a 0 ca, .int .u8 x.toNat, .slice b 0 cb] w fun e w' => ∃ g cap, e = .returned (.slice (some ⟨g, 0, none⟩) (scaled x [] []).length cap) ∧ w.heap.size ≤ g ∧
      Below w.heap.size w w' ∧ Has8 w' g (scaled x [] []) cap := by
  have HN : Hid ((scaled x [] []).length = max 0 0) := scaled_len _ _ _
  go_enter Tryd.func53, Tryd.ntmps53
  go_wp2
  go_loopw [7, 8] (fun o i wr => ∃ k g cap : Nat, k ≤ max 0 0 ∧ i = .int .i64 k ∧ o = .slice (some ⟨g, 0, none⟩) k cap ∧ w.heap.size ≤ g ∧ Below w.heap.size w wr ∧ Has8 wr g ((scaled x [] []).take k) cap) (fun _ i _ => max 0 0 - (intOf i).toNat)
  case atStart => exact ⟨0, w.heap.size, 0, by omega, rfl, rfl, Nat.le_refl _, (Below.refl _ _).alloc (Nat.le_refl _) _, #[], heap_alloc_last w _, rfl, by simp, by simp [maxLen], by simp⟩
  case round =>
    obtain ⟨k, g, cap, hk, rfl, rfl, hg, hB, hh⟩ := hrel
    have hkl : k ≤ 140737488351232 := by omega
    have hk' : k = max 0 0 := by omega
    have HK : Hid _ := hk'
    have HB : Hid _ := hB
    have HH : Hid _ := hh
    clear hk' hB hh
    go_wp2
    go_ret
    refine ⟨g, cap, ?_, hg, HB.out, ?_⟩
    · rw [HN.out, ← HK.out]; rfl
    · have := HH.out
      rw [List.take_of_length_le (by rw [HN.out, HK.out]; exact Nat.le_refl _)] at this
      exact this
theorem rscaled_F (x : F) (a b : Option Addr) (la ca lb cb : Nat) (xs ys : List F) (w : World) (hla : la = xs.length) (hlb : lb = ys.length) (ha : la ≤ 140737488351232) (hb : lb ≤ 140737488351232)
    (hx : Row8 w a xs) (hy : Row8 w b ys) :
    Calls Tryd.prog 53 #[.slice a la ca, .int .u8 x.toNat, .slice b lb cb] w fun e w' => ∃ g cap, e = .returned (.slice (some ⟨g, 0, none⟩) (scaled x xs ys).length cap) ∧ w.heap.size ≤ g ∧
      Below w.heap.size w w' ∧ Has8 w' g (scaled x xs ys) cap := by
  subst hla hlb
  rcases hx with rfl | ⟨ba, oa, rfl, hx⟩
  · rcases hy with rfl | ⟨bb, ob, rfl, hy⟩
    · exact rscaled_00 x a b ca cb w ha hb
    · exact rscaled_01 x a bb ob ca cb ys w ha hb hy
  · rcases hy with rfl | ⟨bb, ob, rfl, hy⟩
    · exact rscaled_10 x ba oa b ca cb xs w ha hb hx
    · exact rscaled_11 x ba oa bb ob ca cb xs ys w ha hb hx hy
end Go.Proofs.YtgfiolfhckkpjaaDoor

/- The document's own span in memory, and what is left of a row when the span is taken off it. -/
namespace Go.Proofs.YtgfiolfhckkpjaaDoor
open Go.RowKit Gf
set_option linter.unusedVariables false
set_option maxRecDepth 20000
theorem append8_any {w : World} {g n cap : Nat} {xs ys : List F} {a : Option Addr} {m c : Nat} (ty : TypeId) (h : Has8 w g xs cap) (hn : n = xs.length) (hm : m = ys.length) (hb : n + m ≤ 140737488355328) (hy : Row8 w a ys) (hnil : a = none → c = 0) :
    ∃ g' cap' w', (Builtin.append_ #[22, 22] ty #[.slice (some ⟨g, 0, none⟩) n cap, .slice a m c]).run Tryd.prog w = .ok (.slice (some ⟨g', 0, none⟩) (n + m) cap') w' ∧
      Has8 w' g' (xs ++ ys) cap' ∧ w.grownBy w' (some g) ∧ (g' = g ∨ g' = w.heap.size) := by
  cases a with
  | none =>
    have hys : ys = [] := by
      rcases hy with e | ⟨b, off, e, _⟩
      · exact e
      · cases e
    subst hys
    obtain rfl : m = 0 := hm
    obtain rfl := hnil rfl
    obtain ⟨i, hi, h1, h2, h3⟩ := info8
    obtain ⟨cur, q1, q2, q3, q4, q5⟩ := h
    have hle : n ≤ cap := by rw [hn]; exact q3
    refine ⟨g, cap, w, ?_, ?_, World.grownBy.refl _ _, .inl rfl⟩
    · simp [Builtin.append_, run_underlying Tryd.underlying22, sizeOf, typeInfo, hi, Builtin.lenOf, Builtin.firstCells, loadCells, hle, storeCells]
    · rw [List.append_nil]; exact ⟨cur, q1, q2, q3, q4, q5⟩
  | some ad =>
    refine append8 ty h hn hm hb fun j hj => ?_
    rcases hy with e | ⟨b, off, e, hy⟩
    · rw [e] at hj; simp at hj
    · cases e
      have hadd : (⟨b, off, none⟩ : Addr).add j = ⟨b, off + j, none⟩ := by unfold Addr.add; split <;> simp_all
      rw [hadd]; exact hy j hj
theorem has8_T {w : World} {g cap : Nat} {xs : List F} (h : Has8 w g xs cap) : Row8T w (some ⟨g, 0, none⟩) xs := by
  have h2 := row8_has h
  obtain ⟨cur, hg, _⟩ := h
  rcases h2 with e | ⟨b, off, e, h2⟩
  · exact .inl e
  · cases e
    exact .inr ⟨g, 0, _, _, rfl, hg, h2⟩
theorem has8_empty {w : World} {g : Nat} (h : w.heap[g]? = some (.cells #[] 5 (0, 0))) : Has8 w g [] 0 := ⟨#[], h, rfl, Nat.le_refl _, by decide, rfl⟩
theorem less_F (x : F) (a b : Option Addr) (la ca lb cb : Nat) (xs ys : List F) (w : World) (hla : la = xs.length) (hlb : lb = ys.length) (ha : la ≤ 4096) (hb : lb ≤ 4096) (hx : Row8 w a xs) (hy : Row8 w b ys) :
    Calls Tryd.prog 54 #[.slice a la ca, .int .u8 x.toNat, .slice b lb cb] w fun e w' => ∃ g cap, e = .returned (.slice (some ⟨g, 0, none⟩) (scaled x xs ys).length cap) ∧ w.heap.size ≤ g ∧
      Below w.heap.size w w' ∧ Has8 w' g (scaled x xs ys) cap := by
  have H : Hid _ := rscaled_F x a b la ca lb cb xs ys w hla hlb (by omega) (by omega) hx hy
  clear hla hlb ha hb hx hy
  go_enter Tryd.func54, Tryd.ntmps54
  go_wp2_with fail
  refine Calls.mono H.out ?_
  rintro e w' ⟨g, cap, rfl, hg, hb, hh⟩
  have HG : Hid _ := hg
  have HB : Hid _ := hb
  have HH : Hid _ := hh
  clear hg hb hh H
  go_wp2
  go_ret
  exact ⟨g, cap, rfl, HG.out, HB.out, HH.out⟩
/-- the rows of the span, as values -/
def spR (t c : Nat) (fr : Nat → Option Addr × Nat) : List Value := (List.range t).map fun i => .slice (fr i).1 c (fr i).2
def spM (t : Nat) (Ms : Nat → List F) (fm : Nat → Option Addr × Nat) : List Value := (List.range t).map fun i => .slice (fm i).1 (Ms i).length (fm i).2
theorem spR_at {t c i : Nat} {fr : Nat → Option Addr × Nat} (h : i < t) : (spR t c fr)[i]? = some (.slice (fr i).1 c (fr i).2) := by simp [spR, h]
theorem spM_at {t i : Nat} {Ms : Nat → List F} {fm : Nat → Option Addr × Nat} (h : i < t) : (spM t Ms fm)[i]? = some (.slice (fm i).1 (Ms i).length (fm i).2) := by simp [spM, h]
theorem spR_snoc (t c : Nat) (fr : Nat → Option Addr × Nat) (a : Option Addr) (m : Nat) : spR t c fr ++ [.slice a c m] = spR (t + 1) c (fun i => if i = t then (a, m) else fr i) := by
  simp only [spR, List.range_succ, List.map_append, List.map_cons, List.map_nil, if_true]
  congr 1
  apply List.map_congr_left
  intro i hi
  have := List.mem_range.1 hi
  rw [if_neg (by omega)]
theorem spM_snoc (t : Nat) (Ms : Nat → List F) (fm : Nat → Option Addr × Nat) (a : Option Addr) (m : Nat) (us : List F) : spM t Ms fm ++ [.slice a us.length m] = spM (t + 1) (fun i => if i = t then us else Ms i) (fun i => if i = t then (a, m) else fm i) := by
  simp only [spM, List.range_succ, List.map_append, List.map_cons, List.map_nil, if_true]
  congr 1
  apply List.map_congr_left
  intro i hi
  have := List.mem_range.1 hi
  rw [if_neg (by omega), if_neg (by omega)]
structure SpanW (w : World) (B SB c n tR tM tF tB : Nat) (vR vM vF vB : Value) (fr fm : Nat → Option Addr × Nat) (V : Mt) (Ms : Nat → List F) (f bs : List Nat) : Prop where
  box : w.heap[SB]? = some (.cells #[.int .i64 c, vR, vM, vF, .int .i64 n, vB] 52 (0, 0))
  rows : w.ownsRow B 22 1 vR tR (spR tR c fr)
  made : w.ownsRow B 22 1 vM tM (spM tM Ms fm)
  firsts : w.ownsRow B 3 1 vF tF (natV f)
  basis : w.ownsRow B 3 1 vB tB (natV bs)
  fl : f.length = tF
  bl : bs.length = tB
  rowT : ∀ i, i < tR → Row8T w (fr i).1 (rowF c (V i))
  madeT : ∀ i, i < tM → Row8T w (fm i).1 (Ms i)
  ml : ∀ i, i < tM → (Ms i).length ≤ n
  ne1 : vR.ownBlock = none ∨ vR.ownBlock ≠ vM.ownBlock
  ne2 : vF.ownBlock = none ∨ vF.ownBlock ≠ vB.ownBlock
  ne3 : vM.ownBlock = none ∨ vM.ownBlock ≠ vR.ownBlock
  ne4 : vB.ownBlock = none ∨ vB.ownBlock ≠ vF.ownBlock
theorem SpanW.below {w w' : World} {B SB c n tR tM tF tB : Nat} {vR vM vF vB : Value} {fr fm : Nat → Option Addr × Nat} {V : Mt} {Ms : Nat → List F} {f bs : List Nat} (h : SpanW w B SB c n tR tM tF tB vR vM vF vB fr fm V Ms f bs) (hb : Below w.heap.size w w') : SpanW w' B SB c n tR tM tF tB vR vM vF vB fr fm V Ms f bs :=
  ⟨heap_later h.box hb, own_below h.rows hb, own_below h.made hb, own_below h.firsts hb, own_below h.basis hb, h.fl, h.bl, fun i hi => row8T_below (h.rowT i hi) hb, fun i hi => row8T_below (h.madeT i hi) hb, h.ml, h.ne1, h.ne2, h.ne3, h.ne4⟩
theorem own_cell {w : World} {B n i : Nat} {v x : Value} {e : TypeId} {xs : List Value} (ho : w.ownsRow B e 1 v n xs) (hi : xs[i]? = some x) : ∃ g cap, v = .slice (some ⟨g, 0, none⟩) n cap ∧ w.cell? ⟨g, i, none⟩ = some x ∧ g < w.heap.size := by
  have hil := (List.getElem?_eq_some_iff.1 hi).1
  have hl := ho.1
  rcases ho.2 with ⟨rfl, e0⟩ | ⟨g, cap, cur, rfl, h1, h2, h3⟩
  · omega
  · exact ⟨g, cap, rfl, by rw [ho.cellAt i (by omega)]; exact hi, ltHeap h2⟩
/-- the making of a row of the span, as a function -/
def madeF (Ms : Nat → List F) : Mt := fun i l => at8 (Ms i) l
theorem scaled_made (x : F) (n : Nat) (u : Nat → F) (ms : List F) (h : ms.length ≤ n) : scaled x (rowF n u) ms = rowF n (fun l => ga (u l) (gm x (at8 ms l))) :=
  rowF_eq (by rw [scaled_len, rowF_len]; omega) fun j hj => by rw [at8_scaled, at8_rowF hj]
set_option maxHeartbeats 8000000 in
theorem rest_F (B SB c n t : Nat) (vR vM vF vB : Value) (fr fm : Nat → Option Addr × Nat) (V : Mt) (Ms : Nat → List F) (f bs : List Nat) (a : Option Addr) (l cap : Nat) (xs : List F) (w : World)
    (hS : SpanW w B SB c n t t t t vR vM vF vB fr fm V Ms f bs) (hc : c ≤ 64) (hn : n ≤ 64) (ht : t ≤ 64) (hf : ∀ i, i < t → f.getD i 0 < c) (hl : l = c) (hx : xs.length = c) (hX : Row8 w a xs) (hnil : a = none → cap = 0) :
    Calls Tryd.prog 43 #[.pointer (some ⟨SB, 0, none⟩), .slice a l cap] w fun e w' => ∃ g1 cap1 g2 cap2, e = .returned (.tuple #[.slice (some ⟨g1, 0, none⟩) c cap1, .slice (some ⟨g2, 0, none⟩) n cap2]) ∧
      Has8 w' g1 (rowF c (wN V (f.getD · 0) (at8 xs) t)) cap1 ∧ Has8 w' g2 (rowF n (uN V (madeF Ms) (f.getD · 0) (at8 xs) t)) cap2 ∧ w.heap.size ≤ g1 ∧ w.heap.size ≤ g2 ∧ Below w.heap.size w w' := by
  subst hl
  have HS : Hid _ := hS
  have HF : Hid _ := hf
  have HXL : Hid _ := hx
  have hal : Below w.heap.size w (w.alloc (.cells #[] 5)) := (Below.refl _ _).alloc (Nat.le_refl _) _
  obtain ⟨g0, cap0, w0, hrun, hh0, hg0, hor⟩   := append8_any (n := 0) (m := l) (c := cap) 22 (has8_empty (heap_alloc_last w (.cells #[] 5))) rfl hx.symm (by omega) (row8_below hX hal) hnil
  rw [Nat.zero_add] at hrun
  rw [List.nil_append] at hh0
  have hb0 : Below w.heap.size w w0 := grownBy_below hal hg0 (Nat.le_refl _) hal.size
  have hg0' : w.heap.size ≤ g0 := by
    rcases hor with e | e
    · omega
    · rw [World.size_alloc] at e; omega
  have hS0 := hS.below hb0
  have c1 := cellAt hS0.box 4 _ rfl
  have hmk := run_make8 n (by omega)
  have hb1 : Below w.heap.size w (w0.alloc (.cells (vfs (zeros n)) 5)) := hb0.alloc hb0.size _
  have hS1 := hS0.below ((Below.refl _ _).alloc (Nat.le_refl _) (.cells (vfs (zeros n)) 5))
  have hz : Has8 (w0.alloc (.cells (vfs (zeros n)) 5)) w0.heap.size (rowF n fun _ => 0) n := by
    have := has8_full (xs := zeros n) (heap_alloc_last w0 _) (by rw [zeros_len]; unfold maxLen; omega)
    rw [zeros_len] at this
    have e : zeros n = rowF n fun _ => 0 := rowF_eq (zeros_len _) fun j _ => at8_zeros _ _
    rw [← e]; exact this
  have hv : Has8 (w0.alloc (.cells (vfs (zeros n)) 5)) g0 (rowF l (at8 xs)) cap0 := by
    rw [rowF_of HXL.out]
    exact has8_below hh0 ((Below.refl _ _).alloc (Nat.le_refl _) _)
  have HRun : Hid _ := hrun
  have HS1 : Hid _ := hS1
  have HB1 : Hid _ := hb1
  have HZ : Hid _ := hz
  have HV : Hid _ := hv
  have h0s : w.heap.size ≤ w0.heap.size := hb0.size
  obtain ⟨aR, cR, eR⟩ := own_shape hS.rows
  have ER : Hid _ := eR
  have c2 := cellAt hS1.box 1 _ rfl
  rw [eR] at c2
  clear hS hf hx hX hnil hal hrun hh0 hg0 hor hb0 hS0 hS1 hb1 hz hv eR
  go_enter Tryd.func43, Tryd.ntmps43
  go_wp2_with (at_builtin; refine wpList_append_run rfl _ _ 22 rfl _ _ _ _ rfl rfl HRun.out ?_)
  clear hmk c1 c2
  generalize hN : w0.heap.size = N at *
  generalize (w0.alloc (.cells (vfs (zeros n)) 5)) = W1 at *
  clear hN
  go_loopw [1, 6, 22] (fun v u i wr => ∃ (k g1 cap1 g2 cap2 : Nat), k ≤ t ∧ i = .int .i64 k ∧ v = .slice (some ⟨g1, 0, none⟩) l cap1 ∧ u = .slice (some ⟨g2, 0, none⟩) n cap2 ∧
    Has8 wr g1 (rowF l (wN V (f.getD · 0) (at8 xs) k)) cap1 ∧ Has8 wr g2 (rowF n (uN V (madeF Ms) (f.getD · 0) (at8 xs) k)) cap2 ∧ w.heap.size ≤ g1 ∧ w.heap.size ≤ g2 ∧ Below W1.heap.size W1 wr) (fun _ _ i _ => t - (intOf i).toNat)
  case atStart => exact ⟨0, g0, cap0, N, n, by omega, rfl, rfl, rfl, HV.out, HZ.out, hg0', h0s, Below.refl _ _⟩
  case round =>
    obtain ⟨k, g1, cap1, g2, cap2, hk, rfl, rfl, rfl, hv, hu, hg1, hg2, hbw⟩ := hrel
    have hSr := HS1.out.below hbw
    have hcap2 : n ≤ cap2 := by obtain ⟨_, _, _, h3, _⟩ := hu; rwa [rowF_len] at h3
    have HSR : Hid _ := hSr
    have HBW : Hid _ := hbw
    have HV1 : Hid _ := hv
    have HU1 : Hid _ := hu
    have c4 := cellAt hSr.box 4 _ rfl
    by_cases hlt : k < t
    · obtain ⟨bF, cF, eF, cF1, _⟩ := own_cell hSr.firsts (natV_at (getD_some (by rw [hSr.fl]; exact hlt)))
      have c3 := cellAt hSr.box 3 _ rfl
      rw [eF] at c3
      have hfk := HF.out k hlt
      have c5 := has8_cell hv (j := f.getD k 0) (by rw [rowF_len]; exact hfk)
      rw [at8_rowF hfk] at c5
      have c5a := c5.1
      generalize hy : f.getD k 0 = y at *
      have hy2 : (f[k]?.getD 0) = y := hy
      generalize hxx : wN V (f.getD · 0) (at8 xs) k y = x at *
      have HXX : Hid _ := hxx
      have HY : Hid _ := hy
      clear hy hy2 hxx hv hu hbw c5 hSr
      by_cases hzero : x = 0
      · subst hzero
        go_wp2
        refine ⟨⟨k + 1, g1, cap1, g2, cap2, by omega, by go_num, by first | rfl | trivial, by first | rfl | trivial, ?_, ?_, hg1, hg2, HBW.out⟩, by simp [intOf]; omega⟩
        · rw [rowF_congr (g := wN V (f.getD · 0) (at8 xs) k) (fun j _ => by simp only [wN]; rw [HY.out, HXX.out, F.zero_mul, F.add_zero])]; exact HV1.out
        · rw [rowF_congr (g := uN V (madeF Ms) (f.getD · 0) (at8 xs) k) (fun j _ => by simp only [uN]; rw [HY.out, HXX.out, F.zero_mul, F.add_zero])]; exact HU1.out
      · have hnz : ((x.toNat : Int)) ≠ 0 := by
          intro e; exact hzero (F.val_eq_zero.1 (by omega))
        obtain ⟨bR, cR2, eR2, cR1, _⟩ := own_cell HSR.out.rows (spR_at hlt)
        have c6 := cellAt HSR.out.box 1 _ rfl
        rw [eR2] at c6
        go_wp2_with fail
        refine Calls.mono (less_F x (some ⟨g1, 0, none⟩) (fr k).1 l cap1 l (fr k).2 (rowF l (wN V (f.getD · 0) (at8 xs) k)) (rowF l (V k)) _ (rowF_len _ _).symm (rowF_len _ _).symm (by omega) (by omega) (row8_has HV1.out) (HSR.out.rowT k hlt).row8) ?_
        rintro e w3 ⟨g3, cap3, rfl, hg3, hb3, hh3⟩
        rw [scaled_row] at hh3 ⊢
        rw [rowF_len]
        have hS3 := HSR.out.below hb3
        have HS3 : Hid _ := hS3
        have HU3 : Hid _ := has8_below HU1.out hb3
        have HV3 : Hid _ := hh3
        have HB3 : Hid _ := HBW.out.trans (hb3.mono HBW.out.size)
        have hsz3 := HBW.out.size
        obtain ⟨bM, cM2, eM2, cM1, _⟩ := own_cell hS3.made (spM_at hlt)
        have c7 := cellAt hS3.box 2 _ rfl
        rw [eM2] at c7
        have hml := HSR.out.ml k hlt
        clear hS3 hb3 hh3 c3 c4 c5a c6 cF1 cR1
        go_wp2_with fail
        refine Calls.mono (less_F x (some ⟨g2, 0, none⟩) (fm k).1 n cap2 (Ms k).length (fm k).2 (rowF n (uN V (madeF Ms) (f.getD · 0) (at8 xs) k)) (Ms k) _ (rowF_len _ _).symm rfl (by omega) (by omega) (row8_has HU3.out) (HS3.out.madeT k hlt).row8) ?_
        rintro e w4 ⟨g4, cap4, rfl, hg4, hb4, hh4⟩
        rw [scaled_made _ _ _ _ hml] at hh4 ⊢
        rw [rowF_len]
        have HV4 : Hid _ := has8_below HV3.out hb4
        have HU4 : Hid _ := hh4
        have HB4 : Hid _ := HB3.out.trans (hb4.mono HB3.out.size)
        have hsz4 := HB3.out.size
        have hw1 := HB1.out.size
        clear hb4 hh4 c7 cM1
        go_wp2
        refine ⟨⟨k + 1, g3, cap3, g4, cap4, by omega, by go_num, by first | rfl | trivial, by first | rfl | trivial, ?_, ?_, by omega, by omega, HB4.out⟩, by simp [intOf]; omega⟩
        · rw [rowF_congr (g := fun j => ga (wN V (f.getD · 0) (at8 xs) k j) (gm x (V k j))) (fun j _ => by simp only [wN]; rw [HY.out, HXX.out])]; exact HV4.out
        · rw [rowF_congr (g := fun j => ga (uN V (madeF Ms) (f.getD · 0) (at8 xs) k j) (gm x (at8 (Ms k) j))) (fun j _ => by simp only [uN, madeF]; rw [HY.out, HXX.out])]; exact HU4.out
    · obtain rfl : k = t := by omega
      clear hv hu hbw hSr
      go_wp2
      go_region
      go_wp2
      exact bodyPost_ret (v := .tuple #[.slice (some ⟨g1, 0, none⟩) l cap1, .slice (some ⟨g2, 0, none⟩) n cap2]) (by simp [results, Tryd.results43, go_sem]) rfl ⟨g1, cap1, g2, cap2, rfl, HV1.out, HU1.out, hg1, hg2, (HB1.out.trans (HBW.out.mono HB1.out.size)).drew⟩
end Go.Proofs.YtgfiolfhckkpjaaDoor

/- One row, making, column or number more in the span. -/
namespace Go.Proofs.YtgfiolfhckkpjaaDoor
open Go.RowKit Gf
set_option linter.unusedVariables false
set_option maxRecDepth 20000
theorem wanted_append_run3 {P : Program} {w : World} {o : Oper} {a : Act} {K : Act → World → Prop} {Q : Exit → Act → World → Prop} {ys : Nat → Option Bool} {L : Prop} (hgd : o.guard = none) (s x : Operand) (t : TypeId)
    (ho : o.op = .call { callee := .builtin .append, args := #[s, x], argTypes := #[t, t] }) (v u r : Value) (w' : World) (hs : a.eval s = v) (hx : a.eval x = u)
    (hr : (Builtin.append_ #[t, t] o.type #[v, u]).run P w = .ok r w') (h : K (a.put o.dst r) w') : if Region.wanted o ys = true then Oper.wp P o a w K Q else L := by
  rw [if_pos (by simp [Region.wanted, hgd])]
  unfold Oper.wp execOp
  simp only [ho, resolve, invoke, builtin, Sem.run_bind, Sem.run_pure, Result.andThen_ok, List.map_toArray, List.map_cons, List.map_nil, hs, hx, hr]
  exact h
theorem own_apart2 {w w' : World} {B size n : Nat} {v u : Value} {e : TypeId} {xs : List Value} (ho : w.ownsRow B e size u n xs) (h : w.grownBy w' v.ownBlock) (hne : v.ownBlock = none ∨ v.ownBlock ≠ u.ownBlock) : w'.ownsRow B e size u n xs :=
  ho.kept h (by
    cases hu : u.ownBlock with
    | none => exact .inl rfl
    | some g =>
      refine .inr fun e => ?_
      rcases hne with h0 | h0
      · rw [h0] at e; cases e
      · exact h0 (by rw [hu]; exact e.symm))
theorem own_kind {w w' : World} {B B2 size m n : Nat} {v u : Value} {e e2 : TypeId} {xs ys : List Value} (ho : w.ownsRow B e size u n xs) (hv : w.ownsRow B2 e2 size v m ys) (he : e ≠ e2) (h : w.grownBy w' v.ownBlock) : w'.ownsRow B e size u n xs :=
  own_apart2 ho h (by
    rcases hv.2 with ⟨rfl, _⟩ | ⟨g, cap, cur, rfl, _, h1, _⟩
    · exact .inl rfl
    · refine .inr fun e3 => ?_
      rcases ho.2 with ⟨rfl, _⟩ | ⟨g', cap', cur', rfl, _, h2, _⟩
      · cases e3
      · have : g = g' := by simpa [Value.ownBlock] using e3
        rw [this, h2] at h1
        cases h1
        exact he rfl)
theorem own_set {w : World} {B size n SB k : Nat} {u v : Value} {e t : TypeId} {xs : List Value} {cs : Array Value} {fr : Nat × Nat} (ho : w.ownsRow B e size u n xs) (hb : w.heap[SB]? = some (.cells cs t fr)) (he : t ≠ e) : (w.setCell ⟨SB, k, none⟩ v).ownsRow B e size u n xs :=
  ho.kept (grownBy_setCell (World.grownBy.refl w (some SB)) _) (by
    rcases ho.2 with ⟨rfl, _⟩ | ⟨g, cap, cur, rfl, _, h2, _⟩
    · exact .inl rfl
    · refine .inr fun e3 => ?_
      have : g = SB := by simpa [Value.ownBlock] using e3
      rw [this, hb] at h2
      cases h2
      exact he rfl)
theorem own_new_ne {w : World} {B size n : Nat} {v u : Value} {e : TypeId} {xs : List Value} {g m cap : Nat} (ho : w.ownsRow B e size u n xs) (hne : v.ownBlock = none ∨ v.ownBlock ≠ u.ownBlock) (hor : v.ownBlock = some g ∨ g = w.heap.size) :
    (Value.slice (some ⟨g, 0, none⟩) m cap).ownBlock ≠ u.ownBlock := by
  intro e2
  have e3 : u.ownBlock = some g := e2.symm
  rcases hor with h | h
  · rcases hne with h0 | h0
    · rw [h0] at h; cases h
    · exact h0 (h.trans e3.symm)
  · have := (ho.lt g e3).2
    omega
variable {w : World} {B SB c n tR tM tF tB : Nat} {vR vM vF vB : Value} {fr fm : Nat → Option Addr × Nat} {V : Mt} {Ms : Nat → List F} {f bs : List Nat}
/-- what a push leaves of lists of elements that are none of the span's -/
def Keeps (w w' : World) : Prop := ∀ a xs, Row8T w a xs → Row8T w' a xs
theorem SpanW.push_rows (h : SpanW w B SB c n tR tM tF tB vR vM vF vB fr fm V Ms f bs) {b : Nat} {a : Option Addr} {m : Nat} {v : Nat → F} (ty : TypeId) (hx : w.cell? ⟨b, 0, none⟩ = some (.slice a c m)) (ha : Row8T w a (rowF c v)) (hB : B ≤ w.heap.size) (hSB : B ≤ SB) (ht : tR ≤ 4096) :
    ∃ g cap w', (Builtin.append_ #[50, 50] ty #[vR, .slice (some ⟨b, 0, none⟩) 1 1]).run Tryd.prog w = .ok (.slice (some ⟨g, 0, none⟩) (tR + 1) cap) w' ∧ w'.cell? ⟨SB, 1, none⟩ = some vR ∧ w'.frozen? ⟨SB, 1, none⟩ = false ∧ Below B w w' ∧ Below B w (w'.setCell ⟨SB, 1, none⟩ (.slice (some ⟨g, 0, none⟩) (tR + 1) cap)) ∧ Keeps w (w'.setCell ⟨SB, 1, none⟩ (.slice (some ⟨g, 0, none⟩) (tR + 1) cap)) ∧
      SpanW (w'.setCell ⟨SB, 1, none⟩ (.slice (some ⟨g, 0, none⟩) (tR + 1) cap)) B SB c n (tR + 1) tM tF tB (.slice (some ⟨g, 0, none⟩) (tR + 1) cap) vM vF vB (fun i => if i = tR then (a, m) else fr i) fm (fun i => if i = tR then v else V i) Ms f bs := by
  obtain ⟨g, cap, w', hrun, ho, hgr, hor, hlt⟩ := appendS (c := 1) ty h.rows hx rfl ht hB
  rw [spR_snoc] at ho
  have hbox := own_other h.rows hgr h.box (by decide)
  have hK : Keeps w (w'.setCell ⟨SB, 1, none⟩ (.slice (some ⟨g, 0, none⟩) (tR + 1) cap)) := fun a xs hh => row8T_grown (row8T_grown hh hgr (noElems_own h.rows (by decide))) (grownBy_setCell (World.grownBy.refl w' (some SB)) _) (noElems_some hbox (by decide))
  have hne := own_new_ne (m := tR + 1) (cap := cap) h.made h.ne1 hor
  have hb := below_own (Below.refl B w) h.rows hgr hB
  refine ⟨g, cap, w', hrun, cellAt hbox 1 _ rfl, frozen_of_row _ _ _ _ _ hbox, hb, hb.setCell hSB _, hK, ⟨?_, own_set ho hbox (by decide), own_set (own_apart2 h.made hgr h.ne1) hbox (by decide), own_set (own_kind h.firsts h.rows (by decide) hgr) hbox (by decide), own_set (own_kind h.basis h.rows (by decide) hgr) hbox (by decide), h.fl, h.bl, fun i hi => ?_, fun i hi => hK _ _ (h.madeT i hi), h.ml, .inr hne, h.ne2, .inr fun e => hne e.symm, h.ne4⟩⟩
  · rw [heap_setCell_same _ _ _ _ _ _ hbox]; rfl
  · by_cases e : i = tR
    · simp only [e, if_true]; exact hK _ _ ha
    · simp only [e, if_false]; exact hK _ _ (h.rowT i (by omega))
theorem SpanW.push_made (h : SpanW w B SB c n tR tM tF tB vR vM vF vB fr fm V Ms f bs) {b : Nat} {a : Option Addr} {m : Nat} {us : List F} (ty : TypeId) (hx : w.cell? ⟨b, 0, none⟩ = some (.slice a us.length m)) (ha : Row8T w a us) (hu : us.length ≤ n) (hB : B ≤ w.heap.size) (hSB : B ≤ SB) (ht : tM ≤ 4096) :
    ∃ g cap w', (Builtin.append_ #[50, 50] ty #[vM, .slice (some ⟨b, 0, none⟩) 1 1]).run Tryd.prog w = .ok (.slice (some ⟨g, 0, none⟩) (tM + 1) cap) w' ∧ w'.cell? ⟨SB, 2, none⟩ = some vM ∧ w'.frozen? ⟨SB, 2, none⟩ = false ∧ Below B w w' ∧ Below B w (w'.setCell ⟨SB, 2, none⟩ (.slice (some ⟨g, 0, none⟩) (tM + 1) cap)) ∧ Keeps w (w'.setCell ⟨SB, 2, none⟩ (.slice (some ⟨g, 0, none⟩) (tM + 1) cap)) ∧
      SpanW (w'.setCell ⟨SB, 2, none⟩ (.slice (some ⟨g, 0, none⟩) (tM + 1) cap)) B SB c n tR (tM + 1) tF tB vR (.slice (some ⟨g, 0, none⟩) (tM + 1) cap) vF vB fr (fun i => if i = tM then (a, m) else fm i) V (fun i => if i = tM then us else Ms i) f bs := by
  obtain ⟨g, cap, w', hrun, ho, hgr, hor, hlt⟩ := appendS (c := 1) ty h.made hx rfl ht hB
  rw [spM_snoc] at ho
  have hbox := own_other h.made hgr h.box (by decide)
  have hK : Keeps w (w'.setCell ⟨SB, 2, none⟩ (.slice (some ⟨g, 0, none⟩) (tM + 1) cap)) := fun a xs hh => row8T_grown (row8T_grown hh hgr (noElems_own h.made (by decide))) (grownBy_setCell (World.grownBy.refl w' (some SB)) _) (noElems_some hbox (by decide))
  have hne := own_new_ne (m := tM + 1) (cap := cap) h.rows h.ne3 hor
  have hb := below_own (Below.refl B w) h.made hgr hB
  refine ⟨g, cap, w', hrun, cellAt hbox 2 _ rfl, frozen_of_row _ _ _ _ _ hbox, hb, hb.setCell hSB _, hK, ⟨?_, own_set (own_apart2 h.rows hgr h.ne3) hbox (by decide), own_set ho hbox (by decide), own_set (own_kind h.firsts h.made (by decide) hgr) hbox (by decide), own_set (own_kind h.basis h.made (by decide) hgr) hbox (by decide), h.fl, h.bl, fun i hi => hK _ _ (h.rowT i hi), fun i hi => ?_, fun i hi => ?_, .inr fun e => hne e.symm, h.ne2, .inr hne, h.ne4⟩⟩
  · rw [heap_setCell_same _ _ _ _ _ _ hbox]; rfl
  · by_cases e : i = tM
    · simp only [e, if_true]; exact hK _ _ ha
    · simp only [e, if_false]; exact hK _ _ (h.madeT i (by omega))
  · by_cases e : i = tM
    · simp only [e, if_true]; exact hu
    · simp only [e, if_false]; exact h.ml i (by omega)
theorem SpanW.push_first (h : SpanW w B SB c n tR tM tF tB vR vM vF vB fr fm V Ms f bs) {b k : Nat} (ty : TypeId) (hx : w.cell? ⟨b, 0, none⟩ = some (.int .i64 k)) (hB : B ≤ w.heap.size) (hSB : B ≤ SB) (ht : tF ≤ 4096) :
    ∃ g cap w', (Builtin.append_ #[38, 38] ty #[vF, .slice (some ⟨b, 0, none⟩) 1 1]).run Tryd.prog w = .ok (.slice (some ⟨g, 0, none⟩) (tF + 1) cap) w' ∧ w'.cell? ⟨SB, 3, none⟩ = some vF ∧ w'.frozen? ⟨SB, 3, none⟩ = false ∧ Below B w (w'.setCell ⟨SB, 3, none⟩ (.slice (some ⟨g, 0, none⟩) (tF + 1) cap)) ∧
      SpanW (w'.setCell ⟨SB, 3, none⟩ (.slice (some ⟨g, 0, none⟩) (tF + 1) cap)) B SB c n tR tM (tF + 1) tB vR vM (.slice (some ⟨g, 0, none⟩) (tF + 1) cap) vB fr fm V Ms (f ++ [k]) bs := by
  obtain ⟨g, cap, w', hrun, ho, hgr, hor, hlt⟩ := appendI (c := 1) ty h.firsts hx (by omega) hB
  rw [natV_snoc] at ho
  have hbox := own_other h.firsts hgr h.box (by decide)
  have hK : Keeps w (w'.setCell ⟨SB, 3, none⟩ (.slice (some ⟨g, 0, none⟩) (tF + 1) cap)) := fun a xs hh => row8T_grown (row8T_grown hh hgr (noElems_own h.firsts (by decide))) (grownBy_setCell (World.grownBy.refl w' (some SB)) _) (noElems_some hbox (by decide))
  have hne := own_new_ne (m := tF + 1) (cap := cap) h.basis h.ne2 hor
  refine ⟨g, cap, w', hrun, cellAt hbox 3 _ rfl, frozen_of_row _ _ _ _ _ hbox, (below_own (Below.refl B w) h.firsts hgr hB).setCell hSB _, ⟨?_, own_set (own_kind h.rows h.firsts (by decide) hgr) hbox (by decide), own_set (own_kind h.made h.firsts (by decide) hgr) hbox (by decide), own_set ho hbox (by decide), own_set (own_apart2 h.basis hgr h.ne2) hbox (by decide), by simp [h.fl], h.bl, fun i hi => hK _ _ (h.rowT i hi), fun i hi => hK _ _ (h.madeT i hi), h.ml, h.ne1, .inr hne, h.ne3, .inr fun e => hne e.symm⟩⟩
  rw [heap_setCell_same _ _ _ _ _ _ hbox]; rfl
theorem SpanW.push_basis (h : SpanW w B SB c n tR tM tF tB vR vM vF vB fr fm V Ms f bs) {b k : Nat} (ty : TypeId) (hx : w.cell? ⟨b, 0, none⟩ = some (.int .i64 k)) (hB : B ≤ w.heap.size) (hSB : B ≤ SB) (ht : tB ≤ 4096) :
    ∃ g cap w', (Builtin.append_ #[38, 38] ty #[vB, .slice (some ⟨b, 0, none⟩) 1 1]).run Tryd.prog w = .ok (.slice (some ⟨g, 0, none⟩) (tB + 1) cap) w' ∧ w'.cell? ⟨SB, 5, none⟩ = some vB ∧ w'.frozen? ⟨SB, 5, none⟩ = false ∧ Below B w (w'.setCell ⟨SB, 5, none⟩ (.slice (some ⟨g, 0, none⟩) (tB + 1) cap)) ∧
      SpanW (w'.setCell ⟨SB, 5, none⟩ (.slice (some ⟨g, 0, none⟩) (tB + 1) cap)) B SB c n tR tM tF (tB + 1) vR vM vF (.slice (some ⟨g, 0, none⟩) (tB + 1) cap) fr fm V Ms f (bs ++ [k]) := by
  obtain ⟨g, cap, w', hrun, ho, hgr, hor, hlt⟩ := appendI (c := 1) ty h.basis hx (by omega) hB
  rw [natV_snoc] at ho
  have hbox := own_other h.basis hgr h.box (by decide)
  have hK : Keeps w (w'.setCell ⟨SB, 5, none⟩ (.slice (some ⟨g, 0, none⟩) (tB + 1) cap)) := fun a xs hh => row8T_grown (row8T_grown hh hgr (noElems_own h.basis (by decide))) (grownBy_setCell (World.grownBy.refl w' (some SB)) _) (noElems_some hbox (by decide))
  have hne := own_new_ne (m := tB + 1) (cap := cap) h.firsts h.ne4 hor
  refine ⟨g, cap, w', hrun, cellAt hbox 5 _ rfl, frozen_of_row _ _ _ _ _ hbox, (below_own (Below.refl B w) h.basis hgr hB).setCell hSB _, ⟨?_, own_set (own_kind h.rows h.basis (by decide) hgr) hbox (by decide), own_set (own_kind h.made h.basis (by decide) hgr) hbox (by decide), own_set (own_apart2 h.firsts hgr h.ne4) hbox (by decide), own_set ho hbox (by decide), h.fl, by simp [h.bl], fun i hi => hK _ _ (h.rowT i hi), fun i hi => hK _ _ (h.madeT i hi), h.ml, h.ne1, .inr fun e => hne e.symm, h.ne3, .inr hne⟩⟩
  rw [heap_setCell_same _ _ _ _ _ _ hbox]; rfl
theorem SpanW.drew (h : SpanW w B SB c n tR tM tF tB vR vM vF vB fr fm V Ms f bs) : SpanW w.drew B SB c n tR tM tF tB vR vM vF vB fr fm V Ms f bs :=
  ⟨h.box, World.ownsRow.drew h.rows, World.ownsRow.drew h.made, World.ownsRow.drew h.firsts, World.ownsRow.drew h.basis, h.fl, h.bl, h.rowT, h.madeT, h.ml, h.ne1, h.ne2, h.ne3, h.ne4⟩
/-- one row more is counted -/
theorem SpanW.count (h : SpanW w B SB c n tR tM tF tB vR vM vF vB fr fm V Ms f bs) : Keeps w (w.setCell ⟨SB, 4, none⟩ (.int .i64 ((n : Int) + 1))) ∧ SpanW (w.setCell ⟨SB, 4, none⟩ (.int .i64 ((n : Int) + 1))) B SB c (n + 1) tR tM tF tB vR vM vF vB fr fm V Ms f bs := by
  have hbox := h.box
  have hK : Keeps w (w.setCell ⟨SB, 4, none⟩ (.int .i64 ((n : Int) + 1))) := fun a xs hh => row8T_grown hh (grownBy_setCell (World.grownBy.refl w (some SB)) _) (noElems_some hbox (by decide))
  refine ⟨hK, ⟨?_, own_set h.rows hbox (by decide), own_set h.made hbox (by decide), own_set h.firsts hbox (by decide), own_set h.basis hbox (by decide), h.fl, h.bl, fun i hi => hK _ _ (h.rowT i hi), fun i hi => hK _ _ (h.madeT i hi), fun i hi => Nat.le_succ_of_le (h.ml i hi), h.ne1, h.ne2, h.ne3, h.ne4⟩⟩
  rw [heap_setCell_same _ _ _ _ _ _ hbox]
  have e : ((n : Int) + 1) = ((n + 1 : Nat) : Int) := by simp
  rw [e]; rfl
end Go.Proofs.YtgfiolfhckkpjaaDoor

/- The document's own span: one row more. -/
namespace Go.Proofs.YtgfiolfhckkpjaaDoor
open Go.RowKit Gf
set_option linter.unusedVariables false
set_option maxRecDepth 20000
theorem SpanOf.congrF {A V V' U U' : Mt} {c n t : Nat} {f f' : Nat → Nat} (h : SpanOf A c n t V U f) (hV : ∀ i, i < t → ∀ j, j < c → V i j = V' i j) (hU : ∀ i, i < t → ∀ l, l < n → U i l = U' i l) (hf : ∀ i, i < t → f i = f' i) : SpanOf A c n t V' U' f' := by
  refine ⟨fun i hi j hj => ?_, fun i hi => ?_, fun i k hik hk => ?_, fun i hi => ?_, fun i hi l hl hn => ?_, h.len, fun i hi => ?_⟩
  · rw [← hV i hi j hj, h.made i hi j hj]; exact sumF_congr fun l hl => by rw [hU i hi l hl]
  · rw [← hf i hi, ← hV i hi _ (h.lt i hi)]; exact h.one i hi
  · rw [← hf i (by omega), ← hV k hk _ (h.lt i (by omega))]; exact h.zero i k hik hk
  · rw [← hf i hi]; exact h.lt i hi
  · rw [← hU i hi l hl]; exact h.off i hi l hl hn
  · obtain ⟨x, hx⟩ := h.all i hi
    exact ⟨x, fun j hj => by rw [hx j hj]; exact sumF_congr fun k hk => by rw [hV k hk j hj]⟩
set_option maxHeartbeats 16000000 in
theorem radd_F (A : Mt) (B SB c n t : Nat) (vR vM vF vB : Value) (fr fm : Nat → Option Addr × Nat) (V : Mt) (Ms : Nat → List F) (f : List Nat) (a : Option Addr) (cap : Nat) (xs : List F) (w : World)
    (hS : SpanW w B SB c n t t t t vR vM vF vB fr fm V Ms f (pivL (tr A) c n)) (hSO : SpanOf A c n t V (madeF Ms) (f.getD · 0)) (hrow : at8 xs = A n) (hc : c ≤ 64) (hn : n < 64) (hx : xs.length = c) (hX : Row8 w a xs) (hnil : a = none → cap = 0) (hBw : B ≤ w.heap.size) (hSB : B ≤ SB) :
    Calls Tryd.prog 42 #[.pointer (some ⟨SB, 0, none⟩), .slice a c cap] w fun e w' => e = .returned (.tuple #[]) ∧ Below B w w' ∧ ∃ t' vR' vM' vF' vB' fr' fm' V' Ms' f',
      SpanW w' B SB c (n + 1) t' t' t' t' vR' vM' vF' vB' fr' fm' V' Ms' f' (pivL (tr A) c (n + 1)) ∧ SpanOf A c (n + 1) t' V' (madeF Ms') (f'.getD · 0) := by
  have ht : t ≤ n := by rw [hSO.len]; exact pivL_le _ _ _
  have HSO : Hid _ := hSO
  have HS : Hid _ := hS
  have HFL : Hid _ := hS.fl
  have HMN : Hid (∀ i, i < t → madeF Ms i n = 0) := fun i hi => at8_over (hS.ml i hi)
  obtain ⟨aR, cR, rfl⟩ := own_shape hS.rows
  obtain ⟨aM, cM, rfl⟩ := own_shape hS.made
  obtain ⟨aF, cF, rfl⟩ := own_shape hS.firsts
  obtain ⟨aB, cB, rfl⟩ := own_shape hS.basis
  have hrest := rest_F B SB c n t _ _ _ _ fr fm V Ms f _ a c cap xs w hS hc (by omega) (by omega) hSO.lt rfl hx hX hnil
  rw [hrow] at hrest
  have HREST : Hid _ := hrest
  clear hS hSO hrest hx hX hnil hrow
  go_enter Tryd.func42, Tryd.ntmps42
  go_wp2_with fail
  refine Calls.mono HREST.out ?_
  rintro e w1 ⟨g1, cap1, g2, cap2, rfl, hw, hu, hg1, hg2, hb⟩
  have hS1 := HS.out.below hb
  have c4 := cellAt hS1.box 4 _ rfl
  have d4 : w1.frozen? ⟨SB, 4, none⟩ = false := frozen_of_row _ _ _ _ _ hS1.box
  obtain ⟨hK, hS2⟩ := hS1.count
  have hB2 : Below B w (w1.setCell ⟨SB, 4, none⟩ (.int .i64 ((n : Int) + 1))) := (hb.mono hBw).setCell hSB _
  have HSP2 : Hid _ := hS2
  have HBB2 : Hid _ := hB2
  have HWV : Hid (Row8T (w1.setCell ⟨SB, 4, none⟩ (.int .i64 ((n : Int) + 1))) (some ⟨g1, 0, none⟩) (rowF c (wN V (f.getD · 0) (A n) t))) := hK _ _ (has8_T hw)
  have HUU : Hid (Row8T (w1.setCell ⟨SB, 4, none⟩ (.int .i64 ((n : Int) + 1))) (some ⟨g2, 0, none⟩) (rowF n (uN V (madeF Ms) (f.getD · 0) (A n) t))) := hK _ _ (has8_T hu)
  have hBW2 : B ≤ (w1.setCell ⟨SB, 4, none⟩ (.int .i64 ((n : Int) + 1))).heap.size := Nat.le_trans hBw hB2.size
  clear hw hu hb hS1 hK hS2 hB2 hg1 hg2 HREST HS
  go_wp2
  clear c4 d4
  generalize (w1.setCell ⟨SB, 4, none⟩ (.int .i64 ((n : Int) + 1))) = W2 at *
  generalize hWW : wN V (f.getD · 0) (A n) t = WW at *
  generalize hUU : uN V (madeF Ms) (f.getD · 0) (A n) t = UU at *
  have HWW : Hid _ := hWW
  have HUUe : Hid _ := hUU
  clear hWW hUU
  go_loopw [7, 8] (fun s i wr => ∃ k : Nat, ∃ x : Int, k ≤ c ∧ i = .int .i64 ((k : Int) - 1) ∧ s = .int .i64 x ∧ wr = W2 ∧ ((x = -1 ∧ ∀ j, k ≤ j → j < c → WW j = 0) ∨ ∃ p : Nat, x = p ∧ p < c ∧ WW p ≠ 0)) (fun _ i _ => (intOf i + 1).toNat)
  case atStart => exact ⟨c, -1, Nat.le_refl _, rfl, rfl, rfl, .inl ⟨rfl, fun j h1 h2 => by omega⟩⟩
  case round =>
    obtain ⟨k, x, hk, rfl, rfl, rfl, hx⟩ := hrel
    have HXX : Hid _ := hx
    clear hx
    by_cases hk0 : k = 0
    · subst hk0
      rcases HXX.out with ⟨rfl, hz⟩ | ⟨p, rfl, hpc, hpz⟩
      · have HZ : Hid _ := hz
        clear hz
        go_wp2
        have hz2 : ∀ j, j < c → wN V (f.getD · 0) (A n) t j = 0 := fun j hj => by rw [HWW.out]; exact HZ.out j (Nat.zero_le _) hj
        exact ⟨rfl, .tuple #[], by simp [results, Tryd.results42, go_sem], rfl, HBB2.out, ⟨t, _, _, _, _, fr, fm, V, Ms, f, by rw [HSO.out.piv_no hz2]; exact HSP2.out, HSO.out.add_no hz2 HMN.out⟩⟩
      · have hpz : wN V (f.getD · 0) (A n) t p ≠ 0 := by rw [HWW.out]; exact hpz
        have HPZ : Hid _ := hpz
        clear HXX
        obtain ⟨g3, cap3, w3, hrun3, hh3, hg3, hor3⟩ := append8_any (n := 0) (m := n) (c := cap2) 22 (has8_empty (heap_alloc_last wr (.cells #[] 5))) rfl (rowF_len n UU).symm (by omega) (row8_below HUU.out.row8 ((Below.refl _ _).alloc (Nat.le_refl _) _)) (fun h => by cases h)
        rw [Nat.zero_add] at hrun3
        rw [List.nil_append] at hh3
        have hal3 : Below wr.heap.size wr (wr.alloc (.cells #[] 5)) := (Below.refl _ _).alloc (Nat.le_refl _) _
        have hb3 : Below wr.heap.size wr w3 := grownBy_below hal3 hg3 (Nat.le_refl _) hal3.size
        have hg3' : wr.heap.size ≤ g3 := by
          rcases hor3 with e | e
          · omega
          · rw [World.size_alloc] at e; omega
        have hal4 : Below w3.heap.size w3 (w3.alloc (.cells #[.int .u8 1] 5)) := (Below.refl _ _).alloc (Nat.le_refl _) _
        have h1r : Row8 (w3.alloc (.cells #[.int .u8 1] 5)) (some ⟨w3.heap.size, 0, none⟩) [1] := row8_own (show (w3.alloc (.cells #[.int .u8 1] 5)).heap[w3.heap.size]? = some (.cells (vfs [1]) 5 (0, 0)) from heap_alloc_last w3 _)
        obtain ⟨g4, cap4, w4, hrun4, hh4, hg4, hor4⟩ := append8_any (n := n) (m := 1) (c := 1) 22 (has8_below hh3 hal4) (rowF_len n UU).symm rfl (by omega) h1r (fun h => by cases h)
        have hb4 : Below wr.heap.size wr w4 := grownBy_below (hb3.trans (hal4.mono hb3.size)) hg4 hg3' (Nat.le_trans hb3.size hal4.size)
        have HR3 : Hid _ := hrun3
        have HR4 : Hid _ := hrun4
        obtain ⟨us, hus⟩ : ∃ us, us = rowF n UU ++ [1] := ⟨_, rfl⟩
        rw [← hus] at hh4
        have HUS : Hid (us = rowF n (uN V (madeF Ms) (f.getD · 0) (A n) t) ++ [1]) := by rw [HUUe.out]; exact hus
        have HUL : Hid (us.length = n + 1) := by show us.length = n + 1; rw [hus, List.length_append, rowF_len]; rfl
        have HU5 : Hid (Row8T w4 (some ⟨g4, 0, none⟩) us) := has8_T hh4
        have HSP5 : Hid (SpanW w4 B SB c (n + 1) t t t t _ _ _ _ fr fm V Ms f (pivL (tr A) c n)) := HSP2.out.below hb4
        have HW5 : Hid (Row8T w4 (some ⟨g1, 0, none⟩) (rowF c WW)) := row8T_below HWV.out hb4
        have HBB : Hid (Below B w w4) := HBB2.out.trans (hb4.mono hBW2)
        have hBW5 : B ≤ w4.heap.size := Nat.le_trans hBW2 hb4.size
        obtain ⟨bq, oq, eq, _, hcq⟩ := row8_cell HW5.out.row8 (j := p) (by rw [rowF_len]; exact hpc)
        cases eq
        have cp := hcq p (by rw [rowF_len]; exact hpc)
        rw [at8_rowF hpc, Nat.zero_add] at cp
        rw [HWW.out] at hpz
        clear hrun3 hh3 hg3 hor3 hal3 hb3 hg3' hal4 h1r hrun4 hh4 hg4 hor4 hb4 hus hcq HUU HSP2 HWV HBB2 hBW2
        go_wp2_with (first | (at_builtin; refine wpList_append_run rfl _ _ 22 rfl _ _ _ _ rfl rfl HR3.out ?_) | (at_builtin; refine wpList_append_run rfl _ _ 22 rfl _ _ _ _ rfl rfl HR4.out ?_))
        refine Calls.mono (rinv_yes hpz _) ?_
        rintro e w5 ⟨rfl, hw5⟩
        subst hw5
        have hpz := HPZ.out
        have HBN : Hid _ := hBW5
        clear cp HR3 HR4
        go_upto_region 12 with fail
        generalize w4 = W5 at *
        go_cut [] (fun wx => ∃ g8 cap8 a8 m8, SpanW wx B SB c (n + 1) (t + 1) t t t (.slice (some ⟨g8, 0, none⟩) (t + 1) cap8) (.slice aM t cM) (.slice aF t cF) (.slice aB t cB) (fun i => if i = t then (a8, m8) else fr i) fm (fun i => if i = t then (fun j => gm (inv (WW p)) (WW j)) else V i) Ms f (pivL (tr A) c n) ∧ Row8T wx (some ⟨g4, 0, none⟩) us ∧ Below B W5 wx)
        case first =>
          refine wp_region_noPanic ?_
          refine wp_region_held_drew (S := fun u => Below B W5 u) (by kernel_rfl) ?_ (fun hHeld => ?_)
          · exact (Below.refl B W5).drew
          refine wpAnyH_take (i := 0) (oi := { dst := some 56, op := Op.move (Operand.tmp 0), type := 45, pos := "ref.go:53", after := #[], guard := none }) (v := ?_) rfl (by kernel_rfl) (by kernel_rfl) (by kernel_rfl) (fun _ _ _ h => h) (Or.inl ⟨by rfl, ?_⟩) hHeld ?_
          rotate_left
          · intro u hSw
            go_simp
            try with_reducible rfl
          try simp only [Act.put, List.setIfInBounds_toArray, List.set_cons_zero, List.set_cons_succ]
          refine wpAnyH_take (i := 1) (oi := { dst := some 57, op := Op.move (Operand.tmp 0), type := 45, pos := "ref.go:53", after := #[], guard := none }) (v := ?_) rfl (by kernel_rfl) (by kernel_rfl) (by kernel_rfl) (fun _ _ _ h => h) (Or.inl ⟨by rfl, ?_⟩) hHeld ?_
          rotate_left
          · intro u hSw
            go_simp
            try with_reducible rfl
          try simp only [Act.put, List.setIfInBounds_toArray, List.set_cons_zero, List.set_cons_succ]
          refine wpAnyH_take (i := 2) (oi := { dst := some 58, op := Op.nilCheck (Operand.tmp 57), type := 0, pos := "ref.go:53", after := #[{ on := 1, ground := Ground.data }], guard := none }) (v := ?_) rfl (by kernel_rfl) (by kernel_rfl) (by kernel_rfl) (fun _ _ _ h => h) (Or.inl ⟨by rfl, ?_⟩) hHeld ?_
          rotate_left
          · intro u hSw
            go_simp
            try with_reducible rfl
          try simp only [Act.put, List.setIfInBounds_toArray, List.set_cons_zero, List.set_cons_succ]
          refine wpAnyH_take (i := 3) (oi := { dst := some 59, op := Op.fieldAddr 52 (Operand.tmp 58) 1, type := 0, pos := "ref.go:53", after := #[{ on := 2, ground := Ground.data }], guard := none }) (v := ?_) rfl (by kernel_rfl) (by kernel_rfl) (by kernel_rfl) (fun _ _ _ h => h) (Or.inl ⟨by rfl, ?_⟩) hHeld ?_
          rotate_left
          · intro u hSw
            go_simp
            try with_reducible rfl
          try simp only [Act.put, List.setIfInBounds_toArray, List.set_cons_zero, List.set_cons_succ]
          refine wpAnyH_take (i := 5) (oi := { dst := some 61, op := Op.move (Operand.tmp 9), type := 5, pos := "ref.go:53", after := #[], guard := none }) (v := ?_) rfl (by kernel_rfl) (by kernel_rfl) (by kernel_rfl) (fun _ _ _ h => h) (Or.inl ⟨by rfl, ?_⟩) hHeld ?_
          rotate_left
          · intro u hSw
            go_simp
            try with_reducible rfl
          try simp only [Act.put, List.setIfInBounds_toArray, List.set_cons_zero, List.set_cons_succ]
          refine wpAnyH_take (i := 6) (oi := { dst := some 62, op := Op.move (Operand.tmp 4), type := 22, pos := "ref.go:53", after := #[], guard := none }) (v := ?_) rfl (by kernel_rfl) (by kernel_rfl) (by kernel_rfl) (fun _ _ _ h => h) (Or.inl ⟨by rfl, ?_⟩) hHeld ?_
          rotate_left
          · intro u hSw
            go_simp
            try with_reducible rfl
          try simp only [Act.put, List.setIfInBounds_toArray, List.set_cons_zero, List.set_cons_succ]
          refine wpAnyH_ready (rs := [4, 7]) (by kernel_rfl) (by simp) ?_
          refine AllReadyH.cons (o := { dst := some 60, op := Op.load 50 (Operand.tmp 59), type := 50, pos := "ref.go:53", after := #[{ on := 3, ground := Ground.data }], guard := none }) rfl (fun K hK => ?_) (AllReadyH.cons (o := { dst := some 63, op := Op.call { callee := Callee.value (Operand.func 53), args := #[Operand.const (Value.slice none 0 0), Operand.tmp 61, Operand.tmp 62], argTypes := #[22, 5, 22] }, type := 22, pos := "ref.go:53", after := #[{ on := 5, ground := Ground.data }, { on := 6, ground := Ground.data }], guard := none }) rfl (fun K hK => ?_) AllReadyH.nil)
          · have cL := cellAt HSP5.out.box 1 _ rfl
            go_simp
            refine hK.out _ _ ?_ (fun hHeld => ?_)
            · exact (Below.refl B W5).drew
            clear hK K
            try simp only [Act.put, List.setIfInBounds_toArray, List.set_cons_zero, List.set_cons_succ]
            clear cL
            refine wpAnyH_ready (rs := [7]) (by kernel_rfl) (by simp) ?_
            refine AllReadyH.cons (o := { dst := some 63, op := Op.call { callee := Callee.value (Operand.func 53), args := #[Operand.const (Value.slice none 0 0), Operand.tmp 61, Operand.tmp 62], argTypes := #[22, 5, 22] }, type := 22, pos := "ref.go:53", after := #[{ on := 5, ground := Ground.data }, { on := 6, ground := Ground.data }], guard := none }) rfl (fun K hK => ?_) AllReadyH.nil
            go_simp
            refine Calls.mono (rscaled_F _ none (some ⟨g1, 0, none⟩) 0 0 c cap1 [] (rowF c WW) _ rfl (rowF_len _ _).symm (by omega) (by omega) (.inl rfl) HW5.out.row8) ?_
            rintro e w6 ⟨g6, cap6, rfl, hg6, hb6, hh6⟩
            rw [scaled_none] at hh6 ⊢
            rw [rowF_len]
            have hS6 : Below B W5 w6 := (Below.refl B W5).drew.trans (hb6.mono hBW5)
            have hsz6 : B ≤ w6.heap.size := Nat.le_trans hBW5 hb6.size
            have hsp6 : Hid _ := HSP5.out.drew.below hb6
            have hsp7 : Hid _ := hsp6.out.below ((Below.refl _ _).alloc (Nat.le_refl _) (.cells #[.slice (some ⟨g6, 0, none⟩) c cap6] 22))
            have hS7 : Hid (Below B W5 (w6.alloc (.cells #[.slice (some ⟨g6, 0, none⟩) c cap6] 22))) := hS6.alloc hsz6 _
            have hK7 : Keeps W5 (w6.alloc (.cells #[.slice (some ⟨g6, 0, none⟩) c cap6] 22)) := fun a xs h => row8T_below (row8T_below (show Row8T W5.drew a xs from h) hb6) ((Below.refl _ _).alloc (Nat.le_refl _) _)
            obtain ⟨g8, cap8, w8, hrun, hc8, hf8, hb8, hb9, hK8, hsp8⟩ := hsp7.out.push_rows 50 (cellAt (heap_alloc_last w6 _) 0 _ rfl) (row8T_below (has8_T hh6) ((Below.refl _ _).alloc (Nat.le_refl _) _)) (by simp; omega) hSB (by omega)
            have HRun : Hid _ := hrun
            have hc8 : Hid _ := hc8
            have hf8 : Hid _ := hf8
            have hS8 : Hid (Below B W5 w8) := hS7.out.trans hb8
            have hS9 : Hid (Below B W5 (w8.setCell ⟨SB, 1, none⟩ (.slice (some ⟨g8, 0, none⟩) (t + 1) cap8))) := hS7.out.trans hb9
            have hK9 : Hid (Keeps W5 (w8.setCell ⟨SB, 1, none⟩ (.slice (some ⟨g8, 0, none⟩) (t + 1) cap8))) := fun a xs h => hK8 _ _ (hK7 a xs h)
            have hsp9 : Hid _ := hsp8
            clear hb6 hh6 hrun hb8 hb9 hK7 hK8 hsp8 hsz6 hg6
            go_wp2_with fail
            refine hK.out _ _ ?_ (fun hHeld => ?_)
            · exact hS6
            clear hK K
            try simp only [Act.put, List.setIfInBounds_toArray, List.set_cons_zero, List.set_cons_succ]
            refine wpAnyH_ready (rs := [8]) (by kernel_rfl) (by simp) ?_
            refine AllReadyH.cons (o := { dst := some 64, op := Op.buildSlice 50 1 #[(0, Operand.tmp 63)], type := 50, pos := "ref.go:53", after := #[{ on := 7, ground := Ground.data }], guard := none }) rfl (fun K hK => ?_) AllReadyH.nil
            go_simp
            go_wp2_with fail
            refine hK.out _ _ ?_ (fun hHeld => ?_)
            · exact hS7.out
            clear hK K
            try simp only [Act.put, List.setIfInBounds_toArray, List.set_cons_zero, List.set_cons_succ]
            refine wpAnyH_ready (rs := [9]) (by kernel_rfl) (by simp) ?_
            refine AllReadyH.cons (o := { dst := some 65, op := Op.call { callee := Callee.builtin Builtin.append, args := #[Operand.tmp 60, Operand.tmp 64], argTypes := #[50, 50] }, type := 50, pos := "ref.go:53", after := #[{ on := 4, ground := Ground.data }, { on := 8, ground := Ground.data }, { on := 7, ground := Ground.chain }], guard := none }) rfl (fun K hK => ?_) AllReadyH.nil
            refine wanted_append_run3 rfl _ _ 50 rfl _ _ _ _ rfl rfl HRun.out ?_
            refine hK.out _ _ ?_ (fun hHeld => ?_)
            · exact hS8.out
            clear hK K
            try simp only [Act.put, List.setIfInBounds_toArray, List.set_cons_zero, List.set_cons_succ]
            refine wpAnyH_take (i := 10) (oi := { dst := some 66, op := Op.nilCheck (Operand.tmp 56), type := 0, pos := "ref.go:53", after := #[{ on := 0, ground := Ground.data }, { on := 0, ground := Ground.phase }, { on := 1, ground := Ground.phase }, { on := 2, ground := Ground.phase }, { on := 3, ground := Ground.phase }, { on := 4, ground := Ground.phase }, { on := 5, ground := Ground.phase }, { on := 6, ground := Ground.phase }, { on := 7, ground := Ground.phase }, { on := 8, ground := Ground.phase }, { on := 9, ground := Ground.phase }], guard := none }) (v := ?_) rfl (by kernel_rfl) (by kernel_rfl) (by kernel_rfl) (fun _ _ _ h => h) (Or.inl ⟨by rfl, ?_⟩) hHeld ?_
            rotate_left
            · intro u hSw
              go_simp
              try with_reducible rfl
            try simp only [Act.put, List.setIfInBounds_toArray, List.set_cons_zero, List.set_cons_succ]
            refine wpAnyH_take (i := 11) (oi := { dst := some 67, op := Op.fieldAddr 52 (Operand.tmp 66) 1, type := 0, pos := "ref.go:53", after := #[{ on := 10, ground := Ground.data }, { on := 0, ground := Ground.phase }, { on := 1, ground := Ground.phase }, { on := 2, ground := Ground.phase }, { on := 3, ground := Ground.phase }, { on := 4, ground := Ground.phase }, { on := 5, ground := Ground.phase }, { on := 6, ground := Ground.phase }, { on := 7, ground := Ground.phase }, { on := 8, ground := Ground.phase }, { on := 9, ground := Ground.phase }], guard := none }) (v := ?_) rfl (by kernel_rfl) (by kernel_rfl) (by kernel_rfl) (fun _ _ _ h => h) (Or.inl ⟨by rfl, ?_⟩) hHeld ?_
            rotate_left
            · intro u hSw
              go_simp
              try with_reducible rfl
            try simp only [Act.put, List.setIfInBounds_toArray, List.set_cons_zero, List.set_cons_succ]
            have cS := hc8.out
            have fS := hf8.out
            refine wpAnyH_ready (rs := [12]) (by kernel_rfl) (by simp) ?_
            refine AllReadyH.cons (o := { dst := none, op := Op.store 50 (Operand.tmp 67) (Operand.tmp 65), type := 0, pos := "ref.go:53", after := #[{ on := 11, ground := Ground.data }, { on := 9, ground := Ground.data }, { on := 9, ground := Ground.chain }, { on := 0, ground := Ground.phase }, { on := 1, ground := Ground.phase }, { on := 2, ground := Ground.phase }, { on := 3, ground := Ground.phase }, { on := 4, ground := Ground.phase }, { on := 5, ground := Ground.phase }, { on := 6, ground := Ground.phase }, { on := 7, ground := Ground.phase }, { on := 8, ground := Ground.phase }, { on := 9, ground := Ground.phase }], guard := none }) rfl (fun K hK => ?_) AllReadyH.nil
            go_simp
            refine hK.out _ _ ?_ (fun hHeld => ?_)
            · exact hS9.out
            clear hK K
            try simp only [Act.put, List.setIfInBounds_toArray, List.set_cons_zero, List.set_cons_succ]
            refine wpAnyH_done (by kernel_rfl) ?_ _
            refine NoPanic.normal ?_
            clear cS fS
            go_wp2
            go_meet
            exact Exists.intro g8 (Exists.intro cap8 (Exists.intro _ (Exists.intro _ (And.intro hsp9.out (And.intro (hK9.out _ _ HU5.out) hS9.out)))))
          · go_simp
            refine Calls.mono (rscaled_F _ none (some ⟨g1, 0, none⟩) 0 0 c cap1 [] (rowF c WW) _ rfl (rowF_len _ _).symm (by omega) (by omega) (.inl rfl) HW5.out.row8) ?_
            rintro e w6 ⟨g6, cap6, rfl, hg6, hb6, hh6⟩
            rw [scaled_none] at hh6 ⊢
            rw [rowF_len]
            have hS6 : Below B W5 w6 := (Below.refl B W5).drew.trans (hb6.mono hBW5)
            have hsz6 : B ≤ w6.heap.size := Nat.le_trans hBW5 hb6.size
            have hsp6 : Hid _ := HSP5.out.drew.below hb6
            have hsp7 : Hid _ := hsp6.out.below ((Below.refl _ _).alloc (Nat.le_refl _) (.cells #[.slice (some ⟨g6, 0, none⟩) c cap6] 22))
            have hS7 : Hid (Below B W5 (w6.alloc (.cells #[.slice (some ⟨g6, 0, none⟩) c cap6] 22))) := hS6.alloc hsz6 _
            have hK7 : Keeps W5 (w6.alloc (.cells #[.slice (some ⟨g6, 0, none⟩) c cap6] 22)) := fun a xs h => row8T_below (row8T_below (show Row8T W5.drew a xs from h) hb6) ((Below.refl _ _).alloc (Nat.le_refl _) _)
            obtain ⟨g8, cap8, w8, hrun, hc8, hf8, hb8, hb9, hK8, hsp8⟩ := hsp7.out.push_rows 50 (cellAt (heap_alloc_last w6 _) 0 _ rfl) (row8T_below (has8_T hh6) ((Below.refl _ _).alloc (Nat.le_refl _) _)) (by simp; omega) hSB (by omega)
            have HRun : Hid _ := hrun
            have hc8 : Hid _ := hc8
            have hf8 : Hid _ := hf8
            have hS8 : Hid (Below B W5 w8) := hS7.out.trans hb8
            have hS9 : Hid (Below B W5 (w8.setCell ⟨SB, 1, none⟩ (.slice (some ⟨g8, 0, none⟩) (t + 1) cap8))) := hS7.out.trans hb9
            have hK9 : Hid (Keeps W5 (w8.setCell ⟨SB, 1, none⟩ (.slice (some ⟨g8, 0, none⟩) (t + 1) cap8))) := fun a xs h => hK8 _ _ (hK7 a xs h)
            have hsp9 : Hid _ := hsp8
            clear hb6 hh6 hrun hb8 hb9 hK7 hK8 hsp8 hsz6 hg6
            go_wp2_with fail
            refine hK.out _ _ ?_ (fun hHeld => ?_)
            · exact hS6
            clear hK K
            try simp only [Act.put, List.setIfInBounds_toArray, List.set_cons_zero, List.set_cons_succ]
            refine wpAnyH_ready (rs := [4, 8]) (by kernel_rfl) (by simp) ?_
            refine AllReadyH.cons (o := { dst := some 60, op := Op.load 50 (Operand.tmp 59), type := 50, pos := "ref.go:53", after := #[{ on := 3, ground := Ground.data }], guard := none }) rfl (fun K hK => ?_) (AllReadyH.cons (o := { dst := some 64, op := Op.buildSlice 50 1 #[(0, Operand.tmp 63)], type := 50, pos := "ref.go:53", after := #[{ on := 7, ground := Ground.data }], guard := none }) rfl (fun K hK => ?_) AllReadyH.nil)
            · have cL := cellAt hsp6.out.box 1 _ rfl
              go_simp
              refine hK.out _ _ ?_ (fun hHeld => ?_)
              · exact hS6
              clear hK K
              try simp only [Act.put, List.setIfInBounds_toArray, List.set_cons_zero, List.set_cons_succ]
              clear cL
              refine wpAnyH_ready (rs := [8]) (by kernel_rfl) (by simp) ?_
              refine AllReadyH.cons (o := { dst := some 64, op := Op.buildSlice 50 1 #[(0, Operand.tmp 63)], type := 50, pos := "ref.go:53", after := #[{ on := 7, ground := Ground.data }], guard := none }) rfl (fun K hK => ?_) AllReadyH.nil
              go_simp
              go_wp2_with fail
              refine hK.out _ _ ?_ (fun hHeld => ?_)
              · exact hS7.out
              clear hK K
              try simp only [Act.put, List.setIfInBounds_toArray, List.set_cons_zero, List.set_cons_succ]
              refine wpAnyH_ready (rs := [9]) (by kernel_rfl) (by simp) ?_
              refine AllReadyH.cons (o := { dst := some 65, op := Op.call { callee := Callee.builtin Builtin.append, args := #[Operand.tmp 60, Operand.tmp 64], argTypes := #[50, 50] }, type := 50, pos := "ref.go:53", after := #[{ on := 4, ground := Ground.data }, { on := 8, ground := Ground.data }, { on := 7, ground := Ground.chain }], guard := none }) rfl (fun K hK => ?_) AllReadyH.nil
              refine wanted_append_run3 rfl _ _ 50 rfl _ _ _ _ rfl rfl HRun.out ?_
              refine hK.out _ _ ?_ (fun hHeld => ?_)
              · exact hS8.out
              clear hK K
              try simp only [Act.put, List.setIfInBounds_toArray, List.set_cons_zero, List.set_cons_succ]
              refine wpAnyH_take (i := 10) (oi := { dst := some 66, op := Op.nilCheck (Operand.tmp 56), type := 0, pos := "ref.go:53", after := #[{ on := 0, ground := Ground.data }, { on := 0, ground := Ground.phase }, { on := 1, ground := Ground.phase }, { on := 2, ground := Ground.phase }, { on := 3, ground := Ground.phase }, { on := 4, ground := Ground.phase }, { on := 5, ground := Ground.phase }, { on := 6, ground := Ground.phase }, { on := 7, ground := Ground.phase }, { on := 8, ground := Ground.phase }, { on := 9, ground := Ground.phase }], guard := none }) (v := ?_) rfl (by kernel_rfl) (by kernel_rfl) (by kernel_rfl) (fun _ _ _ h => h) (Or.inl ⟨by rfl, ?_⟩) hHeld ?_
              rotate_left
              · intro u hSw
                go_simp
                try with_reducible rfl
              try simp only [Act.put, List.setIfInBounds_toArray, List.set_cons_zero, List.set_cons_succ]
              refine wpAnyH_take (i := 11) (oi := { dst := some 67, op := Op.fieldAddr 52 (Operand.tmp 66) 1, type := 0, pos := "ref.go:53", after := #[{ on := 10, ground := Ground.data }, { on := 0, ground := Ground.phase }, { on := 1, ground := Ground.phase }, { on := 2, ground := Ground.phase }, { on := 3, ground := Ground.phase }, { on := 4, ground := Ground.phase }, { on := 5, ground := Ground.phase }, { on := 6, ground := Ground.phase }, { on := 7, ground := Ground.phase }, { on := 8, ground := Ground.phase }, { on := 9, ground := Ground.phase }], guard := none }) (v := ?_) rfl (by kernel_rfl) (by kernel_rfl) (by kernel_rfl) (fun _ _ _ h => h) (Or.inl ⟨by rfl, ?_⟩) hHeld ?_
              rotate_left
              · intro u hSw
                go_simp
                try with_reducible rfl
              try simp only [Act.put, List.setIfInBounds_toArray, List.set_cons_zero, List.set_cons_succ]
              have cS := hc8.out
              have fS := hf8.out
              refine wpAnyH_ready (rs := [12]) (by kernel_rfl) (by simp) ?_
              refine AllReadyH.cons (o := { dst := none, op := Op.store 50 (Operand.tmp 67) (Operand.tmp 65), type := 0, pos := "ref.go:53", after := #[{ on := 11, ground := Ground.data }, { on := 9, ground := Ground.data }, { on := 9, ground := Ground.chain }, { on := 0, ground := Ground.phase }, { on := 1, ground := Ground.phase }, { on := 2, ground := Ground.phase }, { on := 3, ground := Ground.phase }, { on := 4, ground := Ground.phase }, { on := 5, ground := Ground.phase }, { on := 6, ground := Ground.phase }, { on := 7, ground := Ground.phase }, { on := 8, ground := Ground.phase }, { on := 9, ground := Ground.phase }], guard := none }) rfl (fun K hK => ?_) AllReadyH.nil
              go_simp
              refine hK.out _ _ ?_ (fun hHeld => ?_)
              · exact hS9.out
              clear hK K
              try simp only [Act.put, List.setIfInBounds_toArray, List.set_cons_zero, List.set_cons_succ]
              refine wpAnyH_done (by kernel_rfl) ?_ _
              refine NoPanic.normal ?_
              clear cS fS
              go_wp2
              go_meet
              exact Exists.intro g8 (Exists.intro cap8 (Exists.intro _ (Exists.intro _ (And.intro hsp9.out (And.intro (hK9.out _ _ HU5.out) hS9.out)))))
            · go_simp
              go_wp2_with fail
              refine hK.out _ _ ?_ (fun hHeld => ?_)
              · exact hS7.out
              clear hK K
              try simp only [Act.put, List.setIfInBounds_toArray, List.set_cons_zero, List.set_cons_succ]
              refine wpAnyH_ready (rs := [4]) (by kernel_rfl) (by simp) ?_
              refine AllReadyH.cons (o := { dst := some 60, op := Op.load 50 (Operand.tmp 59), type := 50, pos := "ref.go:53", after := #[{ on := 3, ground := Ground.data }], guard := none }) rfl (fun K hK => ?_) AllReadyH.nil
              have cL := cellAt hsp7.out.box 1 _ rfl
              go_simp
              refine hK.out _ _ ?_ (fun hHeld => ?_)
              · exact hS7.out
              clear hK K
              try simp only [Act.put, List.setIfInBounds_toArray, List.set_cons_zero, List.set_cons_succ]
              clear cL
              refine wpAnyH_ready (rs := [9]) (by kernel_rfl) (by simp) ?_
              refine AllReadyH.cons (o := { dst := some 65, op := Op.call { callee := Callee.builtin Builtin.append, args := #[Operand.tmp 60, Operand.tmp 64], argTypes := #[50, 50] }, type := 50, pos := "ref.go:53", after := #[{ on := 4, ground := Ground.data }, { on := 8, ground := Ground.data }, { on := 7, ground := Ground.chain }], guard := none }) rfl (fun K hK => ?_) AllReadyH.nil
              refine wanted_append_run3 rfl _ _ 50 rfl _ _ _ _ rfl rfl HRun.out ?_
              refine hK.out _ _ ?_ (fun hHeld => ?_)
              · exact hS8.out
              clear hK K
              try simp only [Act.put, List.setIfInBounds_toArray, List.set_cons_zero, List.set_cons_succ]
              refine wpAnyH_take (i := 10) (oi := { dst := some 66, op := Op.nilCheck (Operand.tmp 56), type := 0, pos := "ref.go:53", after := #[{ on := 0, ground := Ground.data }, { on := 0, ground := Ground.phase }, { on := 1, ground := Ground.phase }, { on := 2, ground := Ground.phase }, { on := 3, ground := Ground.phase }, { on := 4, ground := Ground.phase }, { on := 5, ground := Ground.phase }, { on := 6, ground := Ground.phase }, { on := 7, ground := Ground.phase }, { on := 8, ground := Ground.phase }, { on := 9, ground := Ground.phase }], guard := none }) (v := ?_) rfl (by kernel_rfl) (by kernel_rfl) (by kernel_rfl) (fun _ _ _ h => h) (Or.inl ⟨by rfl, ?_⟩) hHeld ?_
              rotate_left
              · intro u hSw
                go_simp
                try with_reducible rfl
              try simp only [Act.put, List.setIfInBounds_toArray, List.set_cons_zero, List.set_cons_succ]
              refine wpAnyH_take (i := 11) (oi := { dst := some 67, op := Op.fieldAddr 52 (Operand.tmp 66) 1, type := 0, pos := "ref.go:53", after := #[{ on := 10, ground := Ground.data }, { on := 0, ground := Ground.phase }, { on := 1, ground := Ground.phase }, { on := 2, ground := Ground.phase }, { on := 3, ground := Ground.phase }, { on := 4, ground := Ground.phase }, { on := 5, ground := Ground.phase }, { on := 6, ground := Ground.phase }, { on := 7, ground := Ground.phase }, { on := 8, ground := Ground.phase }, { on := 9, ground := Ground.phase }], guard := none }) (v := ?_) rfl (by kernel_rfl) (by kernel_rfl) (by kernel_rfl) (fun _ _ _ h => h) (Or.inl ⟨by rfl, ?_⟩) hHeld ?_
              rotate_left
              · intro u hSw
                go_simp
                try with_reducible rfl
              try simp only [Act.put, List.setIfInBounds_toArray, List.set_cons_zero, List.set_cons_succ]
              have cS := hc8.out
              have fS := hf8.out
              refine wpAnyH_ready (rs := [12]) (by kernel_rfl) (by simp) ?_
              refine AllReadyH.cons (o := { dst := none, op := Op.store 50 (Operand.tmp 67) (Operand.tmp 65), type := 0, pos := "ref.go:53", after := #[{ on := 11, ground := Ground.data }, { on := 9, ground := Ground.data }, { on := 9, ground := Ground.chain }, { on := 0, ground := Ground.phase }, { on := 1, ground := Ground.phase }, { on := 2, ground := Ground.phase }, { on := 3, ground := Ground.phase }, { on := 4, ground := Ground.phase }, { on := 5, ground := Ground.phase }, { on := 6, ground := Ground.phase }, { on := 7, ground := Ground.phase }, { on := 8, ground := Ground.phase }, { on := 9, ground := Ground.phase }], guard := none }) rfl (fun K hK => ?_) AllReadyH.nil
              go_simp
              refine hK.out _ _ ?_ (fun hHeld => ?_)
              · exact hS9.out
              clear hK K
              try simp only [Act.put, List.setIfInBounds_toArray, List.set_cons_zero, List.set_cons_succ]
              refine wpAnyH_done (by kernel_rfl) ?_ _
              refine NoPanic.normal ?_
              clear cS fS
              go_wp2
              go_meet
              exact Exists.intro g8 (Exists.intro cap8 (Exists.intro _ (Exists.intro _ (And.intro hsp9.out (And.intro (hK9.out _ _ HU5.out) hS9.out)))))

        case rest =>
          obtain ⟨gR, cR8, aR8, mR8, hsp6, hu6, hs6⟩ := hcut
          have HSP6 : Hid (SpanW wc B SB c (n + 1) (t + 1) t t t _ _ _ _ _ fm _ Ms f (pivL (tr A) c n)) := hsp6
          have HU6 : Hid (Row8T wc (some ⟨g4, 0, none⟩) us) := hu6
          have HS6 : Hid (Below B W5 wc) := hs6
          have hBW6 : B ≤ wc.heap.size := Nat.le_trans hBW5 hs6.size
          clear hsp6 hu6 hs6 HU5 HW5 HSP5
          generalize wc = W6 at *
          go_upto_region 13 with fail
          go_cut [] (fun wx => ∃ g8 cap8 a8 m8, SpanW wx B SB c (n + 1) (t + 1) (t + 1) t t (.slice (some ⟨gR, 0, none⟩) (t + 1) cR8) (.slice (some ⟨g8, 0, none⟩) (t + 1) cap8) (.slice aF t cF) (.slice aB t cB) (fun i => if i = t then (aR8, mR8) else fr i) (fun i => if i = t then (a8, m8) else fm i) (fun i => if i = t then (fun j => gm (inv (WW p)) (WW j)) else V i) (fun i => if i = t then scaled (inv (WW p)) [] us else Ms i) f (pivL (tr A) c n) ∧ Below B W6 wx)
          case first =>
            refine wp_region_noPanic ?_
            refine wp_region_held_drew (S := fun u => Below B W6 u) (by kernel_rfl) ?_ (fun hHeld => ?_)
            · exact (Below.refl B W6).drew
            refine wpAnyH_take (i := 0) (oi := { dst := some 68, op := Op.move (Operand.tmp 0), type := 45, pos := "ref.go:54", after := #[], guard := none }) (v := ?_) rfl (by kernel_rfl) (by kernel_rfl) (by kernel_rfl) (fun _ _ _ h => h) (Or.inl ⟨by rfl, ?_⟩) hHeld ?_
            rotate_left
            · intro u hSw
              go_simp
              try with_reducible rfl
            try simp only [Act.put, List.setIfInBounds_toArray, List.set_cons_zero, List.set_cons_succ]
            refine wpAnyH_take (i := 1) (oi := { dst := some 69, op := Op.move (Operand.tmp 0), type := 45, pos := "ref.go:54", after := #[], guard := none }) (v := ?_) rfl (by kernel_rfl) (by kernel_rfl) (by kernel_rfl) (fun _ _ _ h => h) (Or.inl ⟨by rfl, ?_⟩) hHeld ?_
            rotate_left
            · intro u hSw
              go_simp
              try with_reducible rfl
            try simp only [Act.put, List.setIfInBounds_toArray, List.set_cons_zero, List.set_cons_succ]
            refine wpAnyH_take (i := 2) (oi := { dst := some 70, op := Op.nilCheck (Operand.tmp 69), type := 0, pos := "ref.go:54", after := #[{ on := 1, ground := Ground.data }], guard := none }) (v := ?_) rfl (by kernel_rfl) (by kernel_rfl) (by kernel_rfl) (fun _ _ _ h => h) (Or.inl ⟨by rfl, ?_⟩) hHeld ?_
            rotate_left
            · intro u hSw
              go_simp
              try with_reducible rfl
            try simp only [Act.put, List.setIfInBounds_toArray, List.set_cons_zero, List.set_cons_succ]
            refine wpAnyH_take (i := 3) (oi := { dst := some 71, op := Op.fieldAddr 52 (Operand.tmp 70) 2, type := 0, pos := "ref.go:54", after := #[{ on := 2, ground := Ground.data }], guard := none }) (v := ?_) rfl (by kernel_rfl) (by kernel_rfl) (by kernel_rfl) (fun _ _ _ h => h) (Or.inl ⟨by rfl, ?_⟩) hHeld ?_
            rotate_left
            · intro u hSw
              go_simp
              try with_reducible rfl
            try simp only [Act.put, List.setIfInBounds_toArray, List.set_cons_zero, List.set_cons_succ]
            refine wpAnyH_take (i := 5) (oi := { dst := some 73, op := Op.move (Operand.tmp 9), type := 5, pos := "ref.go:54", after := #[], guard := none }) (v := ?_) rfl (by kernel_rfl) (by kernel_rfl) (by kernel_rfl) (fun _ _ _ h => h) (Or.inl ⟨by rfl, ?_⟩) hHeld ?_
            rotate_left
            · intro u hSw
              go_simp
              try with_reducible rfl
            try simp only [Act.put, List.setIfInBounds_toArray, List.set_cons_zero, List.set_cons_succ]
            refine wpAnyH_take (i := 6) (oi := { dst := some 74, op := Op.move (Operand.tmp 5), type := 22, pos := "ref.go:54", after := #[], guard := none }) (v := ?_) rfl (by kernel_rfl) (by kernel_rfl) (by kernel_rfl) (fun _ _ _ h => h) (Or.inl ⟨by rfl, ?_⟩) hHeld ?_
            rotate_left
            · intro u hSw
              go_simp
              try with_reducible rfl
            try simp only [Act.put, List.setIfInBounds_toArray, List.set_cons_zero, List.set_cons_succ]
            refine wpAnyH_ready (rs := [4, 7]) (by kernel_rfl) (by simp) ?_
            refine AllReadyH.cons (o := { dst := some 72, op := Op.load 50 (Operand.tmp 71), type := 50, pos := "ref.go:54", after := #[{ on := 3, ground := Ground.data }], guard := none }) rfl (fun K hK => ?_) (AllReadyH.cons (o := { dst := some 75, op := Op.call { callee := Callee.value (Operand.func 53), args := #[Operand.const (Value.slice none 0 0), Operand.tmp 73, Operand.tmp 74], argTypes := #[22, 5, 22] }, type := 22, pos := "ref.go:54", after := #[{ on := 5, ground := Ground.data }, { on := 6, ground := Ground.data }], guard := none }) rfl (fun K hK => ?_) AllReadyH.nil)
            · have cL := cellAt HSP6.out.box 2 _ rfl
              go_simp
              refine hK.out _ _ ?_ (fun hHeld => ?_)
              · exact (Below.refl B W6).drew
              clear hK K
              try simp only [Act.put, List.setIfInBounds_toArray, List.set_cons_zero, List.set_cons_succ]
              clear cL
              refine wpAnyH_ready (rs := [7]) (by kernel_rfl) (by simp) ?_
              refine AllReadyH.cons (o := { dst := some 75, op := Op.call { callee := Callee.value (Operand.func 53), args := #[Operand.const (Value.slice none 0 0), Operand.tmp 73, Operand.tmp 74], argTypes := #[22, 5, 22] }, type := 22, pos := "ref.go:54", after := #[{ on := 5, ground := Ground.data }, { on := 6, ground := Ground.data }], guard := none }) rfl (fun K hK => ?_) AllReadyH.nil
              go_simp
              refine Calls.mono (rscaled_F _ none (some ⟨g4, 0, none⟩) 0 0 (n + 1) cap4 [] us _ rfl HUL.out.symm (by omega) (by omega) (.inl rfl) HU6.out.row8) ?_
              rintro e w6 ⟨g6, cap6, rfl, hg6, hb6, hh6⟩
              have hlen : (scaled (inv (WW p)) [] us).length = n + 1 := by rw [scaled_len, HUL.out]; simp
              have hS6 : Below B W6 w6 := (Below.refl B W6).drew.trans (hb6.mono hBW6)
              have hsz6 : B ≤ w6.heap.size := Nat.le_trans hBW6 hb6.size
              have hsp6 : Hid _ := HSP6.out.drew.below hb6
              have hsp7 : Hid _ := hsp6.out.below ((Below.refl _ _).alloc (Nat.le_refl _) (.cells #[.slice (some ⟨g6, 0, none⟩) (scaled (inv (WW p)) [] us).length cap6] 22))
              have hS7 : Hid (Below B W6 (w6.alloc (.cells #[.slice (some ⟨g6, 0, none⟩) (scaled (inv (WW p)) [] us).length cap6] 22))) := hS6.alloc hsz6 _
              obtain ⟨g8, cap8, w8, hrun, hc8, hf8, hb8, hb9, hK8, hsp8⟩ := hsp7.out.push_made 50 (cellAt (heap_alloc_last w6 _) 0 _ rfl) (row8T_below (has8_T hh6) ((Below.refl _ _).alloc (Nat.le_refl _) _)) (Nat.le_of_eq hlen) (by simp; omega) hSB (by omega)
              have HRun : Hid _ := hrun
              have hc8 : Hid _ := hc8
              have hf8 : Hid _ := hf8
              have hS8 : Hid (Below B W6 w8) := hS7.out.trans hb8
              have hS9 : Hid (Below B W6 (w8.setCell ⟨SB, 2, none⟩ (.slice (some ⟨g8, 0, none⟩) (t + 1) cap8))) := hS7.out.trans hb9
              have hsp9 : Hid _ := hsp8
              clear hb6 hh6 hrun hb8 hb9 hK8 hsp8 hsz6 hg6 hlen
              go_wp2_with fail
              refine hK.out _ _ ?_ (fun hHeld => ?_)
              · exact hS6
              clear hK K
              try simp only [Act.put, List.setIfInBounds_toArray, List.set_cons_zero, List.set_cons_succ]
              refine wpAnyH_ready (rs := [8]) (by kernel_rfl) (by simp) ?_
              refine AllReadyH.cons (o := { dst := some 76, op := Op.buildSlice 50 1 #[(0, Operand.tmp 75)], type := 50, pos := "ref.go:54", after := #[{ on := 7, ground := Ground.data }], guard := none }) rfl (fun K hK => ?_) AllReadyH.nil
              go_simp
              go_wp2_with fail
              refine hK.out _ _ ?_ (fun hHeld => ?_)
              · exact hS7.out
              clear hK K
              try simp only [Act.put, List.setIfInBounds_toArray, List.set_cons_zero, List.set_cons_succ]
              refine wpAnyH_ready (rs := [9]) (by kernel_rfl) (by simp) ?_
              refine AllReadyH.cons (o := { dst := some 77, op := Op.call { callee := Callee.builtin Builtin.append, args := #[Operand.tmp 72, Operand.tmp 76], argTypes := #[50, 50] }, type := 50, pos := "ref.go:54", after := #[{ on := 4, ground := Ground.data }, { on := 8, ground := Ground.data }, { on := 7, ground := Ground.chain }], guard := none }) rfl (fun K hK => ?_) AllReadyH.nil
              refine wanted_append_run3 rfl _ _ 50 rfl _ _ _ _ rfl rfl HRun.out ?_
              refine hK.out _ _ ?_ (fun hHeld => ?_)
              · exact hS8.out
              clear hK K
              try simp only [Act.put, List.setIfInBounds_toArray, List.set_cons_zero, List.set_cons_succ]
              refine wpAnyH_take (i := 10) (oi := { dst := some 78, op := Op.nilCheck (Operand.tmp 68), type := 0, pos := "ref.go:54", after := #[{ on := 0, ground := Ground.data }, { on := 0, ground := Ground.phase }, { on := 1, ground := Ground.phase }, { on := 2, ground := Ground.phase }, { on := 3, ground := Ground.phase }, { on := 4, ground := Ground.phase }, { on := 5, ground := Ground.phase }, { on := 6, ground := Ground.phase }, { on := 7, ground := Ground.phase }, { on := 8, ground := Ground.phase }, { on := 9, ground := Ground.phase }], guard := none }) (v := ?_) rfl (by kernel_rfl) (by kernel_rfl) (by kernel_rfl) (fun _ _ _ h => h) (Or.inl ⟨by rfl, ?_⟩) hHeld ?_
              rotate_left
              · intro u hSw
                go_simp
                try with_reducible rfl
              try simp only [Act.put, List.setIfInBounds_toArray, List.set_cons_zero, List.set_cons_succ]
              refine wpAnyH_take (i := 11) (oi := { dst := some 79, op := Op.fieldAddr 52 (Operand.tmp 78) 2, type := 0, pos := "ref.go:54", after := #[{ on := 10, ground := Ground.data }, { on := 0, ground := Ground.phase }, { on := 1, ground := Ground.phase }, { on := 2, ground := Ground.phase }, { on := 3, ground := Ground.phase }, { on := 4, ground := Ground.phase }, { on := 5, ground := Ground.phase }, { on := 6, ground := Ground.phase }, { on := 7, ground := Ground.phase }, { on := 8, ground := Ground.phase }, { on := 9, ground := Ground.phase }], guard := none }) (v := ?_) rfl (by kernel_rfl) (by kernel_rfl) (by kernel_rfl) (fun _ _ _ h => h) (Or.inl ⟨by rfl, ?_⟩) hHeld ?_
              rotate_left
              · intro u hSw
                go_simp
                try with_reducible rfl
              try simp only [Act.put, List.setIfInBounds_toArray, List.set_cons_zero, List.set_cons_succ]
              have cS := hc8.out
              have fS := hf8.out
              refine wpAnyH_ready (rs := [12]) (by kernel_rfl) (by simp) ?_
              refine AllReadyH.cons (o := { dst := none, op := Op.store 50 (Operand.tmp 79) (Operand.tmp 77), type := 0, pos := "ref.go:54", after := #[{ on := 11, ground := Ground.data }, { on := 9, ground := Ground.data }, { on := 9, ground := Ground.chain }, { on := 0, ground := Ground.phase }, { on := 1, ground := Ground.phase }, { on := 2, ground := Ground.phase }, { on := 3, ground := Ground.phase }, { on := 4, ground := Ground.phase }, { on := 5, ground := Ground.phase }, { on := 6, ground := Ground.phase }, { on := 7, ground := Ground.phase }, { on := 8, ground := Ground.phase }, { on := 9, ground := Ground.phase }], guard := none }) rfl (fun K hK => ?_) AllReadyH.nil
              go_simp
              refine hK.out _ _ ?_ (fun hHeld => ?_)
              · exact hS9.out
              clear hK K
              try simp only [Act.put, List.setIfInBounds_toArray, List.set_cons_zero, List.set_cons_succ]
              refine wpAnyH_done (by kernel_rfl) ?_ _
              refine NoPanic.normal ?_
              clear cS fS
              go_wp2
              go_meet
              exact Exists.intro g8 (Exists.intro cap8 (Exists.intro _ (Exists.intro _ (And.intro hsp9.out hS9.out))))
            · go_simp
              refine Calls.mono (rscaled_F _ none (some ⟨g4, 0, none⟩) 0 0 (n + 1) cap4 [] us _ rfl HUL.out.symm (by omega) (by omega) (.inl rfl) HU6.out.row8) ?_
              rintro e w6 ⟨g6, cap6, rfl, hg6, hb6, hh6⟩
              have hlen : (scaled (inv (WW p)) [] us).length = n + 1 := by rw [scaled_len, HUL.out]; simp
              have hS6 : Below B W6 w6 := (Below.refl B W6).drew.trans (hb6.mono hBW6)
              have hsz6 : B ≤ w6.heap.size := Nat.le_trans hBW6 hb6.size
              have hsp6 : Hid _ := HSP6.out.drew.below hb6
              have hsp7 : Hid _ := hsp6.out.below ((Below.refl _ _).alloc (Nat.le_refl _) (.cells #[.slice (some ⟨g6, 0, none⟩) (scaled (inv (WW p)) [] us).length cap6] 22))
              have hS7 : Hid (Below B W6 (w6.alloc (.cells #[.slice (some ⟨g6, 0, none⟩) (scaled (inv (WW p)) [] us).length cap6] 22))) := hS6.alloc hsz6 _
              obtain ⟨g8, cap8, w8, hrun, hc8, hf8, hb8, hb9, hK8, hsp8⟩ := hsp7.out.push_made 50 (cellAt (heap_alloc_last w6 _) 0 _ rfl) (row8T_below (has8_T hh6) ((Below.refl _ _).alloc (Nat.le_refl _) _)) (Nat.le_of_eq hlen) (by simp; omega) hSB (by omega)
              have HRun : Hid _ := hrun
              have hc8 : Hid _ := hc8
              have hf8 : Hid _ := hf8
              have hS8 : Hid (Below B W6 w8) := hS7.out.trans hb8
              have hS9 : Hid (Below B W6 (w8.setCell ⟨SB, 2, none⟩ (.slice (some ⟨g8, 0, none⟩) (t + 1) cap8))) := hS7.out.trans hb9
              have hsp9 : Hid _ := hsp8
              clear hb6 hh6 hrun hb8 hb9 hK8 hsp8 hsz6 hg6 hlen
              go_wp2_with fail
              refine hK.out _ _ ?_ (fun hHeld => ?_)
              · exact hS6
              clear hK K
              try simp only [Act.put, List.setIfInBounds_toArray, List.set_cons_zero, List.set_cons_succ]
              refine wpAnyH_ready (rs := [4, 8]) (by kernel_rfl) (by simp) ?_
              refine AllReadyH.cons (o := { dst := some 72, op := Op.load 50 (Operand.tmp 71), type := 50, pos := "ref.go:54", after := #[{ on := 3, ground := Ground.data }], guard := none }) rfl (fun K hK => ?_) (AllReadyH.cons (o := { dst := some 76, op := Op.buildSlice 50 1 #[(0, Operand.tmp 75)], type := 50, pos := "ref.go:54", after := #[{ on := 7, ground := Ground.data }], guard := none }) rfl (fun K hK => ?_) AllReadyH.nil)
              · have cL := cellAt hsp6.out.box 2 _ rfl
                go_simp
                refine hK.out _ _ ?_ (fun hHeld => ?_)
                · exact hS6
                clear hK K
                try simp only [Act.put, List.setIfInBounds_toArray, List.set_cons_zero, List.set_cons_succ]
                clear cL
                refine wpAnyH_ready (rs := [8]) (by kernel_rfl) (by simp) ?_
                refine AllReadyH.cons (o := { dst := some 76, op := Op.buildSlice 50 1 #[(0, Operand.tmp 75)], type := 50, pos := "ref.go:54", after := #[{ on := 7, ground := Ground.data }], guard := none }) rfl (fun K hK => ?_) AllReadyH.nil
                go_simp
                go_wp2_with fail
                refine hK.out _ _ ?_ (fun hHeld => ?_)
                · exact hS7.out
                clear hK K
                try simp only [Act.put, List.setIfInBounds_toArray, List.set_cons_zero, List.set_cons_succ]
                refine wpAnyH_ready (rs := [9]) (by kernel_rfl) (by simp) ?_
                refine AllReadyH.cons (o := { dst := some 77, op := Op.call { callee := Callee.builtin Builtin.append, args := #[Operand.tmp 72, Operand.tmp 76], argTypes := #[50, 50] }, type := 50, pos := "ref.go:54", after := #[{ on := 4, ground := Ground.data }, { on := 8, ground := Ground.data }, { on := 7, ground := Ground.chain }], guard := none }) rfl (fun K hK => ?_) AllReadyH.nil
                refine wanted_append_run3 rfl _ _ 50 rfl _ _ _ _ rfl rfl HRun.out ?_
                refine hK.out _ _ ?_ (fun hHeld => ?_)
                · exact hS8.out
                clear hK K
                try simp only [Act.put, List.setIfInBounds_toArray, List.set_cons_zero, List.set_cons_succ]
                refine wpAnyH_take (i := 10) (oi := { dst := some 78, op := Op.nilCheck (Operand.tmp 68), type := 0, pos := "ref.go:54", after := #[{ on := 0, ground := Ground.data }, { on := 0, ground := Ground.phase }, { on := 1, ground := Ground.phase }, { on := 2, ground := Ground.phase }, { on := 3, ground := Ground.phase }, { on := 4, ground := Ground.phase }, { on := 5, ground := Ground.phase }, { on := 6, ground := Ground.phase }, { on := 7, ground := Ground.phase }, { on := 8, ground := Ground.phase }, { on := 9, ground := Ground.phase }], guard := none }) (v := ?_) rfl (by kernel_rfl) (by kernel_rfl) (by kernel_rfl) (fun _ _ _ h => h) (Or.inl ⟨by rfl, ?_⟩) hHeld ?_
                rotate_left
                · intro u hSw
                  go_simp
                  try with_reducible rfl
                try simp only [Act.put, List.setIfInBounds_toArray, List.set_cons_zero, List.set_cons_succ]
                refine wpAnyH_take (i := 11) (oi := { dst := some 79, op := Op.fieldAddr 52 (Operand.tmp 78) 2, type := 0, pos := "ref.go:54", after := #[{ on := 10, ground := Ground.data }, { on := 0, ground := Ground.phase }, { on := 1, ground := Ground.phase }, { on := 2, ground := Ground.phase }, { on := 3, ground := Ground.phase }, { on := 4, ground := Ground.phase }, { on := 5, ground := Ground.phase }, { on := 6, ground := Ground.phase }, { on := 7, ground := Ground.phase }, { on := 8, ground := Ground.phase }, { on := 9, ground := Ground.phase }], guard := none }) (v := ?_) rfl (by kernel_rfl) (by kernel_rfl) (by kernel_rfl) (fun _ _ _ h => h) (Or.inl ⟨by rfl, ?_⟩) hHeld ?_
                rotate_left
                · intro u hSw
                  go_simp
                  try with_reducible rfl
                try simp only [Act.put, List.setIfInBounds_toArray, List.set_cons_zero, List.set_cons_succ]
                have cS := hc8.out
                have fS := hf8.out
                refine wpAnyH_ready (rs := [12]) (by kernel_rfl) (by simp) ?_
                refine AllReadyH.cons (o := { dst := none, op := Op.store 50 (Operand.tmp 79) (Operand.tmp 77), type := 0, pos := "ref.go:54", after := #[{ on := 11, ground := Ground.data }, { on := 9, ground := Ground.data }, { on := 9, ground := Ground.chain }, { on := 0, ground := Ground.phase }, { on := 1, ground := Ground.phase }, { on := 2, ground := Ground.phase }, { on := 3, ground := Ground.phase }, { on := 4, ground := Ground.phase }, { on := 5, ground := Ground.phase }, { on := 6, ground := Ground.phase }, { on := 7, ground := Ground.phase }, { on := 8, ground := Ground.phase }, { on := 9, ground := Ground.phase }], guard := none }) rfl (fun K hK => ?_) AllReadyH.nil
                go_simp
                refine hK.out _ _ ?_ (fun hHeld => ?_)
                · exact hS9.out
                clear hK K
                try simp only [Act.put, List.setIfInBounds_toArray, List.set_cons_zero, List.set_cons_succ]
                refine wpAnyH_done (by kernel_rfl) ?_ _
                refine NoPanic.normal ?_
                clear cS fS
                go_wp2
                go_meet
                exact Exists.intro g8 (Exists.intro cap8 (Exists.intro _ (Exists.intro _ (And.intro hsp9.out hS9.out))))
              · go_simp
                go_wp2_with fail
                refine hK.out _ _ ?_ (fun hHeld => ?_)
                · exact hS7.out
                clear hK K
                try simp only [Act.put, List.setIfInBounds_toArray, List.set_cons_zero, List.set_cons_succ]
                refine wpAnyH_ready (rs := [4]) (by kernel_rfl) (by simp) ?_
                refine AllReadyH.cons (o := { dst := some 72, op := Op.load 50 (Operand.tmp 71), type := 50, pos := "ref.go:54", after := #[{ on := 3, ground := Ground.data }], guard := none }) rfl (fun K hK => ?_) AllReadyH.nil
                have cL := cellAt hsp7.out.box 2 _ rfl
                go_simp
                refine hK.out _ _ ?_ (fun hHeld => ?_)
                · exact hS7.out
                clear hK K
                try simp only [Act.put, List.setIfInBounds_toArray, List.set_cons_zero, List.set_cons_succ]
                clear cL
                refine wpAnyH_ready (rs := [9]) (by kernel_rfl) (by simp) ?_
                refine AllReadyH.cons (o := { dst := some 77, op := Op.call { callee := Callee.builtin Builtin.append, args := #[Operand.tmp 72, Operand.tmp 76], argTypes := #[50, 50] }, type := 50, pos := "ref.go:54", after := #[{ on := 4, ground := Ground.data }, { on := 8, ground := Ground.data }, { on := 7, ground := Ground.chain }], guard := none }) rfl (fun K hK => ?_) AllReadyH.nil
                refine wanted_append_run3 rfl _ _ 50 rfl _ _ _ _ rfl rfl HRun.out ?_
                refine hK.out _ _ ?_ (fun hHeld => ?_)
                · exact hS8.out
                clear hK K
                try simp only [Act.put, List.setIfInBounds_toArray, List.set_cons_zero, List.set_cons_succ]
                refine wpAnyH_take (i := 10) (oi := { dst := some 78, op := Op.nilCheck (Operand.tmp 68), type := 0, pos := "ref.go:54", after := #[{ on := 0, ground := Ground.data }, { on := 0, ground := Ground.phase }, { on := 1, ground := Ground.phase }, { on := 2, ground := Ground.phase }, { on := 3, ground := Ground.phase }, { on := 4, ground := Ground.phase }, { on := 5, ground := Ground.phase }, { on := 6, ground := Ground.phase }, { on := 7, ground := Ground.phase }, { on := 8, ground := Ground.phase }, { on := 9, ground := Ground.phase }], guard := none }) (v := ?_) rfl (by kernel_rfl) (by kernel_rfl) (by kernel_rfl) (fun _ _ _ h => h) (Or.inl ⟨by rfl, ?_⟩) hHeld ?_
                rotate_left
                · intro u hSw
                  go_simp
                  try with_reducible rfl
                try simp only [Act.put, List.setIfInBounds_toArray, List.set_cons_zero, List.set_cons_succ]
                refine wpAnyH_take (i := 11) (oi := { dst := some 79, op := Op.fieldAddr 52 (Operand.tmp 78) 2, type := 0, pos := "ref.go:54", after := #[{ on := 10, ground := Ground.data }, { on := 0, ground := Ground.phase }, { on := 1, ground := Ground.phase }, { on := 2, ground := Ground.phase }, { on := 3, ground := Ground.phase }, { on := 4, ground := Ground.phase }, { on := 5, ground := Ground.phase }, { on := 6, ground := Ground.phase }, { on := 7, ground := Ground.phase }, { on := 8, ground := Ground.phase }, { on := 9, ground := Ground.phase }], guard := none }) (v := ?_) rfl (by kernel_rfl) (by kernel_rfl) (by kernel_rfl) (fun _ _ _ h => h) (Or.inl ⟨by rfl, ?_⟩) hHeld ?_
                rotate_left
                · intro u hSw
                  go_simp
                  try with_reducible rfl
                try simp only [Act.put, List.setIfInBounds_toArray, List.set_cons_zero, List.set_cons_succ]
                have cS := hc8.out
                have fS := hf8.out
                refine wpAnyH_ready (rs := [12]) (by kernel_rfl) (by simp) ?_
                refine AllReadyH.cons (o := { dst := none, op := Op.store 50 (Operand.tmp 79) (Operand.tmp 77), type := 0, pos := "ref.go:54", after := #[{ on := 11, ground := Ground.data }, { on := 9, ground := Ground.data }, { on := 9, ground := Ground.chain }, { on := 0, ground := Ground.phase }, { on := 1, ground := Ground.phase }, { on := 2, ground := Ground.phase }, { on := 3, ground := Ground.phase }, { on := 4, ground := Ground.phase }, { on := 5, ground := Ground.phase }, { on := 6, ground := Ground.phase }, { on := 7, ground := Ground.phase }, { on := 8, ground := Ground.phase }, { on := 9, ground := Ground.phase }], guard := none }) rfl (fun K hK => ?_) AllReadyH.nil
                go_simp
                refine hK.out _ _ ?_ (fun hHeld => ?_)
                · exact hS9.out
                clear hK K
                try simp only [Act.put, List.setIfInBounds_toArray, List.set_cons_zero, List.set_cons_succ]
                refine wpAnyH_done (by kernel_rfl) ?_ _
                refine NoPanic.normal ?_
                clear cS fS
                go_wp2
                go_meet
                exact Exists.intro g8 (Exists.intro cap8 (Exists.intro _ (Exists.intro _ (And.intro hsp9.out hS9.out))))

          case rest =>
            obtain ⟨gM, cM8, aM8, mM8, hsp7, hs7⟩ := hcut
            have HSP7 : Hid (SpanW wc B SB c (n + 1) (t + 1) (t + 1) t t _ _ _ _ _ _ _ _ f (pivL (tr A) c n)) := hsp7
            have HS7 : Hid (Below B W5 wc) := HS6.out.trans hs7
            clear hsp7 hs7 HS6 HSP6 HU6 hBW6
            generalize wc = W7 at *
            have hBW7 : B ≤ W7.heap.size := Nat.le_trans HBN.out HS7.out.size
            obtain ⟨gf, cf, wf, hrunf, hcf, hff, hbf, hspf⟩ := (HSP7.out.below ((Below.refl _ _).alloc (Nat.le_refl _) (.cells #[.int .i64 p] 3))).push_first 38 (cellAt (heap_alloc_last W7 _) 0 _ rfl) (by simp; omega) hSB (by omega)
            have hSf : Below B W7 (wf.setCell ⟨SB, 3, none⟩ (.slice (some ⟨gf, 0, none⟩) (t + 1) cf)) := ((Below.refl B W7).alloc hBW7 _).trans hbf
            have hBWf : B ≤ (wf.setCell ⟨SB, 3, none⟩ (.slice (some ⟨gf, 0, none⟩) (t + 1) cf)).heap.size := Nat.le_trans hBW7 hSf.size
            obtain ⟨gb, cb, wb, hrunb, hcb, hfb, hbb, hspb⟩ := (hspf.below ((Below.refl _ _).alloc (Nat.le_refl _) (.cells #[.int .i64 n] 3))).push_basis 38 (cellAt (heap_alloc_last (wf.setCell ⟨SB, 3, none⟩ (.slice (some ⟨gf, 0, none⟩) (t + 1) cf)) _) 0 _ rfl) (by rw [World.size_alloc]; omega) hSB (by omega)
            have hSb : Below B W7 (wb.setCell ⟨SB, 5, none⟩ (.slice (some ⟨gb, 0, none⟩) (t + 1) cb)) := (hSf.alloc hBWf _).trans hbb
            have k3 : W7.cell? ⟨SB, 3, none⟩ = some (.slice aF t cF) := cellAt HSP7.out.box 3 _ rfl
            have k5 : (wf.setCell ⟨SB, 3, none⟩ (.slice (some ⟨gf, 0, none⟩) (t + 1) cf)).cell? ⟨SB, 5, none⟩ = some (.slice aB t cB) := cellAt hspf.box 5 _ rfl
            have HSPB : Hid _ := hspb
            have HSB : Hid _ := HS7.out.trans hSb
            have HRF : Hid _ := hrunf
            have HRB : Hid _ := hrunb
            clear hspf hspb hrunf hrunb hSf hbf hbb hBWf hSb
            go_upto_region 15 with (at_builtin; refine wpList_append_run rfl _ _ 38 rfl _ _ _ _ rfl rfl HRF.out ?_)
            clear HRF k3 hcf hff
            generalize (wf.setCell ⟨SB, 3, none⟩ (.slice (some ⟨gf, 0, none⟩) (t + 1) cf)) = W9 at *
            go_wp2_with (at_builtin; refine wpList_append_run rfl _ _ 38 rfl _ _ _ _ rfl rfl HRB.out ?_)
            refine ⟨rfl, .tuple #[], by simp [results, Tryd.results42, go_sem], rfl, HBB.out.trans HSB.out, ⟨t + 1, _, _, _, _, _, _, _, _, _, by rw [HSO.out.piv_yes hpc hpz]; exact HSPB.out, ?_⟩⟩
            · have := HSO.out.add_yes hpc hpz HMN.out
              refine SpanOf.congrF this (fun i hi j hj => ?_) (fun i hi j hj => ?_) (fun i hi => ?_)
              · simp only [addV, HWW.out]
              · by_cases e : i = t
                · subst e
                  simp only [addU, madeF, if_true, HWW.out]
                  rw [at8_scaled, at8_nil, F.zero_add]
                  congr 1
                  rw [HUS.out]
                  by_cases h1 : j < n
                  · rw [if_pos h1, at8_left (by rw [rowF_len]; exact h1), at8_rowF h1]
                  · rw [if_neg h1, if_pos (by omega), at8_right (by rw [rowF_len]; omega), rowF_len, show j - n = 0 by omega]; rfl
                · simp only [addU, madeF, e, if_false]
              · simp only [addf]
                have hfl := HFL.out
                by_cases e : i = t
                · rw [if_pos e]; simp [List.getD, e, ← hfl]
                · rw [if_neg e]; simp only [List.getD]; rw [List.getElem?_append_left (by omega)]

    · obtain ⟨k', rfl⟩ : ∃ k', k = k' + 1 := ⟨k - 1, by omega⟩
      have e1 : (((k' + 1 : Nat) : Int) - 1) = (k' : Int) := by omega
      rw [e1]
      clear e1
      obtain ⟨bq, oq, eq, _, hcq⟩ := row8_cell HWV.out.row8 (j := k') (by rw [rowF_len]; omega)
      cases eq
      have cp := hcq k' (by rw [rowF_len]; omega)
      rw [at8_rowF (by omega), Nat.zero_add] at cp
      clear hcq
      by_cases hz : WW k' = 0
      · rw [hz] at cp
        go_wp2
        refine ⟨⟨k', x, by omega, by go_num, by first | rfl | trivial, by first | rfl | trivial, ?_⟩, by simp [intOf]⟩
        rcases HXX.out with ⟨h1, h2⟩ | h1
        · exact .inl ⟨h1, fun j h3 h4 => by
            by_cases e : j = k'
            · rw [e]; exact hz
            · exact h2 j (by omega) h4⟩
        · exact .inr h1
      · have hnz : ((WW k').toNat : Int) ≠ 0 := by
          intro e; exact hz (F.val_eq_zero.1 (by omega))
        go_wp2
        exact ⟨⟨k', k', by omega, by go_num, by first | rfl | trivial, by first | rfl | trivial, .inr ⟨k', rfl, by omega, hz⟩⟩, by simp [intOf]⟩
end Go.Proofs.YtgfiolfhckkpjaaDoor

/- What the document's own Of and Row of package mat's chapter answer; nothing that was there turns. -/
namespace Go.Proofs.YtgfiolfhckkpjaaDoor
open Go.RowKit Gf
set_option linter.unusedVariables false
set_option maxRecDepth 20000
/-- bytes laid behind a list of one's own, whatever they are -/
theorem appendB {w : World} {B n m c : Nat} {v : Value} {zs ys : List F} {a : Option Addr} (ty : TypeId) (ho : w.ownsRow B 5 1 v n (zs.map vf)) (hm : m = ys.length) (hb : n + m ≤ 1000000) (hy : Row8 w a ys) (hnil : a = none → c = 0) (hB : B ≤ w.heap.size) :
    ∃ v' w', (Builtin.append_ #[22, 22] ty #[v, .slice a m c]).run Tryd.prog w = .ok v' w' ∧ w'.ownsRow B 5 1 v' (n + m) ((zs ++ ys).map vf) ∧ w.grownBy w' v.ownBlock := by
  obtain ⟨i, hi, h1, h2, h3⟩ := info8
  rcases hy with rfl | ⟨b, off, rfl, hy⟩
  · obtain rfl : m = 0 := hm
    cases a with
    | none =>
      obtain rfl := hnil rfl
      refine ⟨v, w, ?_, by simpa using ho, grownBy_refl _ _⟩
      rcases ho.2 with ⟨rfl, rfl⟩ | ⟨g, cap, cur, rfl, _, hg, hle, _⟩
      · simp [Builtin.append_, run_underlying Tryd.underlying22, sizeOf, typeInfo, hi, Builtin.lenOf, Builtin.firstCells]
      · simp [Builtin.append_, run_underlying Tryd.underlying22, sizeOf, typeInfo, hi, Builtin.lenOf, Builtin.firstCells, loadCells, hle, storeCells]
    | some ad =>
      obtain ⟨v', w', h4, h5, h6, _⟩ := run_append_own_at (P := Tryd.prog) w B 22 ty 5 i _ 1 1 Tryd.underlying22 hi h3 h1 h2 rfl (by decide) v n _ ho ad 0 c [] rfl (fun j u h => by simp at h) (fun u h => by cases h) (by simp only [maxLen]; omega) (by omega) hB
      exact ⟨v', w', h4, by simpa using h5, h6⟩
  · obtain ⟨v', w', h4, h5, h6, _⟩ := run_append_own_at (P := Tryd.prog) w B 22 ty 5 i _ 1 1 Tryd.underlying22 hi h3 h1 h2 rfl (by decide) v n _ ho ⟨b, off, none⟩ m c (ys.map vf) (by rw [List.length_map]; omega)
      (fun j u hv => by
        simp only [List.getElem?_map, Option.map_eq_some_iff] at hv
        obtain ⟨x, hx1, rfl⟩ := hv
        have hj : j < ys.length := (List.getElem?_eq_some_iff.1 hx1).1
        have e : at8 ys j = x := by simp [at8, hx1]
        have hadd : (⟨b, off, none⟩ : Addr).add j = ⟨b, off + j, none⟩ := by unfold Addr.add; split <;> simp_all
        rw [hadd, hy j hj, e]; rfl) (fun u hv => by
        simp only [List.mem_map] at hv
        obtain ⟨x, _, rfl⟩ := hv
        rfl) (by simp only [maxLen]; omega) (by omega) hB
    exact ⟨v', w', h4, by rw [List.map_append]; exact h5, h6⟩
theorem ownB_slice {w : World} {B n : Nat} {v : Value} {zs : List F} (ho : w.ownsRow B 5 1 v n (zs.map vf)) : ∃ a cap, v = .slice a n cap ∧ Row8 w a zs ∧ n = zs.length ∧ (a = none → cap = 0) := by
  have hl := ho.1
  rw [List.length_map] at hl
  rcases ho.2 with ⟨rfl, e⟩ | ⟨g, cap, cur, rfl, h2⟩
  · exact ⟨none, 0, by rw [e], .inl (List.eq_nil_of_length_eq_zero (by omega)), by omega, fun _ => rfl⟩
  · refine ⟨_, _, rfl, .inr ⟨g, 0, rfl, fun j hj => ?_⟩, by omega, fun h => by cases h⟩
    rw [Nat.zero_add, ho.cellAt j (by omega), List.getElem?_map, List.getElem?_eq_getElem hj]
    simp [at8, hj, vf]
theorem own_mono {w : World} {B B' size n : Nat} {v : Value} {e : TypeId} {xs : List Value} (h : w.ownsRow B e size v n xs) (hb : B' ≤ B) : w.ownsRow B' e size v n xs :=
  ⟨h.1, h.2.imp id fun ⟨g, cap, cur, h1, h2, h3⟩ => ⟨g, cap, cur, h1, Nat.le_trans hb h2, h3⟩⟩
theorem rows_cap_later {w w' : World} {a : Option Addr} {L : List (List F)} (hX : Rows8 w a L) (hb : Below w.heap.size w w')
    (hcp : ∀ b off, a = some ⟨b, off, none⟩ → ∀ j n a' cap', w.cell? ⟨b, off + j, none⟩ = some (.slice a' n cap') → j < L.length → a' = none → cap' = 0) :
    ∀ b off, a = some ⟨b, off, none⟩ → ∀ j n a' cap', w'.cell? ⟨b, off + j, none⟩ = some (.slice a' n cap') → j < L.length → a' = none → cap' = 0 := by
  intro b off e j n a' cap' hc hj ha
  rcases hX with e0 | ⟨b2, off2, e2, hrows⟩
  · rw [e0] at hj; simp at hj
  · rw [e] at e2
    cases e2
    obtain ⟨a1, cap1, h1, _⟩ := hrows j _ (List.getElem?_eq_getElem hj)
    have h2 := cell_later hb h1
    rw [hc] at h2
    simp only [Option.some.injEq, Value.slice.injEq] at h2
    obtain ⟨q1, q2, q3⟩ := h2
    rw [q3]
    exact hcp b off e j _ a1 cap1 h1 hj (by rw [← q1]; exact ha)
end Go.Proofs.YtgfiolfhckkpjaaDoor

/- Facts for the statement MatPlaces: refusals of Take, two lists apart, the document's own Row, an append in a drawn region. -/
namespace Go.Proofs.YtgfiolfhckkpjaaDoor
open Go.RowKit Gf
set_option linter.unusedVariables false
set_option maxRecDepth 20000
theorem wanted_append_run {P : Program} {w : World} {o : Oper} {a : Act} {K : Act → World → Prop} {Q : Exit → Act → World → Prop} {ys : Nat → Option Bool} {L : Prop} (hgd : o.guard = none) (s x : Operand) (t : TypeId)
    (ho : o.op = .call { callee := .builtin .append, args := #[s, x], argTypes := #[t, t] }) (v u r : Value) (w' : World) (hs : a.eval s = v) (hx : a.eval x = u)
    (hr : (Builtin.append_ #[t, t] o.type #[v, u]).run P w = .ok r w') (h : K (a.put o.dst r) w') : if Region.wanted o ys = true then Oper.wp P o a w K Q else L := by
  rw [if_pos (by simp [Region.wanted, hgd])]
  unfold Oper.wp execOp
  simp only [ho, resolve, invoke, builtin, Sem.run_bind, Sem.run_pure, Result.andThen_ok, List.map_toArray, List.map_cons, List.map_nil, hs, hx, hr]
  exact h
theorem kind_ne {w : World} {a b : Nat} {cs ds : Array Value} {t u : TypeId} {f1 f2 : Nat × Nat} (h1 : w.heap[a]? = some (.cells cs t f1)) (h2 : w.heap[b]? = some (.cells ds u f2)) (h : t ≠ u) : a ≠ b := fun e => by
  subst e; rw [h1] at h2; cases h2; exact h rfl
theorem grown_some {w w' : World} (g : Nat) (h : w.grownBy w' none) : w.grownBy w' (some g) := ⟨h.os, h.tape, h.output, h.size, fun k hk _ => h.block k hk (by simp)⟩
theorem grown_keep {w w' : World} {r : Option Nat} {k : Nat} {o : Obj} (h : w.grownBy w' r) (hk : w.heap[k]? = some o) (hne : some k ≠ r) : w'.heap[k]? = some o := (h.block k (Array.getElem?_eq_some_iff.1 hk).1 hne).trans hk

theorem has8_take {w : World} {g cap : Nat} {xs : List F} (h : Has8 w g xs cap) (m : Nat) : Has8 w g (xs.take m) cap := by
  obtain ⟨cur, hg, hs, hl, hm, ht⟩ := h
  refine ⟨cur, hg, hs, by rw [List.length_take]; omega, hm, ?_⟩
  rw [List.map_take, ← ht, List.take_take, List.length_take]
theorem row8_grown {w w' : World} {r : Option Nat} {g : Nat} {xs : List F} (h : Row8 w (some ⟨g, 0, none⟩) xs) (hb : w.grownBy w' r) (hg : g < w.heap.size) (hne : some g ≠ r) : Row8 w' (some ⟨g, 0, none⟩) xs := by
  rcases h with e | ⟨b, off, e, h⟩
  · exact .inl e
  · cases e
    refine .inr ⟨g, 0, rfl, fun j hj => ?_⟩
    rw [← h j hj]
    simp only [World.cell?, hb.block g hg hne]
theorem append8_both {w : World} {g n cap : Nat} {xs ys : List F} {ad : Addr} {m c : Nat} (ty : TypeId) (h : Has8 w g xs cap) (hn : n = xs.length) (hm : m = ys.length) (hb : n + m ≤ 140737488355328)
    (hy : ∀ j, j < ys.length → w.cell? (ad.add j) = some (.int .u8 ((at8 ys j).toNat : Int))) :
    ∃ g' cap' w', (Builtin.append_ #[22, 22] ty #[.slice (some ⟨g, 0, none⟩) n cap, .slice (some ad) m c]).run Tryd.prog w = .ok (.slice (some ⟨g', 0, none⟩) (n + m) cap') w' ∧
      Has8 w' g' (xs ++ ys) cap' ∧ w.grownBy w' (some g) ∧ (g' = g ∨ w.heap.size ≤ g' ∧ w.grownBy w' none) := by
  by_cases hroom : n + m ≤ cap
  · subst hn hm
    obtain ⟨i, hi, h1, h2, h3⟩ := info8
    obtain ⟨cur, hg, hs, hl, hmx, ht⟩ := h
    have hown : w.ownsRow 0 5 1 (.slice (some ⟨g, 0, none⟩) xs.length cap) xs.length (xs.map vf) :=
      ⟨by simp, .inr ⟨g, cap, cur, rfl, Nat.zero_le _, hg, hl, hmx, by omega, by rw [Nat.mul_one]; exact ht⟩⟩
    obtain ⟨w', hrun, ho, hgr⟩ := run_append_fits (P := Tryd.prog) w 0 22 ty 5 i 1 Tryd.underlying22 hi h1 g xs.length cap _ hown ad ys.length c (ys.map vf) (by simp) (fun j v hv => by
        simp only [List.getElem?_map, Option.map_eq_some_iff] at hv
        obtain ⟨x, hx1, rfl⟩ := hv
        have hj : j < ys.length := (List.getElem?_eq_some_iff.1 hx1).1
        have e : at8 ys j = x := by simp [at8, hx1]
        rw [hy j hj, e]; rfl) (fun v hv => by
        simp only [List.mem_map] at hv
        obtain ⟨x, _, rfl⟩ := hv
        rfl) hroom
    rcases ho.2 with ⟨hv, _⟩ | ⟨g', cap', cur', hv, _, hg', hl', hm', hs', ht'⟩
    · cases hv
    · cases hv
      exact ⟨g, cap, w', hrun, ⟨cur', hg', by omega, by simpa using hl', hm', by rw [List.length_append, List.map_append, ← ht', Nat.mul_one]⟩, hgr, .inl rfl⟩
  · obtain ⟨g', cap', w', h1, h2, h3, h4⟩ := append8_grows (cap := cap) (m := m) (c := c) ty (row8_has h) hn hm (by omega) hb hy
    exact ⟨g', cap', w', h1, h2, ⟨h3.os, h3.tape, h3.output, h3.size, fun k hk _ => h3.block k hk (by simp)⟩, .inr ⟨h4, h3⟩⟩
set_option maxHeartbeats 4000000 in
theorem apart_H (a : Option Addr) (n ca gb m cb : Nat) (xs ys : List F) (w : World) (hn : n = xs.length) (hm : m = ys.length) (hb : m ≤ 140737488351232)
    (hx : ∀ w', w.grownBy w' (some gb) → Row8 w' a xs) (hy : Has8 w gb ys cb) :
    Calls Tryd.prog 16 #[.slice a n ca, .slice (some ⟨gb, 0, none⟩) m cb] w fun e w' => e = .returned (.bool true) ∧ w.grownBy w' (some gb) ∧ Row8 w' (some ⟨gb, 0, none⟩) (ys.map fl) := by
  have k0 := conv8 (ca := ca) hn (hx w (grownBy_refl _ _))
  have hgb : gb < w.heap.size := by obtain ⟨cur, hg, _⟩ := hy; exact (Array.getElem?_eq_some_iff.1 hg).1
  have HX : Hid _ := hx
  have HY : Hid _ := hy
  have HN : Hid _ := hn
  have HM : Hid _ := hm
  clear hx hy hn hm
  go_enter Tryd.func16, Tryd.ntmps16
  go_wp2
  clear k0
  go_loopw [13] (fun i wr => ∃ k : Nat, k ≤ m ∧ i = .int .i64 k ∧ w.grownBy wr (some gb) ∧ Has8 wr gb (flTo ys k) cb) (fun i _ => m - (intOf i).toNat)
  case atStart => exact ⟨0, by omega, rfl, grownBy_refl _ _, by rw [flTo_zero]; exact HY.out⟩
  case round =>
    obtain ⟨k, hk, rfl, hg1, hh1⟩ := hrel
    by_cases hlt : k < m
    · have hky : k < ys.length := by have := HM.out; omega
      obtain ⟨c1, c2⟩ := has8_cell (j := k) hh1 (by rw [flTo_len]; exact hky)
      rw [flTo_at] at c1
      have ex := fl_val (at8 ys k)
      have HG : Hid _ := hg1
      have HH : Hid _ := hh1
      have HS : Hid _ := flTo_succ ys k hky
      have HK : Hid _ := has8_set (j := k) hh1 (by rw [flTo_len]; exact hky) (fl (at8 ys k))
      clear hg1 hh1
      go_wp2
      exact ⟨⟨k + 1, by omega, by go_num, grownBy_setCell HG.out _, by rw [← HS.out]; exact HK.out⟩, by simp [intOf]; omega⟩
    · have hk' : k = ys.length := by have := HM.out; omega
      have hh2 : Has8 wr gb (ys.map fl) cb := by rw [hk', flTo_all] at hh1; exact hh1
      have k1 := conv8 (ca := ca) HN.out (HX.out wr hg1)
      have hsz := hg1.size
      have hh2' : Has8 (wr.alloc (.cells (vfs sevens) 5)) gb (ys.map fl) cb := has8_grown hh2 (World.grownBy_alloc wr _ none) (by simp)
      obtain ⟨g2, cap2, w2, hrun, hs2, hgr2, hge2⟩ := append8_both (n := m) (ys := sevens) (ad := ⟨wr.heap.size, 0, none⟩) (m := 8) (c := 8) 22
        hh2' (by have := HM.out; simpa using this) rfl (by omega) (fun j hj => by
          have hadd : (⟨wr.heap.size, 0, none⟩ : Addr).add j = ⟨wr.heap.size, j, none⟩ := by unfold Addr.add; split <;> simp_all
          rw [hadd, World.cell?_alloc_at _ _ _ _ rfl, vfs_get _ _ hj])
      have hgr3 : w.grownBy w2 (some gb) := grownBy_trans (grownBy_trans hg1 (World.grownBy_alloc wr (.cells (vfs sevens) 5) none) (by simp)) hgr2 (fun j _ h => h)
      have hge : g2 = gb ∨ wr.heap.size + 1 ≤ g2 ∧ Has8 w2 gb (ys.map fl) cb := by
        rcases hge2 with e | ⟨e1, e2⟩
        · exact .inl e
        · simp only [World.size_alloc] at e1
          exact .inr ⟨e1, has8_grown hh2' e2 (by simp)⟩
      have HSV : Hid (vfs sevens = #[.int .u8 7, .int .u8 7, .int .u8 7, .int .u8 7, .int .u8 7, .int .u8 7, .int .u8 7, .int .u8 7]) := rfl
      have HR : Hid _ := hrun
      have HS2 : Hid _ := hs2
      have HG3 : Hid _ := hgr3
      have HGE : Hid _ := hge
      have HL : Hid ((ys.map fl).length = m) := by have := HM.out; show _ = _; rw [List.length_map]; exact this.symm
      have HLS : Hid ((ys.map fl ++ sevens).length = m + 8) := by show _ = _; rw [List.length_append, HL.out]; rfl
      have HK : Hid _ := hk'
      clear hg1 hh1 hh2 hh2' hrun hs2 hgr3 hgr2 hge2 hge hk'
      go_wp2_with (at_builtin; rw [← HSV.out]; refine wpList_append_run rfl _ _ 22 rfl _ _ _ _ rfl rfl HR.out ?_)
      clear k1
      go_loopw [8] (fun i wv => ∃ j : Nat, ∃ zs : List F, j ≤ 8 ∧ i = .int .i64 ((m + j : Nat) : Int) ∧ zs.length = m + 8 ∧ zs.take m = ys.map fl ∧ w2.grownBy wv (some g2) ∧ Has8 wv g2 zs cap2) (fun i _ => m + 8 - (intOf i).toNat)
      case atStart => exact ⟨0, _, by omega, rfl, HLS.out, by rw [← HL.out, List.take_left'] ; rfl, grownBy_refl _ _, HS2.out⟩
      case round =>
        obtain ⟨j, zs, hj, rfl, hz, hzt, hgv, hhv⟩ := hrel
        by_cases hlt2 : j < 8
        · obtain ⟨c1, c2⟩ := has8_cell (j := m + j) hhv (by omega)
          have ex := fl_val (at8 zs (m + j))
          have HG : Hid _ := hgv
          have HS : Hid _ := has8_set (j := m + j) hhv (by omega) (fl (at8 zs (m + j)))
          have HZ : Hid _ := hz
          have HZT : Hid _ := hzt
          clear hgv hhv hz hzt
          go_wp2
          exact ⟨⟨j + 1, zs.set (m + j) (fl (at8 zs (m + j))), by omega, by go_num, by rw [List.length_set]; exact HZ.out, by rw [List.take_set_of_le (by omega)]; exact HZT.out, grownBy_setCell HG.out _, HS.out⟩, by simp [intOf]; omega⟩
        · have hj8 : j = 8 := by omega
          have hfin : w.grownBy wr (some gb) := grownBy_trans HG3.out hgv (fun q hq hne => by
            rcases HGE.out with e | e
            · rw [e]; exact hne
            · simp; omega)
          have hhb : Row8 wr (some ⟨gb, 0, none⟩) (ys.map fl) := by
            rcases HGE.out with e | ⟨e, h⟩
            · subst e
              have := has8_take hhv m
              rw [hzt] at this
              exact row8_has this
            · exact row8_has (has8_grown h hgv (by simp; omega))
          have k2 := conv8 (ca := ca) HN.out (HX.out wr hfin)
          have HF : Hid _ := hfin
          have HB : Hid _ := hhb
          clear hgv hhv hfin hhb hz hzt
          subst hj8
          go_wp2
          go_ret
          exact ⟨rfl, HF.out, HB.out⟩
/-- the second list nil -/
theorem append8_nil (w : World) {ys : List F} {ad : Addr} {m c : Nat} (ty : TypeId) (hm : m = ys.length) (h0 : 0 < m) (hb : m ≤ 140737488355328)
    (hy : ∀ j, j < ys.length → w.cell? (ad.add j) = some (.int .u8 ((at8 ys j).toNat : Int))) :
    ∃ g' cap' w', (Builtin.append_ #[22, 22] ty #[.slice none 0 0, .slice (some ad) m c]).run Tryd.prog w = .ok (.slice (some ⟨g', 0, none⟩) m cap') w' ∧
      Has8 w' g' ys cap' ∧ w.grownBy w' none ∧ w.heap.size ≤ g' := by
  subst hm
  obtain ⟨i, hi, h1, h2, h3⟩ := info8
  obtain ⟨v', w', hrun, ho, hgr, hnil, hat⟩ := run_append_own_at (P := Tryd.prog) w w.heap.size 22 ty 5 i _ 1 1 Tryd.underlying22 hi h3 h1 h2 rfl (by decide)
    (.slice none 0 0) 0 [] ⟨rfl, .inl ⟨rfl, rfl⟩⟩ ad ys.length c (ys.map vf) (by simp) (fun j v hv => by
      simp only [List.getElem?_map, Option.map_eq_some_iff] at hv
      obtain ⟨x, hx1, rfl⟩ := hv
      have hj : j < ys.length := (List.getElem?_eq_some_iff.1 hx1).1
      have e : at8 ys j = x := by simp [at8, hx1]
      rw [hy j hj, e]; rfl) (fun v hv => by
      simp only [List.mem_map] at hv
      obtain ⟨x, _, rfl⟩ := hv
      rfl) (by simp only [maxLen]; omega) (by omega) (Nat.le_refl _)
  rcases ho.2 with ⟨hv, hn⟩ | ⟨g', cap', cur', hv, hg, hg', hl', hm', hs', ht'⟩
  · have := (hnil.1 hv).2
    omega
  · subst hv
    refine ⟨g', cap', w', by rw [hrun, Nat.zero_add], ⟨cur', hg', by omega, by simpa using hl', hm', ?_⟩, hgr, hg⟩
    rw [← List.nil_append (ys.map vf), ← ht', Nat.mul_one, Nat.zero_add]
set_option maxHeartbeats 4000000 in
theorem apart_nil (a : Option Addr) (n ca : Nat) (xs : List F) (w : World) (hn : n = xs.length) (hx : ∀ w', w.grownBy w' none → Row8 w' a xs) :
    Calls Tryd.prog 16 #[.slice a n ca, .slice none 0 0] w fun e w' => e = .returned (.bool true) ∧ w.grownBy w' none := by
  have k0 := conv8 (ca := ca) hn (hx w (grownBy_refl _ _))
  have HX : Hid _ := hx
  have HN : Hid _ := hn
  clear hx hn
  go_enter Tryd.func16, Tryd.ntmps16
  go_wp2
  go_loopw [13] (fun i wr => i = .int .i64 0 ∧ w = wr) (fun i _ => 0)
  case atStart => exact ⟨rfl, rfl⟩
  case round =>
    obtain ⟨rfl, rfl⟩ := hrel
    obtain ⟨g2, cap2, w2, hrun, hs2, hgr2, hge2⟩ := append8_nil (w.alloc (.cells (vfs sevens) 5)) (ys := sevens) (ad := ⟨w.heap.size, 0, none⟩) (m := 8) (c := 8) 22 rfl (by omega) (by omega) (fun j hj => by
          have hadd : (⟨w.heap.size, 0, none⟩ : Addr).add j = ⟨w.heap.size, j, none⟩ := by unfold Addr.add; split <;> simp_all
          rw [hadd, World.cell?_alloc_at _ _ _ _ rfl, vfs_get _ _ hj])
    have hgr3 : w.grownBy w2 none := grownBy_trans (World.grownBy_alloc w (.cells (vfs sevens) 5) none) hgr2 (by simp)
    have HSV : Hid (vfs sevens = #[.int .u8 7, .int .u8 7, .int .u8 7, .int .u8 7, .int .u8 7, .int .u8 7, .int .u8 7, .int .u8 7]) := rfl
    have HR : Hid _ := hrun
    have HS2 : Hid _ := hs2
    have HG3 : Hid _ := hgr3
    have HGE : Hid (w.heap.size ≤ g2) := by simp only [World.size_alloc] at hge2; show _ ≤ _; omega
    clear hrun hs2 hgr3 hgr2 hge2
    go_wp2_with (at_builtin; rw [← HSV.out]; refine wpList_append_run rfl _ _ 22 rfl _ _ _ _ rfl rfl HR.out ?_)
    clear k0
    go_loopw [8] (fun i wv => ∃ j : Nat, ∃ zs : List F, j ≤ 8 ∧ i = .int .i64 (j : Int) ∧ zs.length = 8 ∧ w2.grownBy wv (some g2) ∧ Has8 wv g2 zs cap2) (fun i _ => 8 - (intOf i).toNat)
    case atStart => exact ⟨0, _, by omega, rfl, rfl, grownBy_refl _ _, HS2.out⟩
    case round =>
      obtain ⟨j, zs, hj, rfl, hz, hgv, hhv⟩ := hrel
      by_cases hlt2 : j < 8
      · obtain ⟨c1, c2⟩ := has8_cell (j := j) hhv (by omega)
        have ex := fl_val (at8 zs j)
        have HG : Hid _ := hgv
        have HS : Hid _ := has8_set (j := j) hhv (by omega) (fl (at8 zs j))
        have HZ : Hid _ := hz
        clear hgv hhv hz
        go_wp2
        exact ⟨⟨j + 1, zs.set j (fl (at8 zs j)), by omega, by go_num, by rw [List.length_set]; exact HZ.out, grownBy_setCell HG.out _, HS.out⟩, by simp [intOf]; omega⟩
      · have hj8 : j = 8 := by omega
        have hfin : w.grownBy wr none := grownBy_trans HG3.out hgv (fun q hq _ => by have := HGE.out; simp; omega)
        have k2 := conv8 (ca := ca) HN.out (HX.out wr hfin)
        have HF : Hid _ := hfin
        clear hgv hhv hfin hz
        subst hj8
        go_wp2
        go_ret
        exact ⟨rfl, HF.out⟩

set_option maxHeartbeats 1000000 in
theorem rrow_some (r c i b off l cap : Nat) (xs : List F) (w : World) (hr : r ≤ 64) (hc : c ≤ 64) (hi : i < r) (hl : l = r * c) (hx : xs.length = r * c) (hcap : l ≤ cap) (hX : Row8 w (some ⟨b, off, none⟩) xs) :
    Calls Tryd.prog 27 #[.agg #[.int .i64 r, .int .i64 c, .slice (some ⟨b, off, none⟩) l cap], .int .i64 i] w fun e w' => ∃ g cap', e = .returned (.slice (some ⟨g, 0, none⟩) c cap') ∧ w.heap.size ≤ g ∧ Has8 w' g (rowAt c xs i) cap' ∧ Below w.heap.size w w' := by
  obtain ⟨m0, m1⟩ := mul_small (r := i) (c := c) (by omega) hc
  have m5 : i * c + c ≤ l := by
    have := Nat.mul_le_mul_right c (show i + 1 ≤ r from hi)
    rw [Nat.succ_mul] at this; omega
  have hl6 : l ≤ 4096 := by have := mul_small hr hc; have e : (r : Int) * (c : Int) = ((r * c : Nat) : Int) := by simp
                            omega
  have m4 : (i : Int) * (c : Int) = ((i * c : Nat) : Int) := by simp
  have m3 : ((i : Int) + 1) * (c : Int) = ((i * c : Nat) : Int) + (c : Int) := by rw [Int.add_mul, Int.one_mul, m4]
  have hrow : Row8 w (some ⟨b, rof off (i * c) cap, none⟩) (rowAt c xs i) := by
    rcases hX with e | ⟨b2, off2, e, h⟩
    · left
      rw [e]; simp [rowAt]
    · cases e
      exact row8_rowAt hx hi (by omega) h
  have hlen := rowAt_len hx hi
  generalize hp : i * c = p at m3 m4 m5 hrow ⊢
  rw [m4] at m0 m1
  have hh := heap_alloc_last (w.alloc (.cells #[.int .i64 r, .int .i64 c, .slice (some ⟨b, off, none⟩) l cap] 24)) (.cells #[] 5)
  obtain ⟨g', cap', w2, h1, h2, h3, h4⟩ := append8_new (g := w.heap.size + 1) (m := c) (c := cap - p) (a := some ⟨b, rof off p cap, none⟩) (ys := rowAt c xs i) 22 (by simpa using hh) hlen.symm (by omega) (row8_alloc (row8_alloc hrow _) _) (fun h => by cases h)
  have HR : Hid _ := h1
  have H2 : Hid _ := h2
  have HB : Hid (Below w.heap.size w w2) := grownBy_below (g := w.heap.size + 1) ((((Below.refl _ _).alloc (Nat.le_refl _) _).alloc (by simp) _)) ⟨h3.os, h3.tape, h3.output, h3.size, fun k hk _ => h3.block k hk (by simp)⟩ (by omega) (by simp; omega)
  have hg : w.heap.size ≤ g' := by
    rcases h4 with rfl | h4
    · omega
    · simp at h4; omega
  clear h1 h2 h3 h4 hh hX hrow hlen hp hl hx
  by_cases h : cap = p
  · subst h
    rw [rof_same] at HR
    have h0 : cap - cap = 0 := Nat.sub_self _
    rw [h0] at HR
    go_enter Tryd.func27, Tryd.ntmps27
    go_wp2_with (at_builtin; refine wpList_append_run rfl _ _ 22 rfl _ _ _ _ rfl ?_ HR.out ?_)
    · simp only [Nat.add_sub_cancel_left]
      rfl
    · go_wp2
      go_ret
      exact ⟨g', cap', rfl, hg, H2.out, HB.out⟩
  · rw [rof_room h] at HR
    go_enter Tryd.func27, Tryd.ntmps27
    go_wp2_with (at_builtin; refine wpList_append_run rfl _ _ 22 rfl _ _ _ _ rfl ?_ HR.out ?_)
    · simp only [Nat.add_sub_cancel_left]
      rfl
    · go_wp2
      go_ret
      exact ⟨g', cap', rfl, hg, H2.out, HB.out⟩

set_option maxHeartbeats 1000000 in
theorem rrow_nil (r i cap : Nat) (a : Option Addr) (w : World) (hi : i < 64) (hnil : a = none → cap = 0) :
    Calls Tryd.prog 27 #[.agg #[.int .i64 r, .int .i64 0, .slice a 0 cap], .int .i64 i] w fun e w' => ∃ g cap', e = .returned (.slice (some ⟨g, 0, none⟩) 0 cap') ∧ w.heap.size ≤ g ∧ Has8 w' g [] cap' ∧ Below w.heap.size w w' := by
  have hh := heap_alloc_last (w.alloc (.cells #[.int .i64 r, .int .i64 0, .slice a 0 cap] 24)) (.cells #[] 5)
  rw [World.size_alloc] at hh
  obtain ⟨g', cap', w2, h1, h2, h3, h4⟩ := append8_new (m := 0) (c := cap) (a := a) (ys := []) 22 hh rfl (by omega) (.inl rfl) hnil
  have HR : Hid _ := h1
  have H2 : Hid _ := h2
  have HB : Hid (Below w.heap.size w w2) := grownBy_below (g := w.heap.size + 1) ((((Below.refl _ _).alloc (Nat.le_refl _) _).alloc (by simp) _)) ⟨h3.os, h3.tape, h3.output, h3.size, fun k hk _ => h3.block k hk (by simp)⟩ (by omega) (by simp; omega)
  have hg : w.heap.size ≤ g' := by
    rcases h4 with rfl | h4
    · omega
    · simp at h4; omega
  have HN : Hid _ := hnil
  clear h1 h2 h3 h4 hh hnil
  by_cases h : cap = 0
  · subst h
    go_enter Tryd.func27, Tryd.ntmps27
    go_wp2_with (at_builtin; refine wpList_append_run rfl _ _ 22 rfl _ _ _ _ rfl rfl HR.out ?_)
    go_wp2
    go_ret
    exact ⟨g', cap', rfl, hg, H2.out, HB.out⟩
  · cases a with
    | none => exact absurd (HN.out rfl) h
    | some ad =>
      obtain ⟨b, off, tg⟩ := ad
      go_enter Tryd.func27, Tryd.ntmps27
      go_wp2_with (at_builtin; refine wpList_append_run rfl _ _ 22 rfl _ _ _ _ rfl rfl HR.out ?_)
      go_wp2
      go_ret
      exact ⟨g', cap', rfl, hg, H2.out, HB.out⟩
/-- of every matrix in form, every row that is there -/
theorem rrow_F (r c i l cap : Nat) (a : Option Addr) (xs : List F) (w : World) (hr : r ≤ 64) (hc : c ≤ 64) (hi : i < r) (hl : l = r * c) (hx : xs.length = r * c) (hcap : l ≤ cap) (hX : Row8 w a xs) (hnil : a = none → cap = 0) :
    Calls Tryd.prog 27 #[.agg #[.int .i64 r, .int .i64 c, .slice a l cap], .int .i64 i] w fun e w' => ∃ g cap', e = .returned (.slice (some ⟨g, 0, none⟩) c cap') ∧ w.heap.size ≤ g ∧ Has8 w' g (rowAt c xs i) cap' ∧ Below w.heap.size w w' := by
  rcases hX with e | ⟨b, off, rfl, h⟩
  · have h0 : r * c = 0 := by rw [← hx, e]; rfl
    have hc0 : c = 0 := by
      rcases Nat.mul_eq_zero.1 h0 with h | h
      · omega
      · exact h
    subst hc0
    obtain rfl : l = 0 := by omega
    refine (rrow_nil r i cap a w (by omega) hnil).mono fun e' w' ⟨g, cap', h⟩ => ⟨g, cap', ?_⟩
    have e0 : rowAt 0 xs i = [] := List.eq_nil_of_length_eq_zero (rowAt_len hx hi)
    rw [e0]
    exact h
  · exact rrow_some r c i b off l cap xs w hr hc hi hl hx hcap (.inr ⟨b, off, rfl, h⟩)
end Go.Proofs.YtgfiolfhckkpjaaDoor

/- The document's own answers for elimination: a matrix's span, what is a combination, the rank. -/
namespace Go.Proofs.YtgfiolfhckkpjaaDoor
open Go.RowKit Gf
set_option linter.unusedVariables false
set_option maxRecDepth 20000
set_option maxHeartbeats 4000000 in
theorem rexpress_F (A : Mt) (B SB c n t : Nat) (vR vM vF vB : Value) (fr fm : Nat → Option Addr × Nat) (V : Mt) (Ms : Nat → List F) (f bs : List Nat) (a : Option Addr) (l cap : Nat) (xs : List F) (w : World)
    (hS : SpanW w B SB c n t t t t vR vM vF vB fr fm V Ms f bs) (hSO : SpanOf A c n t V (madeF Ms) (f.getD · 0)) (hc : c ≤ 64) (hn : n ≤ 64) (hl : l = c) (hx : xs.length = c) (hX : Row8 w a xs) (hnil : a = none → cap = 0) :
    Calls Tryd.prog 26 #[.pointer (some ⟨SB, 0, none⟩), .slice a l cap] w fun e w' =>
      (∃ g x, e = .returned (.tuple #[.slice (some ⟨g, 0, none⟩) n n, .bool true]) ∧ w.heap.size ≤ g ∧ w'.heap[g]? = some (.cells (vfs (rowF n x)) 5 (0, 0)) ∧ SolOf (tr A) c n (at8 xs) x ∧ Below w.heap.size w w') ∨
      (e = .returned (.tuple #[.slice none 0 0, .bool false]) ∧ ¬ Dep (tr A) c n (at8 xs) ∧ Below w.heap.size w w') := by
  have ht : t ≤ n := by rw [hSO.len]; exact pivL_le _ _ _
  have HSO : Hid _ := hSO
  have HS : Hid _ := hS
  have HR : Hid _ := rest_F B SB c n t vR vM vF vB fr fm V Ms f bs a l cap xs w hS hc hn (by omega) hSO.lt hl hx hX hnil
  clear hS hSO hl hx hX hnil
  go_enter Tryd.func26, Tryd.ntmps26
  go_wp2_with fail
  refine Calls.mono HR.out ?_
  rintro e w1 ⟨g1, cap1, g2, cap2, rfl, hw, hu, hg1, hg2, hb⟩
  generalize hWW : wN V (f.getD · 0) (at8 xs) t = WW at *
  generalize hUU : uN V (madeF Ms) (f.getD · 0) (at8 xs) t = UU at *
  have HWW : Hid _ := hWW
  have HUU : Hid _ := hUU
  have HS1 : Hid _ := HS.out.below hb
  have HB1 : Hid _ := hb
  have HW1 : Hid _ := hw
  have HU1 : Hid _ := hu
  clear hWW hUU hb hu HR HS
  go_wp2
  go_loopw [19] (fun i wr => ∃ k : Nat, k ≤ c ∧ i = .int .i64 k ∧ wr = w1 ∧ ∀ j, j < k → WW j = 0) (fun i _ => c - (intOf i).toNat)
  case atStart => exact ⟨0, by omega, rfl, rfl, fun j h => by omega⟩
  case round =>
    obtain ⟨k, hk, rfl, rfl, hz⟩ := hrel
    have HZ : Hid _ := hz
    clear hz
    by_cases hlt : k < c
    · have c1 := (has8_cell hw (j := k) (by rw [rowF_len]; exact hlt)).1
      rw [at8_rowF hlt] at c1
      by_cases hzero : WW k = 0
      · rw [hzero] at c1
        clear hw
        go_wp2
        exact ⟨⟨k + 1, by omega, by go_num, by first | rfl | trivial, fun j hj => by
          by_cases e : j = k
          · rw [e]; exact hzero
          · exact HZ.out j (by omega)⟩, by simp [intOf]; omega⟩
      · have hnz : ((WW k).toNat : Int) ≠ 0 := by
          intro e; exact hzero (F.val_eq_zero.1 (by omega))
        clear hw
        go_wp2
        exact bodyPost_ret (v := .tuple #[.slice none 0 0, .bool false]) (by simp [results, Tryd.results26, go_sem]) rfl (.inr ⟨rfl, fun hd => hzero (by rw [← HWW.out]; exact HSO.out.rest_zero hd k hlt), HB1.out⟩)
    · obtain rfl : k = c := by omega
      have c1 := cellAt HS1.out.box 4 _ rfl
      have hmk := run_make8 n (by omega)
      have hcp := run_copy8 wr.heap.size n n (some ⟨g2, 0, none⟩) n cap2 (zeros n) (rowF n UU) (wr.alloc (.cells (vfs (zeros n)) 5)) 3 (zeros_len _).symm (rowF_len _ _).symm (by rw [rowF_len, zeros_len]; exact Nat.le_refl _) (heap_alloc_last wr _) (row8_alloc (row8_has HU1.out) _)
      have e1 : rowF n UU ++ (zeros n).drop (rowF n UU).length = rowF n UU := by
        rw [rowF_len, zeros_drop, Nat.sub_self]; simp [zeros]
      rw [e1, World.setRow_alloc_new] at hcp
      have HCP : Hid _ := hcp
      have HM : Hid _ := heap_alloc_last wr (.cells (vfs (rowF n UU)) 5)
      have HB2 : Hid (Below w.heap.size w (wr.alloc (.cells (vfs (rowF n UU)) 5))) := HB1.out.alloc HB1.out.size _
      have hsz := HB1.out.size
      have hcp := HCP.out
      clear hw e1
      go_wp2
      refine bodyPost_ret (v := .tuple #[.slice (some ⟨wr.heap.size, 0, none⟩) n n, .bool true]) (by simp [results, Tryd.results26, go_sem]) rfl (.inl ⟨wr.heap.size, UU, rfl, hsz, HM.out, ⟨fun j hj => ?_, fun l hl hn => ?_⟩, HB2.out⟩)
      · rw [← HUU.out]
        exact HSO.out.rest_dep (fun j hj => by rw [HWW.out]; exact HZ.out j hj) j hj
      · rw [← HUU.out]
        exact HSO.out.offs (at8 xs) t (Nat.le_refl _) l hl hn
/-- the rows of a matrix as lists' cells: 0 behind their end -/
def rowsF (c : Nat) (xs : List F) : Mt := fun i => at8 (rowAt c xs i)
theorem rowsF_cell {c : Nat} {xs : List F} {i j : Nat} (hj : j < c) : rowsF c xs i j = cellF c xs i j := at8_rowAt hj
theorem tr_rowsF {c r : Nat} {xs : List F} : ∀ i, i < c → ∀ j, j < r → tr (rowsF c xs) i j = tr (cellF c xs) i j := fun i hi j _ => rowsF_cell hi
set_option maxHeartbeats 4000000 in
theorem rof_F (r c l cap : Nat) (a : Option Addr) (xs : List F) (w : World) (hr : r ≤ 64) (hc : c ≤ 64) (hl : l = r * c) (hx : xs.length = r * c) (hcap : l ≤ cap) (hX : Row8 w a xs) (hnil : a = none → cap = 0) :
    Calls Tryd.prog 23 #[.agg #[.int .i64 r, .int .i64 c, .slice a l cap]] w fun e w' => ∃ SB t vR vM vF vB fr fm V Ms f, e = .returned (.pointer (some ⟨SB, 0, none⟩)) ∧ w.heap.size ≤ SB ∧
      SpanW w' w.heap.size SB c r t t t t vR vM vF vB fr fm V Ms f (pivL (tr (rowsF c xs)) c r) ∧ SpanOf (rowsF c xs) c r t V (madeF Ms) (f.getD · 0) ∧ Below w.heap.size w w' := by
  have HL : Hid _ := hl
  have HX : Hid _ := hx
  have HRX : Hid (Row8 w a xs) := hX
  have HNA : Hid _ := hnil
  have hA := holds_new (holds_new (holds_nil w) #[.int .i64 r, .int .i64 c, .slice a l cap] 24) #[.int .i64 c, .slice none 0 0, .slice none 0 0, .slice none 0 0, .int .i64 0, .slice none 0 0] 52
  rw [World.size_alloc] at hA
  have HA : Hid _ := hA
  have hB : Below w.heap.size w ((w.alloc (.cells #[.int .i64 r, .int .i64 c, .slice a l cap] 24)).alloc (.cells #[.int .i64 c, .slice none 0 0, .slice none 0 0, .slice none 0 0, .int .i64 0, .slice none 0 0] 52)) := ((Below.refl w.heap.size w).alloc (Nat.le_refl _) _).alloc (by simp) _
  have HB : Hid _ := hB
  clear hl hx hX hnil hA hB
  go_enter Tryd.func23, Tryd.ntmps23
  go_wp2
  generalize hW0 : ((w.alloc (.cells #[.int .i64 r, .int .i64 c, .slice a l cap] 24)).alloc (.cells #[.int .i64 c, .slice none 0 0, .slice none 0 0, .slice none 0 0, .int .i64 0, .slice none 0 0] 52)) = W0 at *
  clear hW0
  go_loopw [4] (fun i wr => ∃ k : Nat, k ≤ r ∧ i = .int .i64 k ∧ wr.heap[w.heap.size]? = some (.cells #[.int .i64 r, .int .i64 c, .slice a l cap] 24 (0, 0)) ∧ Below w.heap.size w wr ∧ Below (w.heap.size + 1) W0 wr ∧ ∃ t vR vM vF vB fr fm V Ms f,
    SpanW wr (w.heap.size + 1) (w.heap.size + 1) c k t t t t vR vM vF vB fr fm V Ms f (pivL (tr (rowsF c xs)) c k) ∧ SpanOf (rowsF c xs) c k t V (madeF Ms) (f.getD · 0)) (fun i _ => r - (intOf i).toNat)
  case atStart =>
    refine ⟨0, by omega, rfl, holds_at HA.out 1 rfl, HB.out, Below.refl _ _, 0, _, _, _, _, fun _ => (none, 0), fun _ => (none, 0), fun _ _ => 0, fun _ => [], [], ⟨holds_at HA.out 0 rfl, ⟨rfl, .inl ⟨rfl, rfl⟩⟩, ⟨rfl, .inl ⟨rfl, rfl⟩⟩, ⟨rfl, .inl ⟨rfl, rfl⟩⟩, ⟨by simp [pivL, natV], .inl ⟨rfl, rfl⟩⟩, rfl, by simp [pivL], fun i h => by omega, fun i h => by omega, fun i h => by omega, .inl rfl, .inl rfl, .inl rfl, .inl rfl⟩, SpanOf.start _ _ _ _ _⟩
  case round =>
    obtain ⟨k, hk, rfl, hbox, hbw, hb0, t, vR, vM, vF, vB, fr, fm, V, Ms, f, hsp, hso⟩ := hrel
    have c1 := cellAt hbox 0 _ rfl
    have HBOX : Hid _ := hbox
    have HBW : Hid _ := hbw
    have HB0 : Hid _ := hb0
    have HSP : Hid _ := hsp
    have HSO : Hid _ := hso
    have hsz := hsp.box
    have zz := ltHeap hsz
    clear hbox hbw hb0 hsp hso hsz
    by_cases hlt : k < r
    · have c2 := cellAt HBOX.out 1 _ rfl
      have c3 := cellAt HBOX.out 2 _ rfl
      go_wp2_with fail
      refine Calls.mono (rrow_F r c k l cap a xs _ hr hc hlt HL.out HX.out hcap (row8_below HRX.out HBW.out) HNA.out) ?_
      rintro e w2 ⟨g2, cap2, rfl, hg2, hh2, hb2⟩
      have hS2 := HSP.out.below hb2
      have HS2 : Hid _ := hS2
      have HBX2 : Hid _ := heap_later HBOX.out hb2
      have HB2 : Hid _ := hb2
      have HH2 : Hid _ := row8_has hh2
      have hsz2 := hb2.size
      have HRL : Hid ((rowAt c xs k).length = c) := rowAt_len HX.out hlt
      clear hS2 hb2 hh2 c1 c2 c3
      go_wp2_with fail
      refine Calls.mono (radd_F (rowsF c xs) (w.heap.size + 1) (w.heap.size + 1) c k t vR vM vF vB fr fm V Ms f (some ⟨g2, 0, none⟩) cap2 (rowAt c xs k) _ HS2.out HSO.out rfl hc (by omega) HRL.out HH2.out (fun h => by cases h) (by omega) (Nat.le_refl _)) ?_
      rintro e w3 ⟨rfl, hb3, t', vR', vM', vF', vB', fr', fm', V', Ms', f', hsp3, hso3⟩
      have HB3 : Hid (Below w.heap.size w w3) := (HBW.out.trans (HB2.out.mono HBW.out.size)).trans (hb3.mono (by omega))
      have HB03 : Hid (Below (w.heap.size + 1) W0 w3) := (HB0.out.trans (HB2.out.mono (by omega))).trans hb3
      have HBX3 : Hid _ := (hb3.block w.heap.size (by omega)).trans HBX2.out
      have HSP3 : Hid _ := hsp3
      have HSO3 : Hid _ := hso3
      clear hb3 hsp3 hso3
      go_wp2
      exact ⟨⟨k + 1, by omega, by go_num, HBX3.out, HB3.out, HB03.out, t', vR', vM', vF', vB', fr', fm', V', Ms', f', HSP3.out, HSO3.out⟩, by simp [intOf]; omega⟩
    · obtain rfl : k = r := by omega
      go_wp2
      go_ret
      have h := HSP.out
      exact ⟨w.heap.size + 1, t, vR, vM, vF, vB, fr, fm, V, Ms, f, rfl, by omega, ⟨h.box, own_lower h.rows (by omega), own_lower h.made (by omega), own_lower h.firsts (by omega), own_lower h.basis (by omega), h.fl, h.bl, h.rowT, h.madeT, h.ml, h.ne1, h.ne2, h.ne3, h.ne4⟩, HSO.out, HBW.out⟩
end Go.Proofs.YtgfiolfhckkpjaaDoor

/- The document's own look whether a matrix is reduced: of a reduced matrix its pivots, and true. -/
namespace Go.Proofs.YtgfiolfhckkpjaaDoor
open Go.RowKit Gf
set_option linter.unusedVariables false
set_option maxRecDepth 20000
theorem Red.first {R : Mt} {p : List Nat} {n c k a : Nat} (h : Red R p n c) (hk : k < n) (ha : a < c) (hz : ∀ j, j < a → R k j = 0) (hne : R k a ≠ 0) : p[k]? = some a := by
  by_cases hkp : k < p.length
  · have hj := getD_some hkp
    have h1 := h.unit k _ hj k hk
    rw [if_pos rfl] at h1
    rcases Nat.lt_trichotomy a (p.getD k 0) with e | e | e
    · exact absurd (h.left k _ hj a e) hne
    · rw [hj, e]
    · rw [hz _ e] at h1; exact absurd h1.symm F.one_ne_zero
  · exact absurd (h.below k (by omega) hk a ha) hne
theorem Red.last {R : Mt} {p : List Nat} {n c k : Nat} (h : Red R p n c) (hk : k < n) (hz : ∀ j, j < c → R k j = 0) : p.length ≤ k := by
  refine Nat.not_lt.1 fun hkp => ?_
  have hj := getD_some hkp
  have h1 := h.unit k _ hj k hk
  rw [if_pos rfl, hz _ (h.lt k _ hj)] at h1
  exact F.one_ne_zero h1.symm
theorem take_next {p : List Nat} {k a : Nat} (h : p[k]? = some a) : p.take k ++ [a] = p.take (k + 1) := by
  rw [List.take_add_one, h]; rfl
theorem own_cell3 {w : World} {B n i : Nat} {v x : Value} {e : TypeId} {xs : List Value} (ho : w.ownsRow B e 1 v n xs) (hi : xs[i]? = some x) : ∃ g cap, v = .slice (some ⟨g, 0, none⟩) n cap ∧ w.cell? ⟨g, i, none⟩ = some x ∧ g < w.heap.size := by
  have hil := (List.getElem?_eq_some_iff.1 hi).1
  have hl := ho.1
  rcases ho.2 with ⟨rfl, e0⟩ | ⟨g, cap, cur, rfl, h1, h2, h3⟩
  · omega
  · exact ⟨g, cap, rfl, by rw [ho.cellAt i (by omega)]; exact hi, ltHeap h2⟩
set_option maxHeartbeats 8000000 in
theorem reduced_F (r c l cap g : Nat) (R : Mt) (p : List Nat) (w : World) (hr : r ≤ 64) (hc : c ≤ 64) (hl : l = r * c) (hcap : l ≤ cap) (hX : Row8 w (some ⟨g, 0, none⟩) (grid c R r)) (hred : Red R p r c) :
    Calls Tryd.prog 24 #[.agg #[.int .i64 r, .int .i64 c, .slice (some ⟨g, 0, none⟩) l cap]] w fun e w' => ∃ av cv, e = .returned (.tuple #[.slice av p.length cv, .bool true]) ∧ w'.ownsRow w.heap.size 3 1 (.slice av p.length cv) p.length (natV p) ∧ Below w.heap.size w w' := by
  have HL : Hid _ := hl
  have HX : Hid (Row8 w (some ⟨g, 0, none⟩) (grid c R r)) := hX
  have HRED : Hid _ := hred
  have hpl := hred.len
  have HA : Hid _ := holds_new (holds_new (holds_nil w) #[.int .i64 r, .int .i64 c, .slice (some ⟨g, 0, none⟩) l cap] 24) #[] 3
  have HB : Hid (Below w.heap.size w ((w.alloc (.cells #[.int .i64 r, .int .i64 c, .slice (some ⟨g, 0, none⟩) l cap] 24)).alloc (.cells #[] 3))) := ((Below.refl w.heap.size w).alloc (Nat.le_refl _) _).alloc (by simp) _
  have hl4 : l ≤ 4096 := by have := mul_small hr hc; have e : (r : Int) * (c : Int) = ((r * c : Nat) : Int) := by simp
                            omega
  clear hl hX hred
  go_enter Tryd.func24, Tryd.ntmps24
  go_wp2
  have hA := HA.out
  rw [World.size_alloc] at hA
  have HA : Hid _ := hA
  clear hA
  generalize ((w.alloc (.cells #[.int .i64 r, .int .i64 c, .slice (some ⟨g, 0, none⟩) l cap] 24)).alloc (.cells #[] 3)) = W1 at *
  go_loopw [4, 5, 6] (fun v b i wr => ∃ k : Nat, k ≤ r ∧ i = .int .i64 k ∧ b = .bool (decide (p.length < k)) ∧ Below (w.heap.size + 1) W1 wr ∧ wr.ownsRow (w.heap.size + 1) 3 1 v (min k p.length) (natV (p.take k))) (fun _ _ i _ => r - (intOf i).toNat)
  case atStart => exact ⟨0, by omega, rfl, by simp, Below.refl _ _, ⟨rfl, .inr ⟨w.heap.size + 1, 0, #[], rfl, Nat.le_refl _, holds_at HA.out 0 rfl, Nat.le_refl _, by decide, rfl, rfl⟩⟩⟩
  case round =>
    obtain ⟨k, hk, rfl, rfl, hbw, hown⟩ := hrel
    obtain ⟨aa, ca, rfl⟩ := own_shape hown
    have hbox := (hbw.block w.heap.size (by omega)).trans (holds_at HA.out 1 rfl)
    have zM : w.heap.size + 1 ≤ wr.heap.size := Nat.le_trans (ltHeap (holds_at HA.out 1 rfl)) hbw.size
    have HBOX : Hid _ := hbox
    have HBW : Hid _ := hbw
    have HWR : Hid (Below w.heap.size w wr) := HB.out.trans (hbw.mono (by omega))
    have HOWN : Hid _ := hown
    have c1 := cellAt hbox 0 _ rfl
    clear hbw hown hbox
    by_cases hlt : k < r
    · have c2 := cellAt HBOX.out 1 _ rfl
      have c3 := cellAt HBOX.out 2 _ rfl
      go_wp2_with fail
      refine Calls.mono (rrow_F r c k l cap (some ⟨g, 0, none⟩) (grid c R r) _ hr hc hlt HL.out (grid_len _ _ _) hcap (row8_below HX.out HWR.out) (fun h => by cases h)) ?_
      rintro e w2 ⟨g2, cap2, rfl, hg2, hh2, hb2⟩
      rw [rowAt_grid hlt] at hh2
      have HH2 : Hid _ := hh2
      have HB2 : Hid _ := hb2
      have HBX2 : Hid _ := heap_later HBOX.out hb2
      have HO2 : Hid _ := own_below HOWN.out hb2
      have HX2 : Hid (Row8 w2 (some ⟨g, 0, none⟩) (grid c R r)) := row8_below HX.out (HWR.out.trans (hb2.mono HWR.out.size))
      have hsz2 := hb2.size
      clear hh2 hb2 c1 c2 c3 hg2
      go_wp2
      go_loopw [8] (fun i wq => ∃ a : Nat, a ≤ c ∧ i = .int .i64 a ∧ wq = w2 ∧ ∀ j, j < a → R k j = 0) (fun i _ => c - (intOf i).toNat)
      case atStart => exact ⟨0, by omega, rfl, rfl, fun j h => by omega⟩
      case round =>
        obtain ⟨a, ha, rfl, hwr, hz⟩ := hrel
        subst hwr
        have HZ : Hid _ := hz
        clear hz
        have c1 := cellAt HBX2.out 0 _ rfl
        by_cases hac : a < c
        · have c4 := (has8_cell HH2.out (j := a) (by rw [rowF_len]; exact hac)).1
          rw [at8_rowF hac] at c4
          by_cases hzero : R k a = 0
          · rw [hzero] at c4
            go_wp2
            exact ⟨⟨a + 1, by omega, by go_num, by first | rfl | trivial, fun j hj => by
              by_cases e : j = a
              · rw [e]; exact hzero
              · exact HZ.out j (by omega)⟩, by simp [intOf]; omega⟩
          · have hpk := HRED.out.first hlt hac HZ.out hzero
            have hkp := (List.getElem?_eq_some_iff.1 hpk).1
            have hone := HRED.out.unit k a hpk k hlt
            rw [if_pos rfl] at hone
            rw [hone] at c4
            have htl : min k p.length = k := by omega
            have HTL : Hid _ := htl
            have HPK : Hid _ := hpk
            have hdec : decide (p.length < k) = false := by simp; omega
            rw [hdec, htl]
            have hac2 : ((a : Int) == (c : Int)) = false := by simp; omega
            have ho := World.ownsRow.alloc HO2.out (.cells #[.int .i64 a] 3)
            rw [htl] at ho
            obtain ⟨g5, cap5, w5, hrun, ho5, hgr, hor, hlt5⟩ := appendI (b := wr.heap.size) (c := 1) (x := (a : Int)) 38 ho (cellAt (heap_alloc_last wr (.cells #[.int .i64 a] 3)) 0 _ rfl) (by omega) (by simp; omega)
            rw [natV_snoc, take_next hpk] at ho5
            have hlen : min (k + 1) p.length = k + 1 := by omega
            have HLEN : Hid _ := hlen
            have HRun : Hid _ := hrun
            have HO5 : Hid _ := ho5
            have HB5 : Hid (Below (w.heap.size + 1) W1 w5) := below_own ((HBW.out.trans (HB2.out.mono (by omega))).alloc (by omega) _) ho hgr (by simp; omega)
            clear hpk hone htl hdec hrun ho5 hgr hor hlt5 ho hlen hzero
            have hprev : k = 0 ∨ ∃ (k0 : Nat) (y : Nat) (gq : Nat), k = k0 + 1 ∧ aa = some ⟨gq, 0, none⟩ ∧ wr.cell? ⟨gq, k0, none⟩ = some (.int .i64 y) ∧ y < a := by
              by_cases h0 : k = 0
              · exact .inl h0
              · obtain ⟨k0, rfl⟩ : ∃ k0, k = k0 + 1 := ⟨k - 1, by omega⟩
                have hy : p[k0]? = some p[k0] := List.getElem?_eq_getElem (by omega)
                have hnv : (natV (p.take (k0 + 1)))[k0]? = some (.int .i64 ((p[k0] : Nat) : Int)) := natV_at (by rw [List.getElem?_take, if_pos (by omega)]; exact hy)
                obtain ⟨gq, cq, eq, hcq, _⟩ := own_cell3 (n := min (k0 + 1) p.length) HO2.out hnv
                cases eq
                have hup := List.pairwise_iff_getElem.1 HRED.out.up k0 (k0 + 1) (by omega) hkp (by omega)
                have e2 : p[k0 + 1] = a := by have := HPK.out; rw [List.getElem?_eq_getElem hkp] at this; exact Option.some.inj this
                exact .inr ⟨k0, _, gq, rfl, rfl, hcq, by omega⟩
            rcases hprev with h0 | ⟨k0, y, gq, hk0, rfl, hcq, hya⟩
            · have hd1 : decide ((0 : Int) < (k : Int)) = false := by simp; omega
              have hd3 : ¬ 0 < k := by omega
              clear h0
              go_wp2
              go_loopw [9] (fun s wq => ∃ q : Nat, q ≤ r ∧ s = .int .i64 q ∧ wq = wr) (fun s _ => r - (intOf s).toNat)
              case atStart => exact ⟨0, by omega, rfl, rfl⟩
              case round =>
                obtain ⟨q, hq, rfl, hwq⟩ := hrel
                subst hwq
                by_cases hqr : q < r
                · by_cases hqk : q = k
                  · subst hqk
                    go_wp2
                    exact ⟨⟨q + 1, by omega, by go_num, by first | rfl | trivial⟩, by simp [intOf]; omega⟩
                  · have hne : ((q : Int) != ((k : Int))) = true := by simp; omega
                    have b2 := cellAt HBX2.out 1 _ rfl
                    have b3 := cellAt HBX2.out 2 _ rfl
                    obtain ⟨pq, hpq⟩ : ∃ x, x = q * c := ⟨_, rfl⟩
                    have m1 : (q : Int) * (c : Int) = (pq : Int) := by rw [hpq]; simp
                    have hp1 := place_lt (c := c) hqr hac
                    rw [← hpq] at hp1
                    have hp2 : pq + a < l := by rw [HL.out]; exact hp1
                    obtain ⟨bx, ox, ex, _, hcx⟩ := row8_cell HX2.out (j := pq + a) (by rw [grid_len]; exact hp1)
                    cases ex
                    have b4 := hcx (pq + a) (by rw [grid_len]; exact hp1)
                    rw [Nat.zero_add, hpq, at8_grid hqr hac, HRED.out.unit _ a HPK.out q hqr, if_neg hqk, ← hpq] at b4
                    clear hcx hpq hp1
                    go_wp2
                    exact ⟨⟨q + 1, by omega, by go_num, by first | rfl | trivial⟩, by simp [intOf]; omega⟩
                · obtain rfl : q = r := by omega
                  go_wp2_with (at_builtin; refine wpList_append_run rfl _ _ 38 rfl _ _ _ _ rfl rfl HRun.out ?_)
                  exact ⟨⟨k + 1, by omega, by go_num, by simp; omega, HB5.out, by rw [HLEN.out]; exact HO5.out⟩, by simp [intOf]; omega⟩
            · have hk1 : ((k : Int) - 1) = (k0 : Int) := by omega
              have hkp0 : 0 < k := by omega
              have hd1 : decide ((0 : Int) < (k : Int)) = true := by simp; omega
              have hd2 : decide ((a : Int) ≤ (y : Int)) = false := by simp; omega
              clear hk0
              go_wp2
              go_loopw [9] (fun s wq => ∃ q : Nat, q ≤ r ∧ s = .int .i64 q ∧ wq = wr) (fun s _ => r - (intOf s).toNat)
              case atStart => exact ⟨0, by omega, rfl, rfl⟩
              case round =>
                obtain ⟨q, hq, rfl, hwq⟩ := hrel
                subst hwq
                by_cases hqr : q < r
                · by_cases hqk : q = k
                  · subst hqk
                    go_wp2
                    exact ⟨⟨q + 1, by omega, by go_num, by first | rfl | trivial⟩, by simp [intOf]; omega⟩
                  · have hne : ((q : Int) != ((k : Int))) = true := by simp; omega
                    have b2 := cellAt HBX2.out 1 _ rfl
                    have b3 := cellAt HBX2.out 2 _ rfl
                    obtain ⟨pq, hpq⟩ : ∃ x, x = q * c := ⟨_, rfl⟩
                    have m1 : (q : Int) * (c : Int) = (pq : Int) := by rw [hpq]; simp
                    have hp1 := place_lt (c := c) hqr hac
                    rw [← hpq] at hp1
                    have hp2 : pq + a < l := by rw [HL.out]; exact hp1
                    obtain ⟨bx, ox, ex, _, hcx⟩ := row8_cell HX2.out (j := pq + a) (by rw [grid_len]; exact hp1)
                    cases ex
                    have b4 := hcx (pq + a) (by rw [grid_len]; exact hp1)
                    rw [Nat.zero_add, hpq, at8_grid hqr hac, HRED.out.unit _ a HPK.out q hqr, if_neg hqk, ← hpq] at b4
                    clear hcx hpq hp1
                    go_wp2
                    exact ⟨⟨q + 1, by omega, by go_num, by first | rfl | trivial⟩, by simp [intOf]; omega⟩
                · obtain rfl : q = r := by omega
                  go_wp2_with (at_builtin; refine wpList_append_run rfl _ _ 38 rfl _ _ _ _ rfl rfl HRun.out ?_)
                  exact ⟨⟨k + 1, by omega, by go_num, by simp; omega, HB5.out, by rw [HLEN.out]; exact HO5.out⟩, by simp [intOf]; omega⟩
        · obtain rfl : a = c := by omega
          have hlast := HRED.out.last hlt HZ.out
          have ht1 : p.take k = p := List.take_of_length_le hlast
          have ht2 : p.take (k + 1) = p := List.take_of_length_le (by omega)
          have HT1 : Hid _ := ht1
          have HT2 : Hid _ := ht2
          clear ht1 ht2
          go_wp2
          exact ⟨⟨k + 1, by omega, by go_num, by simp; omega, HBW.out.trans (HB2.out.mono (by omega)), by
            have h := HO2.out
            rw [HT1.out, show min k p.length = p.length by omega] at h
            rw [HT2.out, show min k p.length = p.length by omega, show min (k + 1) p.length = p.length by omega]; exact h⟩, by simp [intOf]; omega⟩
    · obtain rfl : k = r := by omega
      have ht : p.take k = p := List.take_of_length_le hpl
      have hmn : min k p.length = p.length := by omega
      rw [hmn]
      have h := HOWN.out
      rw [ht, hmn] at h
      have HO : Hid _ := own_lower h (show w.heap.size ≤ w.heap.size + 1 by omega)
      have hba : ca = ca := rfl
      clear h ht hmn
      go_wp2
      exact bodyPost_ret (v := .tuple #[.slice aa p.length ca, .bool true]) (by simp [results, Tryd.results24, go_sem]) rfl ⟨aa, ca, rfl, HO.out, HWR.out⟩
end Go.Proofs.YtgfiolfhckkpjaaDoor

/- What the statements' own looks at lists of numbers answer: Ints, KeptInts, SameInts; nothing that was there turns. -/
namespace Go.Proofs.YtgfiolfhckkpjaaDoor
open Go.RowKit Gf
set_option linter.unusedVariables false
set_option maxRecDepth 20000
theorem rowI_at {w : World} {b off : Nat} {ns : List Int} (h : ∀ j n, ns[j]? = some n → w.cell? ⟨b, off + j, none⟩ = some (.int .i64 n)) (j : Nat) (hj : j < ns.length) : w.cell? ⟨b, off + j, none⟩ = some (.int .i64 (ns.getD j 0)) := by
  refine h j _ ?_
  rw [List.getD_eq_getElem?_getD, List.getElem?_eq_getElem hj]; rfl
theorem rowI_cell {w : World} {a : Option Addr} {ns : List Int} (h : RowI w a ns) {j : Nat} (hj : j < ns.length) : ∃ b off, a = some ⟨b, off, none⟩ ∧ b < w.heap.size ∧ ∀ j, j < ns.length → w.cell? ⟨b, off + j, none⟩ = some (.int .i64 (ns.getD j 0)) := by
  rcases h with e | ⟨b, off, rfl, h⟩
  · rw [e] at hj; simp at hj
  · have := World.block_lt_of_cell? w _ (rowI_at h j hj)
    exact ⟨b, off, rfl, by simpa using this, fun j hj => rowI_at h j hj⟩
def eqI (ns ms : List Int) : Bool := decide (ns = ms)
theorem eqI_true (ns : List Int) : eqI ns ns = true := by simp [eqI]
theorem eqI_ext {ns ms : List Int} (hl : ns.length = ms.length) (h : ∀ j, j < ns.length → ns.getD j 0 = ms.getD j 0) : ns = ms := by
  apply List.ext_getElem hl
  intro j h1 h2
  have := h j h1
  simpa [List.getD_eq_getElem?_getD, h1, h2] using this
theorem eqI_len {ns ms : List Int} (h : ns.length ≠ ms.length) : eqI ns ms = false := by
  simp only [eqI, decide_eq_false_iff_not]
  intro e; exact h (by rw [e])
theorem eqI_no {ns ms : List Int} {k : Nat} (h : ns.getD k 0 ≠ ms.getD k 0) : eqI ns ms = false := by
  simp only [eqI, decide_eq_false_iff_not]
  intro e; exact h (by rw [e])
set_option maxHeartbeats 1000000 in
theorem sameInts_F (a b : Option Addr) (la ca lb cb : Nat) (ns ms : List Int) (w : World) (hla : la = ns.length) (hlb : lb = ms.length) (ha : la ≤ 140737488355328) (hb : lb ≤ 140737488355328) (hx : RowI w a ns) (hy : RowI w b ms) :
    Calls Tryd.prog 25 #[.slice a la ca, .slice b lb cb] w fun e w' => e = .returned (.bool (eqI ns ms)) ∧ Below w.heap.size w w' := by
  by_cases hl : la = lb
  · subst hl
    have HA : Hid _ := hla
    have HB : Hid _ := hlb
    have HX : Hid _ := hx
    have HY : Hid _ := hy
    clear hla hlb hx hy
    go_enter Tryd.func25, Tryd.ntmps25
    go_wp2
    go_loopw [13] (fun i wr => ∃ k : Nat, k ≤ la ∧ i = .int .i64 k ∧ Below w.heap.size w wr ∧ ∀ j, j < k → ns.getD j 0 = ms.getD j 0) (fun i _ => la - (intOf i).toNat)
    case atStart => exact ⟨0, by omega, rfl, Below.refl _ _, fun j h => absurd h (by omega)⟩
    case round =>
      obtain ⟨k, hk, rfl, hbw, hall⟩ := hrel
      by_cases hlt : k < la
      · obtain ⟨b1, o1, rfl, hb1, h1⟩ := rowI_cell HX.out (show k < ns.length by rw [← HA.out]; exact hlt)
        obtain ⟨b2, o2, rfl, hb2, h2⟩ := rowI_cell HY.out (show k < ms.length by rw [← HB.out]; exact hlt)
        have c1 : wr.cell? ⟨b1, o1 + k, none⟩ = some (.int .i64 (ns.getD k 0)) := cell_later hbw (h1 k (by rw [← HA.out]; exact hlt))
        have c2 : wr.cell? ⟨b2, o2 + k, none⟩ = some (.int .i64 (ms.getD k 0)) := cell_later hbw (h2 k (by rw [← HB.out]; exact hlt))
        have HW : Hid _ := hbw
        have HALL : Hid _ := hall
        clear h1 h2 hbw hall
        generalize hx : ns.getD k 0 = x at c1
        generalize hy : ms.getD k 0 = y at c2
        have EX : Hid _ := hx
        have EY : Hid _ := hy
        clear hx hy
        by_cases hxy : x = y
        · subst hxy
          go_wp2
          go_region
          go_wp2
          refine ⟨⟨k + 1, by omega, by go_num, HW.out.drew, fun j hj => ?_⟩, by simp [intOf]; omega⟩
          by_cases e : j = k
          · subst e; rw [EX.out, EY.out]
          · exact HALL.out j (by omega)
        · have hne : Hid _ := hxy
          go_wp2
          go_region
          go_wp2
          go_ret
          exact ⟨by rw [eqI_no (k := k) (by rw [EX.out, EY.out]; exact hne.out)]; rfl, HW.out.drew⟩
      · have e : ns = ms := eqI_ext (by rw [← HA.out, ← HB.out]) (fun j hj => hall j (by rw [← HA.out] at hj; omega))
        have HE : Hid _ := e
        have HW : Hid _ := hbw
        clear e hbw hall
        go_wp2
        go_ret
        exact ⟨by rw [HE.out, eqI_true]; rfl, HW.out⟩
  · have hne : ns.length ≠ ms.length := by rw [← hla, ← hlb]; exact hl
    have HN : Hid _ := hne
    clear hne hla hlb hx hy
    go_enter Tryd.func25, Tryd.ntmps25
    go_wp2
    go_ret
    exact ⟨by rw [eqI_len HN.out]; rfl, Below.refl _ _⟩
/-- the marks behind a copied list of numbers -/
def marksI : List Int := [-91, -92, -93, -94]
def vis (ns : List Int) : Array Value := (ns.map (Value.int .i64)).toArray
theorem vis_size (ns : List Int) : (vis ns).size = ns.length := by simp [vis]
theorem vis_get {ns : List Int} {j : Nat} {n : Int} (h : ns[j]? = some n) : (vis ns)[j]? = some (.int .i64 n) := by simp [vis, h]
theorem rowI_front {w : World} {g : Nat} {ns ms : List Int} {t : TypeId} {fr : Nat × Nat} (h : w.heap[g]? = some (.cells (vis (ns ++ ms)) t fr)) : RowI w (some ⟨g, 0, none⟩) ns :=
  .inr ⟨g, 0, rfl, fun j n hj => by
    rw [Nat.zero_add]
    exact cellAt h j _ (vis_get (by rw [List.getElem?_append_left (List.getElem?_eq_some_iff.1 hj).1]; exact hj))⟩
theorem rowI_vis {w : World} {g : Nat} {ns : List Int} {t : TypeId} {fr : Nat × Nat} (h : w.heap[g]? = some (.cells (vis ns) t fr)) : RowI w (some ⟨g, 0, none⟩) ns :=
  .inr ⟨g, 0, rfl, fun j n hj => by rw [Nat.zero_add]; exact cellAt h j _ (vis_get hj)⟩
theorem rowI_alloc {w : World} {a : Option Addr} {ns : List Int} (h : RowI w a ns) (o : Obj) : RowI (w.alloc o) a ns := rowI_below h ((Below.refl _ _).alloc (Nat.le_refl _) _)
theorem run_appendI_room {w : World} {g n cap : Nat} {ns old ms : List Int} {a : Option Addr} {m c : Nat} (ty : TypeId) (h : w.heap[g]? = some (.cells (vis (ns ++ old)) 3 (0, 0))) (hn : n = ns.length) (hc : n + m ≤ cap) (hm : m = ms.length) (hroom : ms.length ≤ old.length) (hy : RowI w a ms) (hnil : a = none → c = 0) :
    (Builtin.append_ #[38, 38] ty #[.slice (some ⟨g, 0, none⟩) n cap, .slice a m c]).run Tryd.prog w = .ok (.slice (some ⟨g, 0, none⟩) (n + m) cap) (w.setRow g (vis (ns ++ ms ++ old.drop ms.length))) := by
  subst hn hm
  obtain ⟨i, hi, h1, h2, h3⟩ := infoI
  cases a with
  | none =>
    have hys : ms = [] := by
      rcases hy with e | ⟨b, off, e, _⟩
      · exact e
      · cases e
    subst hys
    have hc0 := hnil rfl
    subst hc0
    rw [List.append_nil, List.length_nil, List.drop_zero, setRow_self w g _ _ _ h]
    have hle : ns.length ≤ cap := by simpa using hc
    simp [Builtin.append_, run_underlying Tryd.underlying38, sizeOf, typeInfo, hi, Builtin.lenOf, Builtin.firstCells, loadCells, hle, storeCells]
  | some ad =>
    have := run_append_room (P := Tryd.prog) w 38 ty 3 i Tryd.underlying38 hi g ns.length cap _ h ad ms.length c (ms.map (Value.int .i64)) (by simp [h1]) (fun j v hv => by
      simp only [List.getElem?_map, Option.map_eq_some_iff] at hv
      obtain ⟨x, hx1, rfl⟩ := hv
      have hj : j < ms.length := (List.getElem?_eq_some_iff.1 hx1).1
      rcases hy with e' | ⟨b, off, e', hy⟩
      · rw [e'] at hj; simp at hj
      · cases e'
        have hadd : (⟨b, off, none⟩ : Addr).add j = ⟨b, off + j, none⟩ := by unfold Addr.add; split <;> simp_all
        rw [hadd, hy j _ hx1]) (fun v hv => by
      simp only [List.mem_map] at hv
      obtain ⟨x, _, rfl⟩ := hv
      rfl) hc (by simp [h1, vis_size]; omega)
    rw [this]
    congr 2
    rw [h1]
    simp only [vis, Nat.mul_one, List.length_map, List.map_append, List.toList_toArray]
    congr 1
    rw [List.take_left' (by simp), List.append_assoc, List.append_assoc, ← List.drop_drop, List.drop_left' (by simp), List.map_drop]
def zerosI (n : Nat) : List Int := List.replicate n 0
theorem madeI (n : Nat) : madeCells (Value.int .i64 0).cells n = vis (zerosI n) := by
  apply Array.ext_getElem?
  intro i
  by_cases h : i < n <;> simp [madeCells, vis, zerosI, Value.cells, h, Nat.mod_one]
theorem run_makeI_room (n : Nat) (hn : n ≤ 17592186043904) (w : World) :
    (Instr.makeSlice 38 (.int .i64 0) (.int .i64 ((n : Int) + 4))).run Tryd.prog w = .ok (.slice (some ⟨w.heap.size, 0, none⟩) 0 (n + 4)) (w.alloc (.cells (vis (zerosI (n + 4))) 3)) := by
  obtain ⟨i, hi, h1, h2, h3⟩ := infoI
  have := run_make (P := Tryd.prog) w 38 3 i _ Tryd.underlying38 hi h3 .i64 .i64 0 ((n : Int) + 4) (by omega) (by omega) (by rw [h2]; omega) (by omega)
  rw [this, h1]
  have e : ((n : Int) + 4).toNat = n + 4 := by omega
  simp only [e, Nat.mul_one, madeI, Int.toNat_zero]
theorem rowI_keep {w : World} {a : Option Addr} {ns : List Int} (h : RowI w a ns) : ∀ w', Below w.heap.size w w' → RowI w' a ns := fun w' hb => rowI_below h hb
end Go.Proofs.YtgfiolfhckkpjaaDoor

/- The walk of the statement SolveReduces: it returns true of all matrices. -/
namespace Go.Proofs.YtgfiolfhckkpjaaDoor
open Go.RowKit Gf
set_option linter.unusedVariables false
set_option maxRecDepth 20000
theorem alloc_b (w : World) (o : Obj) : Below w.heap.size w (w.alloc o) := (Below.refl _ _).alloc (Nat.le_refl _) _
def natI (p : List Nat) : List Int := p.map fun x => ((x : Nat) : Int)
theorem natV_natI (p : List Nat) : natV p = (natI p).map (Value.int .i64) := by simp [natV, natI]
theorem rowI_nat0 {w : World} {B n cap : Nat} {av : Option Addr} {p : List Nat} (ho : w.ownsRow B 3 1 (.slice av n cap) n (natV p)) : RowI w av (natI p) := by
  rw [natV_natI] at ho
  rcases ho.2 with ⟨e, e2⟩ | ⟨g, c, cur, e, h⟩
  · cases e
    have := ho.1
    left
    cases hp : natI p with
    | nil => rfl
    | cons a b => rw [hp] at this; simp at this
  · cases e
    exact rowI_own ⟨ho.1, .inr ⟨g, _, cur, rfl, h⟩⟩
theorem tr_rowsF2 {r c : Nat} {xs : List F} (hx : xs.length = r * c) : ∀ i, i < c → ∀ j, j < r → tr (rowsF c xs) i j = tr (cellF c xs) i j := fun i hi j hj => by
  show at8 (rowAt c xs j) i = at8 xs (j * c + i)
  rw [rowAt_rowF hx hj, at8_rowF hi]
theorem dep_row {r c k : Nat} {xs : List F} {R : Mt} (h : RowsIn R r (cellF c xs) r c) (hx : xs.length = r * c) (hk : k < r) : Dep (tr (rowsF c xs)) c r (at8 (rowF c (R k))) := by
  obtain ⟨e, he⟩ := h k hk
  refine ⟨e, fun i hi => ?_⟩
  rw [at8_rowF hi, he i hi]
  refine sumF_congr fun l hl => ?_
  rw [F.mul_comm]
  congr 1
  exact (tr_rowsF2 hx i hi l hl).symm
theorem grown_none {w w' : World} (h : w.grownBy w' none) : Below w.heap.size w w' := ⟨h.os, h.tape, h.output, h.size, fun k hk => h.block k hk (by simp)⟩
theorem none_yes (l cap : Nat) (a : Option Addr) (w : World) (hl : l = 0) : Calls Tryd.prog 22 #[.agg #[.int .i64 0, .int .i64 0, .slice a l cap]] w fun e w' => e = .returned (.bool true) ∧ Below w.heap.size w w' := by
  subst hl
  go_enter Tryd.func22, Tryd.ntmps22
  go_wp2
  go_ret
  exact ⟨rfl, (Below.refl _ _).alloc (Nat.le_refl _) _⟩
set_option maxHeartbeats 16000000 in
theorem reduces_yes (r c l cap : Nat) (a : Option Addr) (xs : List F) (w : World) (hr : r ≤ 64) (hc : c ≤ 64) (hl : l = r * c) (hx : xs.length = r * c) (hcap : l ≤ cap) (hX : Row8 w a xs) (hna : a = none → cap = 0)
    (s2 : Addr) (hs2 : w.cell? ⟨2, 0, none⟩ = some (errAt s2)) :
    Calls Tryd.prog 4 #[.agg #[.int .i64 r, .int .i64 c, .slice a l cap]] w fun e w' => e = .returned (.bool true) ∧ Below w.heap.size w w' := by
  have HL : Hid _ := hl
  have HXL : Hid _ := hx
  have HX : Hid (Row8 w a xs) := hX
  have HNA : Hid _ := hna
  have HS2 : Hid _ := hs2
  have hl4 : l ≤ 4096 := by have := mul_small hr hc; have e : (r : Int) * (c : Int) = ((r * c : Nat) : Int) := by simp
                            omega
  have HA0 : Hid _ := holds_new (holds_nil w) #[.int .i64 r, .int .i64 c, .slice a l cap] 24
  have HW0 : Hid _ := (Below.refl w.heap.size w).alloc (Nat.le_refl _) (.cells #[.int .i64 r, .int .i64 c, .slice a l cap] 24)
  clear hl hx hX hna hs2
  go_enter Tryd.func4, Tryd.ntmps4
  go_wp2_with fail
  refine Calls.mono (alive3_ok _ s2 (cell_later HW0.out HS2.out)) ?_
  rintro e w1 ⟨rfl, hb⟩
  have hw1 := HW0.out.trans (hb.mono HW0.out.size)
  have HA1 : Hid _ := holds_later HA0.out hb
  have HW1 : Hid (Below w.heap.size w w1) := hw1
  clear hb hw1 HA0 HW0  
  have c1 := cellAt (holds_at HA1.out 0 rfl) 0 _ rfl
  have c2 := cellAt (holds_at HA1.out 0 rfl) 1 _ rfl
  have c3 := cellAt (holds_at HA1.out 0 rfl) 2 _ rfl
  go_wp2_with fail
  refine Calls.mono (in3_F r c l cap a xs _ (by rw [HL.out, HXL.out]) (by omega) (row8_below HX.out HW1.out) HNA.out) ?_
  rintro e w2 ⟨gz, rfl, hgz, hhz, hb⟩
  have hw2 := HW1.out.trans (hb.mono HW1.out.size)
  have HA2 : Hid _ := holds_new (holds_cons (holds_later HA1.out hb) hhz) #[.int .i64 r, .int .i64 c, .slice (some ⟨gz, 0, none⟩) l (l + 6)] 24
  have HW2 : Hid (Below w.heap.size w (w2.alloc (.cells #[.int .i64 r, .int .i64 c, .slice (some ⟨gz, 0, none⟩) l (l + 6)] 24))) := hw2.alloc hw2.size _
  clear hb hw2 HA1 HW1  c1 c2 c3
  clear hgz hhz
  have c1 := cellAt (holds_at HA2.out 0 rfl) 0 _ rfl
  have c2 := cellAt (holds_at HA2.out 0 rfl) 1 _ rfl
  have c3 := cellAt (holds_at HA2.out 0 rfl) 2 _ rfl
  go_wp2_with fail
  refine Calls.mono (reduce_F r c l (l + 6) (some ⟨gz, 0, none⟩) xs _ hr hc HL.out HXL.out (by omega) (row8_front (holds_at HA2.out 1 rfl)) (fun h => by cases h)) ?_
  rintro e w3 ⟨gd, md, av, cv, p, R', rfl, hmd, hgd, hhd, hown, hred, hin, hback, hb⟩
  have HMD : Hid _ := hmd
  have HRED : Hid _ := hred
  have HIN : Hid _ := hin
  have hpe := hred.eq hin hback (Nat.le_refl _)
  have HPE : Hid _ := hpe
  have hpl := hred.len
  have hown0 := own_lower hown (Nat.zero_le _)
  have hw3 := HW2.out.trans (hb.mono HW2.out.size)
  have hP3 := hown0
  have HA3 : Hid _ := holds_new (holds_cons (holds_later HA2.out hb) hhd) #[.int .i64 r, .int .i64 c, .slice (some ⟨gd, 0, none⟩) md md] 24
  have HW3 : Hid (Below w.heap.size w (w3.alloc (.cells #[.int .i64 r, .int .i64 c, .slice (some ⟨gd, 0, none⟩) md md] 24))) := hw3.alloc hw3.size _
  have HP3 : Hid _ := own_below hP3 (alloc_b w3 (.cells #[.int .i64 r, .int .i64 c, .slice (some ⟨gd, 0, none⟩) md md] 24))
  clear hb hw3 HA2 HW2 hP3 c1 c2 c3
  clear hmd hgd hhd hown hown0 hred hin hback hpe
  have c1 := cellAt (holds_at HA3.out 2 rfl) 0 _ rfl
  have c2 := cellAt (holds_at HA3.out 2 rfl) 1 _ rfl
  have c3 := cellAt (holds_at HA3.out 2 rfl) 2 _ rfl
  go_wp2_with fail
  refine Calls.mono (rank_F r c l (l + 6) (some ⟨gz, 0, none⟩) xs _ hr hc HL.out HXL.out (by omega) (row8_front (holds_at HA3.out 3 rfl)) (fun h => by cases h)) ?_
  rintro e w4 ⟨rfl, hb⟩
  have hw4 := HW3.out.trans (hb.mono HW3.out.size)
  have hP4 := own_below HP3.out hb
  have HA4 : Hid _ := holds_later HA3.out hb
  have HW4 : Hid (Below w.heap.size w w4) := hw4
  have HP4 : Hid _ := hP4
  clear hb hw4 HA3 HW3 HP3 hP4 c1 c2 c3
  rw [← HPE.out]
  have c1 := cellAt (holds_at HA4.out 2 rfl) 0 _ rfl
  have c2 := cellAt (holds_at HA4.out 2 rfl) 1 _ rfl
  have c3 := cellAt (holds_at HA4.out 2 rfl) 2 _ rfl
  go_wp2_with fail
  refine Calls.mono (basis_F r c l (l + 6) (some ⟨gz, 0, none⟩) xs _ hr hc HL.out HXL.out (by omega) (row8_front (holds_at HA4.out 3 rfl)) (fun h => by cases h)) ?_
  rintro e w5 ⟨ab, cb, rfl, hown, hb⟩
  have HBL : Hid ((pivL (tr (cellF c xs)) c r).length = p.length) := by show _ = _; rw [rk_tr, HPE.out]
  have hown0 := own_lower hown (Nat.zero_le _)
  have hw5 := HW4.out.trans (hb.mono HW4.out.size)
  have hP5 := own_below HP4.out hb
  have hB5 := hown0
  have HA5 : Hid _ := holds_later HA4.out hb
  have HW5 : Hid (Below w.heap.size w w5) := hw5
  have HP5 : Hid _ := hP5
  have HB5 : Hid _ := hB5
  clear hb hw5 HA4 HW4 HP4 hP5 hB5 c1 c2 c3
  clear hown hown0
  have c3 := cellAt (holds_at HA5.out 2 rfl) 2 _ rfl
  have b3 := cellAt (holds_at HA5.out 4 rfl) 2 _ rfl
  go_wp2_with fail
  refine Calls.mono (kept_F gz l cap a xs _ (by rw [HL.out, HXL.out]) (by omega) hcap (holds_at HA5.out 3 rfl) (row8_below HX.out HW5.out)) ?_
  rintro e w6 ⟨rfl, hb⟩
  have hw6 := HW5.out.trans (hb.mono HW5.out.size)
  have hP6 := own_below HP5.out hb
  have hB6 := own_below HB5.out hb
  have HA6 : Hid _ := holds_later HA5.out hb
  have HW6 : Hid (Below w.heap.size w w6) := hw6
  have HP6 : Hid _ := hP6
  have HB6 : Hid _ := hB6
  clear hb hw6 HA5 HW5 HP5 HB5 hP6 hB6 c3 b3
  have b1 := cellAt (holds_at HA6.out 4 rfl) 0 _ rfl
  have b2 := cellAt (holds_at HA6.out 4 rfl) 1 _ rfl
  have b3 := cellAt (holds_at HA6.out 4 rfl) 2 _ rfl
  go_wp2_with fail
  refine Calls.mono (inForm_yes r c a l cap _ hr hc HL.out) ?_
  rintro e w7 ⟨rfl, hb⟩
  have hw7 := HW6.out.trans (hb.mono HW6.out.size)
  have hP7 := own_below HP6.out hb
  have hB7 := own_below HB6.out hb
  have HA7 : Hid _ := holds_later HA6.out hb
  have HW7 : Hid (Below w.heap.size w w7) := hw7
  have HP7 : Hid _ := hP7
  have HB7 : Hid _ := hB7
  clear hb hw7 HA6 HW6 HP6 HB6 hP7 hB7 b1 b2 b3
  have b1 := cellAt (holds_at HA7.out 4 rfl) 0 _ rfl
  have b2 := cellAt (holds_at HA7.out 4 rfl) 1 _ rfl
  have b3 := cellAt (holds_at HA7.out 4 rfl) 2 _ rfl
  go_wp2_with fail
  refine Calls.mono (rof_F r c l cap a xs _ hr hc HL.out HXL.out hcap (row8_below HX.out HW7.out) HNA.out) ?_
  rintro e w8 ⟨SB, t, vR, vM, vF, vB, fr, fm, V, Ms, f, rfl, hsb, hsw, hso, hb⟩
  rw [pivL_congr (tr_rowsF2 HXL.out)] at hsw
  have HSO : Hid _ := hso
  have hw8 := HW7.out.trans (hb.mono HW7.out.size)
  have hP8 := own_below HP7.out hb
  have hB8 := own_below HB7.out hb
  have hS8 := hsw
  have HA8 : Hid _ := holds_later HA7.out hb
  have HW8 : Hid (Below w.heap.size w w8) := hw8
  have HP8 : Hid _ := hP8
  have HB8 : Hid _ := hB8
  have HS8 : Hid _ := hS8
  clear hb hw8 HA7 HW7 HP7 HB7 hP8 hB8 hS8 b1 b2 b3
  clear hsb hsw hso
  have c1 := cellAt (holds_at HA8.out 0 rfl) 0 _ rfl
  have c2 := cellAt (holds_at HA8.out 0 rfl) 1 _ rfl
  have c3 := cellAt (holds_at HA8.out 0 rfl) 2 _ rfl
  go_wp2_with fail
  refine Calls.mono (reduced_F r c md md gd R' p _ hr hc HMD.out (Nat.le_refl _) (holds_row HA8.out 1 rfl) HRED.out) ?_
  rintro e w9 ⟨aw, cw, rfl, hown, hb⟩
  have hown0 := own_lower hown (Nat.zero_le _)
  have hw9 := HW8.out.trans (hb.mono HW8.out.size)
  have hP9 := own_below HP8.out hb
  have hB9 := own_below HB8.out hb
  have hS9 := SpanW.below HS8.out hb
  have hQ9 := hown0
  have HA9 : Hid _ := holds_later HA8.out hb
  have HW9 : Hid (Below w.heap.size w w9) := hw9
  have HP9 : Hid _ := hP9
  have HB9 : Hid _ := hB9
  have HS9 : Hid _ := hS9
  have HQ9 : Hid _ := hQ9
  clear hb hw9 HA8 HW8 HP8 HB8 HS8 hP9 hB9 hS9 hQ9 c1 c2 c3
  clear hown hown0
  have c1 := cellAt (holds_at HA9.out 0 rfl) 0 _ rfl
  have c2 := cellAt (holds_at HA9.out 0 rfl) 1 _ rfl
  have c3 := cellAt (holds_at HA9.out 0 rfl) 2 _ rfl
  have b1 := cellAt (holds_at HA9.out 4 rfl) 0 _ rfl
  have b2 := cellAt (holds_at HA9.out 4 rfl) 1 _ rfl
  go_wp2_with fail
  refine Calls.mono (inForm_yes r c (some ⟨gd, 0, none⟩) md md _ hr hc HMD.out) ?_
  rintro e w10 ⟨rfl, hb⟩
  have hw10 := HW9.out.trans (hb.mono HW9.out.size)
  have hP10 := own_below HP9.out hb
  have hB10 := own_below HB9.out hb
  have hS10 := SpanW.below HS9.out hb
  have hQ10 := own_below HQ9.out hb
  have HA10 : Hid _ := holds_later HA9.out hb
  have HW10 : Hid (Below w.heap.size w w10) := hw10
  have HP10 : Hid _ := hP10
  have HB10 : Hid _ := hB10
  have HS10 : Hid _ := hS10
  have HQ10 : Hid _ := hQ10
  clear hb hw10 HA9 HW9 HP9 HB9 HS9 HQ9 hP10 hB10 hS10 hQ10 c1 c2 c3 b1 b2
  have c1 := cellAt (holds_at HA10.out 0 rfl) 0 _ rfl
  have c2 := cellAt (holds_at HA10.out 0 rfl) 1 _ rfl
  have b1 := cellAt (holds_at HA10.out 4 rfl) 0 _ rfl
  have b2 := cellAt (holds_at HA10.out 4 rfl) 1 _ rfl
  go_wp2_with fail
  refine Calls.mono (sameInts_F av aw p.length cv p.length cw (natI p) (natI p) _ (by simp [natI]) (by simp [natI]) (by omega) (by omega) (rowI_nat0 HP10.out) (rowI_nat0 HQ10.out)) ?_
  rintro e w11 ⟨rfl, hb⟩
  have hw11 := HW10.out.trans (hb.mono HW10.out.size)
  have hP11 := own_below HP10.out hb
  have hB11 := own_below HB10.out hb
  have hS11 := SpanW.below HS10.out hb
  have hQ11 := own_below HQ10.out hb
  have HA11 : Hid _ := holds_later HA10.out hb
  have HW11 : Hid (Below w.heap.size w w11) := hw11
  have HP11 : Hid _ := hP11
  have HB11 : Hid _ := hB11
  have HS11 : Hid _ := hS11
  have HQ11 : Hid _ := hQ11
  clear hb hw11 HA10 HW10 HP10 HB10 HS10 HQ10 hP11 hB11 hS11 hQ11 c1 c2 b1 b2
  rw [eqI_true]
  obtain ⟨av2, cv2, hvb⟩ := own_shape HS11.out.basis
  subst hvb
  have s5 := cellAt HS11.out.box 5 _ rfl
  generalize hpb : pivL (tr (cellF c xs)) c r = pb at *
  have HPB : Hid _ := hpb
  clear hpb
  have hbt := HS11.out.bl
  subst hbt
  have hpbl : pb.length ≤ r := by rw [HBL.out]; exact hpl
  have hne1 : ((p.length : Int) != (pb.length : Int)) = false := by rw [HBL.out]; simp
  have hne2 : ((p.length : Int) != (p.length : Int)) = false := by simp
  go_wp2_with fail
  refine Calls.mono (sameInts_F ab av2 pb.length cb pb.length cv2 (natI pb) (natI pb) _ (by simp [natI]) (by simp [natI]) (by omega) (by omega) (rowI_nat0 HB11.out) (rowI_nat0 HS11.out.basis)) ?_
  rintro e w12 ⟨rfl, hb⟩
  have hw12 := HW11.out.trans (hb.mono HW11.out.size)
  have hP12 := own_below HP11.out hb
  have hB12 := own_below HB11.out hb
  have hS12 := SpanW.below HS11.out hb
  have hQ12 := own_below HQ11.out hb
  have HA12 : Hid _ := holds_later HA11.out hb
  have HW12 : Hid (Below w.heap.size w w12) := hw12
  have HP12 : Hid _ := hP12
  have HB12 : Hid _ := hB12
  have HS12 : Hid _ := hS12
  have HQ12 : Hid _ := hQ12
  clear hb hw12 HA11 HW11 HP11 HB11 HS11 HQ11 hP12 hB12 hS12 hQ12 s5
  rw [eqI_true]
  go_wp2
  go_loopw [14] (fun i wr => ∃ k : Nat, k ≤ r ∧ i = .int .i64 k ∧ Below w12.heap.size w12 wr) (fun i _ => r - (intOf i).toNat)
  case atStart => exact ⟨0, by omega, rfl, Below.refl _ _⟩
  case round =>
    obtain ⟨k, hk, rfl, hbw⟩ := hrel
    have HA13 : Hid _ := holds_later HA12.out hbw
    have HW13 : Hid (Below w.heap.size w wr) := HW12.out.trans (hbw.mono HW12.out.size)
    have hs13 := SpanW.below HS12.out hbw
    have HS13 : Hid _ := hs13
    have HBW : Hid _ := hbw
    clear hbw hs13
    by_cases hlt : k < r
    · have c1 := cellAt (holds_at HA13.out 0 rfl) 0 _ rfl
      have c2 := cellAt (holds_at HA13.out 0 rfl) 1 _ rfl
      have c3 := cellAt (holds_at HA13.out 0 rfl) 2 _ rfl
      go_wp2_with fail
      refine Calls.mono (rrow_F r c k md md (some ⟨gd, 0, none⟩) (grid c R' r) _ hr hc hlt HMD.out (grid_len _ _ _) (Nat.le_refl _) (holds_row HA13.out 1 rfl) (fun h => by cases h)) ?_
      rintro e wa ⟨g2, cap2, rfl, hg2, hh2, hb2⟩
      rw [rowAt_grid hlt] at hh2
      have hsa := SpanW.below HS13.out hb2
      have HSA : Hid _ := hsa
      have HHA : Hid _ := hh2
      have HBA : Hid (Below w12.heap.size w12 wa) := HBW.out.trans (hb2.mono HBW.out.size)
      clear hh2 hb2 hsa hg2 c1 c2 c3
      go_wp2_with fail
      refine Calls.mono (rexpress_F (rowsF c xs) _ SB c r pb.length vR vM vF (.slice av2 pb.length cv2) fr fm V Ms f pb (some ⟨g2, 0, none⟩) c cap2 (rowF c (R' k)) _ HSA.out HSO.out hc hr rfl (rowF_len _ _) (row8_has HHA.out) (fun h => by cases h)) ?_
      rintro e wb (⟨g3, x, rfl, hg3, hh3, _, hb3⟩ | ⟨_, hno, _⟩)
      rotate_left
      · exact absurd (dep_row HIN.out HXL.out hlt) hno
      have HBB : Hid (Below w12.heap.size w12 wb) := HBA.out.trans (hb3.mono HBA.out.size)
      clear hh3 hb3 hg3
      go_wp2
      exact ⟨⟨k + 1, by omega, by go_num, HBB.out⟩, by simp [intOf]; omega⟩
    · obtain rfl : k = r := by omega
      have c1 := cellAt (holds_at HA13.out 0 rfl) 0 _ rfl
      have c3 := cellAt (holds_at HA13.out 0 rfl) 2 _ rfl
      go_wp2_with fail
      refine Calls.mono (apart_nil (some ⟨gd, 0, none⟩) md md (grid c R' k) _ (by rw [grid_len]; exact HMD.out) (fun w' hg => row8_grown (holds_row HA13.out 1 rfl) hg (ltHeap (holds_at HA13.out 1 rfl)) (by simp))) ?_
      rintro e wc ⟨rfl, hg⟩
      have hbc : Below wr.heap.size wr wc := grown_none hg
      have HA14 : Hid _ := holds_later HA13.out hbc
      have HW14 : Hid (Below w.heap.size w wc) := HW13.out.trans (hbc.mono HW13.out.size)
      clear hg hbc c1 c3
      have c3 := cellAt (holds_at HA14.out 2 rfl) 2 _ rfl
      have b3 := cellAt (holds_at HA14.out 4 rfl) 2 _ rfl
      go_wp2_with fail
      refine Calls.mono (kept_F gz l cap a xs _ (by rw [HL.out, HXL.out]) (by omega) hcap (holds_at HA14.out 3 rfl) (row8_below HX.out HW14.out)) ?_
      rintro e wd ⟨rfl, hb⟩
      have HW15 : Hid (Below w.heap.size w wd) := HW14.out.trans (hb.mono HW14.out.size)
      clear hb c3 b3
      go_wp2
      go_ret
      exact ⟨rfl, HW15.out⟩
set_option maxHeartbeats 4000000 in
theorem reduces_no (r c : Int) (l cap : Nat) (a : Option Addr) (xs : List F) (w : World) (hx : l = xs.length) (hm : l ≤ 140737488351232) (hcap : l ≤ cap) (hX : Row8 w a xs) (hna : a = none → cap = 0)
    (s1 s2 : Addr) (hs1 : w.cell? ⟨0, 0, none⟩ = some (errAt s1)) (hs2 : w.cell? ⟨2, 0, none⟩ = some (errAt s2)) (h : ¬ FormOk r c l) :
    Calls Tryd.prog 4 #[.agg #[.int .i64 r, .int .i64 c, .slice a l cap]] w fun e w' => e = .returned (.bool true) ∧ Below w.heap.size w w' := by
  have HXL : Hid _ := hx
  have HX : Hid (Row8 w a xs) := hX
  have HNA : Hid _ := hna
  have HS1 : Hid _ := hs1
  have HS2 : Hid _ := hs2
  have H : Hid _ := h
  have HA0 : Hid _ := holds_new (holds_nil w) #[.int .i64 r, .int .i64 c, .slice a l cap] 24
  have HW0 : Hid _ := (Below.refl w.heap.size w).alloc (Nat.le_refl _) (.cells #[.int .i64 r, .int .i64 c, .slice a l cap] 24)
  clear hx hX hna hs1 hs2 h
  go_enter Tryd.func4, Tryd.ntmps4
  go_wp2_with fail
  refine Calls.mono (alive3_ok _ s2 (cell_later HW0.out HS2.out)) ?_
  rintro e w1 ⟨rfl, hb⟩
  have hw1 := HW0.out.trans (hb.mono HW0.out.size)
  have HA1 : Hid _ := holds_later HA0.out hb
  have HW1 : Hid (Below w.heap.size w w1) := hw1
  clear hb hw1 HA0 HW0  
  have c1 := cellAt (holds_at HA1.out 0 rfl) 0 _ rfl
  have c2 := cellAt (holds_at HA1.out 0 rfl) 1 _ rfl
  have c3 := cellAt (holds_at HA1.out 0 rfl) 2 _ rfl
  go_wp2_with fail
  refine Calls.mono (in3_F r c l cap a xs _ HXL.out hm (row8_below HX.out HW1.out) HNA.out) ?_
  rintro e w2 ⟨gz, rfl, hgz, hhz, hb⟩
  have hw2 := HW1.out.trans (hb.mono HW1.out.size)
  have HA2 : Hid _ := holds_new (holds_cons (holds_later HA1.out hb) hhz) #[.int .i64 r, .int .i64 c, .slice (some ⟨gz, 0, none⟩) l (l + 6)] 24
  have HW2 : Hid (Below w.heap.size w (w2.alloc (.cells #[.int .i64 r, .int .i64 c, .slice (some ⟨gz, 0, none⟩) l (l + 6)] 24))) := hw2.alloc hw2.size _
  clear hb hw2 HA1 HW1  c1 c2 c3
  clear hgz hhz
  have c1 := cellAt (holds_at HA2.out 0 rfl) 0 _ rfl
  have c2 := cellAt (holds_at HA2.out 0 rfl) 1 _ rfl
  have c3 := cellAt (holds_at HA2.out 0 rfl) 2 _ rfl
  go_wp2_with fail
  refine Calls.mono (reduce_bad r c l (l + 6) (some ⟨gz, 0, none⟩) _ s1 (cell_later HW2.out HS1.out) H.out) ?_
  rintro e w3 ⟨rfl, hb⟩
  have hw3 := HW2.out.trans (hb.mono HW2.out.size)
  have HA3 : Hid _ := holds_new (holds_later HA2.out hb) #[.int .i64 0, .int .i64 0, .slice none 0 0] 24
  have HW3 : Hid (Below w.heap.size w (w3.alloc (.cells #[.int .i64 0, .int .i64 0, .slice none 0 0] 24))) := hw3.alloc hw3.size _
  clear hb hw3 HA2 HW2  c1 c2 c3
  have c1 := cellAt (holds_at HA3.out 1 rfl) 0 _ rfl
  have c2 := cellAt (holds_at HA3.out 1 rfl) 1 _ rfl
  have c3 := cellAt (holds_at HA3.out 1 rfl) 2 _ rfl
  go_wp2_with fail
  refine Calls.mono (rank_bad r c l (l + 6) (some ⟨gz, 0, none⟩) _ s1 (cell_later HW3.out HS1.out) H.out) ?_
  rintro e w4 ⟨rfl, hb⟩
  have hw4 := HW3.out.trans (hb.mono HW3.out.size)
  have HA4 : Hid _ := holds_later HA3.out hb
  have HW4 : Hid (Below w.heap.size w w4) := hw4
  clear hb hw4 HA3 HW3  c1 c2 c3
  have c1 := cellAt (holds_at HA4.out 1 rfl) 0 _ rfl
  have c2 := cellAt (holds_at HA4.out 1 rfl) 1 _ rfl
  have c3 := cellAt (holds_at HA4.out 1 rfl) 2 _ rfl
  go_wp2_with fail
  refine Calls.mono (basis_bad r c l (l + 6) (some ⟨gz, 0, none⟩) _ s1 (cell_later HW4.out HS1.out) H.out) ?_
  rintro e w5 ⟨rfl, hb⟩
  have hw5 := HW4.out.trans (hb.mono HW4.out.size)
  have HA5 : Hid _ := holds_later HA4.out hb
  have HW5 : Hid (Below w.heap.size w w5) := hw5
  clear hb hw5 HA4 HW4  c1 c2 c3
  have c3 := cellAt (holds_at HA5.out 1 rfl) 2 _ rfl
  have b3 := cellAt (holds_at HA5.out 3 rfl) 2 _ rfl
  go_wp2_with fail
  refine Calls.mono (kept_F gz l cap a xs _ HXL.out hm hcap (holds_at HA5.out 2 rfl) (row8_below HX.out HW5.out)) ?_
  rintro e w6 ⟨rfl, hb⟩
  have hw6 := HW5.out.trans (hb.mono HW5.out.size)
  have HA6 : Hid _ := holds_later HA5.out hb
  have HW6 : Hid (Below w.heap.size w w6) := hw6
  clear hb hw6 HA5 HW5  c3 b3
  have b1 := cellAt (holds_at HA6.out 3 rfl) 0 _ rfl
  have b2 := cellAt (holds_at HA6.out 3 rfl) 1 _ rfl
  have b3 := cellAt (holds_at HA6.out 3 rfl) 2 _ rfl
  go_wp2_with fail
  refine Calls.mono (inForm_no r c a l cap _ H.out) ?_
  rintro e w7 ⟨rfl, hb⟩
  have hw7 := HW6.out.trans (hb.mono HW6.out.size)
  have HA7 : Hid _ := holds_later HA6.out hb
  have HW7 : Hid (Below w.heap.size w w7) := hw7
  clear hb hw7 HA6 HW6  b1 b2 b3
  have c9 := cell_later HW7.out HS1.out
  have heq := eq_same w7 s1
  unfold errAt at *
  have c1 := cellAt (holds_at HA7.out 0 rfl) 0 _ rfl
  have c2 := cellAt (holds_at HA7.out 0 rfl) 1 _ rfl
  have c3 := cellAt (holds_at HA7.out 0 rfl) 2 _ rfl
  go_wp2_with fail
  refine Calls.mono (none_yes 0 0 none _ rfl) ?_
  rintro e w8 ⟨rfl, hb⟩
  have hw8 := HW7.out.trans (hb.mono HW7.out.size)
  have HA8 : Hid _ := holds_later HA7.out hb
  have HW8 : Hid (Below w.heap.size w w8) := hw8
  clear hb hw8 HA7 HW7  c1 c2 c3 c9
  go_wp2
  go_ret
  exact ⟨rfl, HW8.out⟩
theorem reduces_walk (r c : Int) (l cap : Nat) (a : Option Addr) (xs : List F) (w : World) (hx : l = xs.length) (hcap : l ≤ cap) (hm : cap ≤ 140737488351232) (hX : Row8 w a xs) (hna : a = none → cap = 0) (es : List Addr) (hes : ErrsAt w gsSolve es) :
    Calls Tryd.prog 4 #[.agg #[.int .i64 r, .int .i64 c, .slice a l cap]] w fun e w' => e = .returned (.bool true) ∧ Below w.heap.size w w' := by
  obtain ⟨s1, _, hs1, _⟩ := errs_at hes 0 0 rfl
  obtain ⟨s2, _, hs2, _⟩ := errs_at hes 1 2 rfl
  by_cases h : FormOk r c l
  · obtain ⟨p, q, rfl, rfl, hp, hq, hl⟩ := h.nat
    exact reduces_yes p q l cap a xs w hp hq hl (by omega) hcap hX hna s2 hs2
  · exact reduces_no r c l cap a xs w hx (by omega) hcap hX hna s1 s2 hs1 hs2 h
end Go.Proofs.YtgfiolfhckkpjaaDoor
