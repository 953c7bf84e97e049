/- What eliminated answers, of all matrices in form with as many rows, and of all others. -/
import Derived.Test.YtkoakingmnjdoabDoorSolveE
import Derived.Test.YtkoakingmnjdoabDoorSolveC
import Derived.Test.YtkoakingmnjdoabDoorMatRow
import Derived.Test.YtkoakingmnjdoabDoorHolds
namespace Go.Proofs.YtkoakingmnjdoabDoor
open Go.RowKit Gf
set_option linter.unusedVariables false
set_option maxRecDepth 20000
/-- two lists of cells, row beside row -/
def augL (c q : Nat) (xs ys : List F) : Mt := fun i j => if j < c then at8 xs (i * c + j) else at8 ys (i * q + (j - c))
/-- n slices, the first k of c elements each, the others none -/
def slP (n c k : Nat) (f : Nat → Option Addr × Nat) : Array Value := ((List.range n).map fun x => if x < k then Value.slice (f x).1 c (f x).2 else Value.slice none 0 0).toArray
theorem slP_size (n c k : Nat) (f : Nat → Option Addr × Nat) : (slP n c k f).size = n := by simp [slP]
theorem slP_at {n c k x : Nat} {f : Nat → Option Addr × Nat} (h : x < n) : (slP n c k f)[x]? = some (if x < k then Value.slice (f x).1 c (f x).2 else Value.slice none 0 0) := by simp [slP, h]
theorem slP_zero (n c : Nat) (f : Nat → Option Addr × Nat) : slV 0 [] n = slP n c 0 f := by
  apply Array.ext_getElem?
  intro i
  by_cases h : i < n <;> simp [slP, slV, h]
theorem slP_all (n c : Nat) (f : Nat → Option Addr × Nat) : slP n c n f = slF n c f := by
  apply Array.ext_getElem?
  intro i
  by_cases h : i < n
  · rw [slP_at h, slF_at h, if_pos h]
  · rw [Array.getElem?_eq_none (by rw [slP_size]; omega), Array.getElem?_eq_none (by rw [slF_size]; omega)]
theorem slP_set {n c k : Nat} {f : Nat → Option Addr × Nat} (a : Option Addr) (m : Nat) (h : k < n) : (slP n c k f).setIfInBounds k (.slice a c m) = slP n c (k + 1) (fun x => if x = k then (a, m) else f x) := by
  apply Array.ext_getElem?
  intro i
  rw [Array.getElem?_setIfInBounds]
  by_cases hi : i < n
  · rw [slP_at hi, slP_at hi, slP_size]
    by_cases e : k = i
    · subst e; simp [hi]
    · by_cases e2 : i < k
      · simp [e, e2, show ¬ i = k from fun h => e h.symm, show i < k + 1 by omega]
      · simp [e, e2, show ¬ i < k + 1 by omega]
  · rw [Array.getElem?_eq_none (by rw [slP_size]; omega), Array.getElem?_eq_none (by rw [slP_size]; omega), slP_size]
    simp; omega
set_option maxHeartbeats 8000000 in
theorem eliminated_F (r c q la ca lb cb : Nat) (a b : Option Addr) (xs ys : List F) (w : World) (hr : r ≤ 64) (hc : c ≤ 64) (hq : q ≤ 64) (hla : la = r * c) (hx : xs.length = r * c) (hca : la ≤ ca) (hX : Row8 w a xs) (hna : a = none → ca = 0)
    (hlb : lb = r * q) (hy : ys.length = r * q) (hcb : lb ≤ cb) (hY : Row8 w b ys) (hnb : b = none → cb = 0) :
    Calls Tryd.prog 46 #[.agg #[.int .i64 r, .int .i64 c, .slice a la ca], .agg #[.int .i64 r, .int .i64 q, .slice b lb cb]] w fun e w' => ∃ M av cv p f' R',
      e = .returned (.tuple #[.slice (some ⟨M, 0, none⟩) r r, .slice av p.length cv, .nilIface]) ∧ w.heap.size ≤ M ∧ w'.ownsRow w.heap.size 3 1 (.slice av p.length cv) p.length (natV p) ∧
      RowsW w' M r (c + q) f' R' ∧ Red R' p r c ∧ RowsIn R' r (augL c q xs ys) r (c + q) ∧ RowsIn (augL c q xs ys) r R' r (c + q) ∧ Below w.heap.size w w' := by
  have HLA : Hid _ := hla
  have HLB : Hid _ := hlb
  have HX : Hid _ := hx
  have HY : Hid _ := hy
  have HRX : Hid (Row8 w a xs) := hX
  have HRY : Hid (Row8 w b ys) := hY
  have HNA : Hid _ := hna
  have HNB : Hid _ := hnb
  clear hla hlb hx hy hX hY hna hnb
  have hmk := run_makeS r hr
  go_enter Tryd.func46, Tryd.ntmps46
  go_wp2_with fail
  refine Calls.mono (check_ok r c a la ca _ hr hc HLA.out) ?_
  rintro e w2 ⟨rfl, hb2⟩
  have hA := holds_later (holds_new (holds_new (holds_nil w) #[.int .i64 r, .int .i64 c, .slice a la ca] 42) #[.int .i64 r, .int .i64 q, .slice b lb cb] 42) hb2
  rw [World.size_alloc] at hA
  have hB2 : Below w.heap.size w w2 := (((Below.refl w.heap.size w).alloc (Nat.le_refl _) _).alloc (by simp) _).trans (hb2.mono (by simp; omega))
  have hz2 : w.heap.size + 2 ≤ w2.heap.size := by have := hb2.size; simpa using this
  have hA3 := holds_alloc hA (.cells (slV 0 [] r) 22)
  have hB3 : Below w.heap.size w (w2.alloc (.cells (slV 0 [] r) 22)) := hB2.alloc hB2.size _
  have hM3 := heap_alloc_last w2 (.cells (slV 0 [] r) 22)
  have c1 := cellAt (holds_at hA 1 rfl) 0 _ rfl
  have c2 := cellAt (holds_at hA 0 rfl) 0 _ rfl
  have HA3 : Hid _ := hA3
  have HB3 : Hid _ := hB3
  have HM3 : Hid _ := hM3
  clear hA hB2 hA3 hB3 hM3 hb2
  go_wp2
  generalize hM : w2.heap.size = M at *
  generalize (w2.alloc (.cells (slV 0 [] r) 22)) = W3 at *
  clear hM c1 c2 hmk
  go_loopw [28] (fun i wr => ∃ (k : Nat) (f : Nat → Option Addr × Nat), k ≤ r ∧ i = .int .i64 k ∧ W3.grownBy wr (some M) ∧ wr.heap[M]? = some (.cells (slP r (c + q) k f) 22 (0, 0)) ∧
    ∀ x, x < k → Row8T wr (f x).1 (rowF (c + q) (augL c q xs ys x)) ∧ c + q ≤ (f x).2 ∧ ((f x).1 = none → (f x).2 = 0)) (fun i _ => r - (intOf i).toNat)
  case atStart => exact ⟨0, fun _ => (none, 0), by omega, rfl, World.grownBy.refl _ _, by rw [← slP_zero]; exact HM3.out, fun x h => by omega⟩
  case round =>
    obtain ⟨k, f, hk, rfl, hgb, hs, hrows⟩ := hrel
    have k0 := grown_block hgb (holds_at HA3.out 1 rfl) (by omega)
    have k1 := grown_block hgb (holds_at HA3.out 0 rfl) (by omega)
    by_cases hlt : k < r
    · have c1 := cellAt k0 0 _ rfl
      have c2 := cellAt k0 1 _ rfl
      have c3 := cellAt k0 2 _ rfl
      have hbw := below_grown HB3.out hgb (by omega)
      have HBW : Hid _ := hbw
      have HS : Hid _ := hs
      have HR : Hid _ := hrows
      have HG : Hid _ := hgb
      have HK1 : Hid _ := k1
      clear hbw hs hrows hgb k0 k1
      go_wp2_with fail
      refine Calls.mono (row_F r c la ca k a xs _ hr hc HLA.out HX.out hca (row8_below HRX.out HBW.out) HNA.out hlt) ?_
      rintro e w4 ⟨a', cap', rfl, hr4, hn4, _, hb4⟩
      have k1 := heap_later HK1.out hb4
      have c4 := cellAt k1 0 _ rfl
      have c5 := cellAt k1 1 _ rfl
      have c6 := cellAt k1 2 _ rfl
      have hB4 : Below w.heap.size w w4 := HBW.out.trans (hb4.mono HBW.out.size)
      have HB4 : Hid _ := hB4
      have Hb4 : Hid _ := hb4
      have HR4 : Hid _ := hr4
      have HN4 : Hid _ := hn4
      clear k1 hB4 hb4 hr4 hn4 c1 c2 c3
      go_wp2_with fail
      refine Calls.mono (row_F r q lb cb k b ys _ hr hq HLB.out HY.out hcb (row8_below HRY.out HB4.out) HNB.out hlt) ?_
      rintro e w5 ⟨b', capb, rfl, hr5, hn5, _, hb5⟩
      have HR5 : Hid _ := hr5
      have HN5 : Hid _ := hn5
      have Hb5 : Hid _ := hb5
      clear hr5 hn5 hb5 c4 c5 c6
      go_wp2_with fail
      have hal : Below w5.heap.size w5 (w5.alloc (.cells #[.slice a' c cap', .slice b' q capb] 22)) := (Below.refl _ _).alloc (Nat.le_refl _) _
      have ex : rowF c (fun j => at8 xs (k * c + j)) = rowAt c xs k := (rowAt_rowF HX.out hlt).symm
      have ey : rowF q (fun j => at8 ys (k * q + j)) = rowAt q ys k := (rowAt_rowF HY.out hlt).symm
      refine Calls.mono (concat_F w5.heap.size a' b' c cap' q capb (fun j => at8 xs (k * c + j)) (fun j => at8 ys (k * q + j)) _ (heap_alloc_last w5 _) HN4.out HN5.out hc hq (by rw [ex]; exact row8_below (row8_below HR4.out Hb5.out) hal) (by rw [ey]; exact row8_below HR5.out hal)) ?_
      rintro e w6 ⟨g6, G6, rfl, hG6, hn6, hb6, hr6⟩
      have hB6 : Below wr.heap.size wr w6 := (Hb4.out.trans (Hb5.out.mono Hb4.out.size)).trans ((hal.trans (hb6.mono hal.size)).mono (Nat.le_trans Hb4.out.size Hb5.out.size))
      have hs6 := heap_later HS.out hB6
      have c7 := cellAt hs6 k _ (slP_at hlt)
      rw [if_neg (Nat.lt_irrefl k)] at c7
      have d7 : w6.frozen? ⟨M, k, none⟩ = false := frozen_of_row _ _ _ _ _ hs6
      have hgS : w6.grownBy (w6.setCell ⟨M, k, none⟩ (.slice g6 (c + q) G6)) (some M) := grownBy_setCell (World.grownBy.refl _ _) _
      have HS6 : Hid ((w6.setCell ⟨M, k, none⟩ (.slice g6 (c + q) G6)).heap[M]? = some (.cells (slP r (c + q) (k + 1) (fun x => if x = k then (g6, G6) else f x)) 22 (0, 0))) := by
        show _ = _
        rw [heap_setCell_same _ _ _ _ _ _ hs6, slP_set _ _ hlt]
      have HG6 : Hid (W3.grownBy (w6.setCell ⟨M, k, none⟩ (.slice g6 (c + q) G6)) (some M)) := grownBy_setCell (grown_below HG.out hB6) _
      have HR6 : Hid (∀ x, x < k + 1 → Row8T (w6.setCell ⟨M, k, none⟩ (.slice g6 (c + q) G6)) (if x = k then (g6, G6) else f x).1 (rowF (c + q) (augL c q xs ys x)) ∧ c + q ≤ (if x = k then (g6, G6) else f x).2 ∧ ((if x = k then (g6, G6) else f x).1 = none → (if x = k then (g6, G6) else f x).2 = 0)) := by
        intro x hx
        have hne : NoElems w6 (some M) := noElems_some hs6 (by decide)
        by_cases e : x = k
        · subst e
          rw [if_pos rfl]
          exact ⟨row8T_grown hr6 hgS hne, hG6, hn6⟩
        · rw [if_neg e]
          obtain ⟨h1, h2, h3⟩ := HR.out x (by omega)
          exact ⟨row8T_grown (row8T_below h1 hB6) hgS hne, h2, h3⟩
      clear hs6 hgS hr6 hb6 hB6 hal ex ey
      go_wp2
      exact ⟨⟨k + 1, _, by omega, by go_num, HG6.out, HS6.out, HR6.out⟩, by simp [intOf]; omega⟩
    · obtain rfl : k = r := by omega
      have hRW : RowsW wr M k (c + q) f (augL c q xs ys) := ⟨by rw [← slP_all]; exact hs, fun x hx => (hrows x hx).1, fun x hx => (hrows x hx).2.1, fun x hx => (hrows x hx).2.2⟩
      have hbw := below_grown HB3.out hgb (by omega)
      have c1 := cellAt k1 1 _ rfl
      have c2 := cellAt k0 1 _ rfl
      have HRW : Hid _ := hRW
      have HBW : Hid _ := hbw
      clear hs hrows hgb k0 k1 hRW hbw
      go_wp2_with fail
      refine Calls.mono (eliminate_F M k (c + q) k c f _ _ hr (by omega) (by omega) HRW.out) ?_
      rintro e w4 ⟨av, cv, p, f', R', rfl, hown, hrw, hred, hin, hback, hg4⟩
      have H1 : Hid _ := hown
      have H2 : Hid _ := hrw
      have H3 : Hid _ := hred
      have H4 : Hid _ := hin
      have H5 : Hid _ := hback
      have H6 : Hid _ := below_grown HBW.out hg4 (by omega)
      have hsz := HBW.out.size
      clear hown hrw hred hin hback hg4
      go_wp2
      refine bodyPost_ret (v := .tuple #[.slice (some ⟨M, 0, none⟩) k k, .slice av p.length cv, .nilIface]) (by simp [results, Tryd.results46, go_sem]) rfl ?_
      exact ⟨M, av, cv, p, f', R', rfl, by omega, own_lower H1.out hsz, H2.out, H3.out, H4.out, H5.out, H6.out⟩
end Go.Proofs.YtkoakingmnjdoabDoor
