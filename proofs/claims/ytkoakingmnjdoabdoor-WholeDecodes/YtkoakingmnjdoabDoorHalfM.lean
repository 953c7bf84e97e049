/- What Rows of package half answers, of all numbers; nothing that was there turns. -/
import Derived.Test.YtkoakingmnjdoabDoorHalfR
import Derived.Test.YtkoakingmnjdoabDoorBaseG
import Derived.Test.YtkoakingmnjdoabDoorMatRow
namespace Go.Proofs.YtkoakingmnjdoabDoor
open Go.RowKit Gf
set_option linter.unusedVariables false
set_option maxRecDepth 20000
/-- the rows of all halves -/
def halfM (k r : Nat) : List F := grid (2 * k) (halfF k (carN (groupN k r))) (2 * (k + r))
theorem halfM_len (k r : Nat) : (halfM k r).length = 2 * (k + r) * (2 * k) := grid_len _ _ _
theorem hkind_ne {w : World} {a b : Nat} {cs ds : Array Value} {t u : TypeId} {f1 f2 : Nat × Nat} (h1 : w.heap[a]? = some (.cells cs t f1)) (h2 : w.heap[b]? = some (.cells ds u f2)) (h : t ≠ u) : a ≠ b := fun e => by
  subst e; rw [h1] at h2; cases h2; exact h rfl
theorem place_half {k r g s p : Nat} (hs : s < k + r) (hp : p < 2) : rowF (2 * k) (placeF k g s p (rowAt k (genM k r) s)) = rowF (2 * k) (halfF k (carN g) (2 * s + p)) := by
  refine rowF_congr fun v hv => ?_
  rw [genM, rowAt_grid hs]
  simp only [placeF, halfF]
  rw [show (2 * s + p) % 2 = p by omega, show (2 * s + p) / 2 = s by omega]
  by_cases h : v % 2 = p
  · rw [if_pos h, if_pos h, at8_rowF (by omega)]
  · rw [if_neg h, if_neg h]
    by_cases h2 : p = 1 ∧ s = k + carN g (v / 2)
    · rw [if_pos h2, if_pos ⟨h2.1, by omega, by omega⟩]
    · rw [if_neg h2, if_neg (fun h3 => h2 ⟨h3.1, by omega⟩)]
set_option maxHeartbeats 4000000 in
theorem hrows_F (k r : Nat) (w : World) (s0 : Addr) (hs0 : w.cell? ⟨5, 0, none⟩ = some (errAt s0)) (h1 : 1 ≤ k) (h2 : 2 ≤ r) (h3 : k + r ≤ 16) :
    Calls Tryd.prog 10 #[.int .i64 k, .int .i64 r] w fun e w' => ∃ g m, e = .returned (.tuple #[.agg #[.int .i64 (2 * (k + r) : Nat), .int .i64 (2 * k : Nat), .slice (some ⟨g, 0, none⟩) m m], .nilIface]) ∧ m = 2 * (k + r) * (2 * k) ∧ w.heap.size ≤ g ∧
      w'.heap[g]? = some (.cells (vfs (halfM k r)) 5 (0, 0)) ∧ Below w.heap.size w w' := by
  obtain ⟨gr1, _, _, gr2⟩ := groupN_least h1 h2 h3
  have HG : Hid _ := fun w => bgroup_ok k r w h1 h2 h3
  have HV : Hid _ := fun w s hs => generator_F k r w s hs h1 h2 h3
  have hhm : halfM k r = grid (2 * k) (halfF k (carN (groupN k r))) (2 * (k + r)) := rfl
  obtain ⟨gr, hgr⟩ : ∃ gr, gr = groupN k r := ⟨_, rfl⟩
  rw [← hgr] at HG gr1 gr2 hhm
  obtain ⟨n, hn⟩ : ∃ n, n = 2 * (k + r) := ⟨_, rfl⟩
  obtain ⟨c, hc⟩ : ∃ c, c = 2 * k := ⟨_, rfl⟩
  obtain ⟨t, ht⟩ : ∃ t, t = k + r := ⟨_, rfl⟩
  rw [← ht] at HV
  rw [← hn, ← hc] at hhm ⊢
  have en : (2 : Int) * ((k : Int) + r) = n := by omega
  have ec : (2 : Int) * (k : Int) = c := by omega
  have hn32 : n ≤ 32 := by omega
  have hc32 : c ≤ 32 := by omega
  have HN : Hid _ := hn
  have HC : Hid _ := hc
  have HT : Hid _ := ht
  have HHM : Hid _ := hhm
  have HS : Hid _ := hs0
  have hmk := run_makeS n (by omega)
  clear hgr hn hc ht hhm hs0
  have hA := holds_new (holds_nil w) #[.int .i64 0, .int .i64 0, .slice none 0 0] 42
  have HA : Hid _ := hA
  have HB0 : Hid _ := (Below.refl w.heap.size w).alloc (Nat.le_refl _) (.cells #[.int .i64 0, .int .i64 0, .slice none 0 0] 42)
  clear hA
  go_enter Tryd.func10, Tryd.ntmps10
  go_wp2_with fail
  refine Calls.mono (HV.out _ s0 (cell_later HB0.out HS.out)) ?_
  rintro e w1 ⟨g1, m1, rfl, hm1, hg1, hh1, hb1⟩
  have HA1 : Hid _ := holds_new (holds_cons (holds_later HA.out hb1) hh1) #[.int .i64 t, .int .i64 k, .slice (some ⟨g1, 0, none⟩) m1 m1] 42
  have hB1 := HB0.out.trans (hb1.mono HB0.out.size)
  have HB1 : Hid (Below w.heap.size w (w1.alloc (.cells #[.int .i64 t, .int .i64 k, .slice (some ⟨g1, 0, none⟩) m1 m1] 42))) := hB1.alloc hB1.size _
  have HM1 : Hid _ := hm1
  clear hb1 hh1 hg1 hm1 HA hB1
  go_wp2_with fail
  refine Calls.mono (HG.out _) ?_
  rintro e w2 ⟨rfl, rfl⟩
  go_wp2
  have hA2 := holds_cons (holds_alloc HA1.out (.cells (slV 0 [] n) 22)) (heap_alloc_last (w1.alloc (.cells #[.int .i64 t, .int .i64 k, .slice (some ⟨g1, 0, none⟩) m1 m1] 42)) (.cells (slV 0 [] n) 22))
  have hB2 := HB1.out.alloc HB1.out.size (.cells (slV 0 [] n) 22)
  have hz1 := HB1.out.size
  have hz2 := ltHeap (holds_at HA1.out 2 rfl)
  rw [World.size_alloc] at hA2 hz1 hz2
  have HA2 : Hid _ := hA2
  have HB2 : Hid _ := hB2
  clear hA2 hB2 HA1 HB1 hmk
  generalize hM : w1.heap.size + 1 = M at *
  generalize ((w1.alloc (.cells #[.int .i64 t, .int .i64 k, .slice (some ⟨g1, 0, none⟩) m1 m1] 42)).alloc (.cells (slV 0 [] n) 22)) = W3 at *
  have hM0 : w.heap.size < M := by omega
  have hM1 : w1.heap.size < M := by omega
  clear hM
  go_loopw [41] (fun i wr => ∃ j : Nat, ∃ gs : List Nat, j ≤ n ∧ i = .int .i64 j ∧ gs.length = j ∧ Below w.heap.size w wr ∧
    Holds wr [(M, .cells (slV c gs n) 22 (0, 0)), (w1.heap.size, .cells #[.int .i64 t, .int .i64 k, .slice (some ⟨g1, 0, none⟩) m1 m1] 42 (0, 0)), (g1, .cells (vfs (genM k r)) 5 (0, 0)), (w.heap.size, .cells #[.int .i64 0, .int .i64 0, .slice none 0 0] 42 (0, 0))] ∧
    ∀ i g, gs[i]? = some g → g ≠ M ∧ wr.heap[g]? = some (.cells (vfs (rowF c (halfF k (carN gr) i))) 5 (0, 0))) (fun i _ => n - (intOf i).toNat)
  case atStart => exact ⟨0, [], by omega, rfl, rfl, HB2.out, HA2.out, fun j g h => by simp at h⟩
  case round =>
    obtain ⟨j, gs, hj, rfl, hgs, hb, hh, hrows⟩ := hrel
    have HB : Hid _ := hb
    have HH : Hid _ := hh
    have HR : Hid _ := hrows
    have HGS : Hid _ := hgs
    clear hb hh hrows hgs
    by_cases hlt : j < n
    · obtain ⟨s, p, rfl, hp2, hst⟩ : ∃ s p : Nat, j = 2 * s + p ∧ p < 2 ∧ s < t := ⟨j / 2, j % 2, by omega, by omega, by have := HN.out; have := HT.out; omega⟩
      go_wp2_with fail
      refine (placeOf_F (2 * s + p) s p _ rfl hp2 (by have := HT.out; omega)).mono ?_
      rintro e w4 ⟨rfl, hb4⟩
      have HH4 : Hid _ := holds_new (holds_later HH.out hb4) #[.int .i64 s, .int .i64 p] 57
      have hB4 := HB.out.trans (hb4.mono HB.out.size)
      have HB4 : Hid _ := hB4.alloc hB4.size (.cells #[.int .i64 s, .int .i64 p] 57)
      have HR4b : Hid (∀ (k0 : Nat) (o : Obj), wr.heap[k0]? = some o → (w4.alloc (.cells #[.int .i64 s, .int .i64 p] 57)).heap[k0]? = some o) := fun k0 o h => (Below.heap_alloc _ _ _ (ltHeap (heap_later h hb4))).trans (heap_later h hb4)
      have zz4 := hb4.size
      clear hb4 hB4
      have c1 := cellAt (holds_at HH4.out 2 rfl) 0 _ rfl
      have c2 := cellAt (holds_at HH4.out 2 rfl) 1 _ rfl
      have c3 := cellAt (holds_at HH4.out 2 rfl) 2 _ rfl
      have c4 := cellAt (holds_at HH4.out 0 rfl) 0 _ rfl
      have z4 := ltHeap (holds_at HH4.out 0 rfl)
      have z5 := ltHeap (holds_at HH4.out 2 rfl)
      go_wp2_with fail
      refine Calls.mono (row_F t k m1 m1 s (some ⟨g1, 0, none⟩) (genM k r) _ (by have := HT.out; omega) (by omega) (by have := HM1.out; simpa using this) (by rw [genM_len, HT.out]) (Nat.le_refl _) (holds_row HH4.out 3 rfl) (fun h => by cases h) hst) ?_
      rintro e w5 ⟨a5, cap5, rfl, hr5, hn5, _, hb5⟩
      have HR5 : Hid _ := hr5
      have HH5 : Hid _ := holds_later HH4.out hb5
      have HB5 : Hid (Below w.heap.size w w5) := HB4.out.trans (hb5.mono HB4.out.size)
      have HR5b : Hid (∀ (k0 : Nat) (o : Obj), wr.heap[k0]? = some o → w5.heap[k0]? = some o) := fun k0 o h => heap_later (HR4b.out k0 o h) hb5
      clear hr5 hb5 hn5 c1 c2 c3 c4 z4 z5 HB4
      have c1 := cellAt (holds_at HH5.out 0 rfl) 0 _ rfl
      have c2 := cellAt (holds_at HH5.out 0 rfl) 1 _ rfl
      have z5 := ltHeap (holds_at HH5.out 0 rfl)
      go_wp2_with fail
      refine Calls.mono (hrowAt_F k gr s p cap5 a5 _ _ h1 (by omega) gr1 gr2 (by have := HT.out; omega) hp2 (rowAt_len (by rw [genM_len]) (by rw [← HT.out]; exact hst)) HR5.out) ?_
      rintro e w6 ⟨g6, n6, rfl, hn6, hg6, hh6, hb6⟩
      obtain rfl : n6 = c := by have := HC.out; omega
      rw [place_half (by have := HT.out; omega) hp2, ← HC.out] at hh6
      have hs6 := heap_later (holds_at HH5.out 1 rfl) hb6
      have z6 := ltHeap (holds_at HH5.out 1 rfl)
      have hg6M : g6 ≠ M := by omega
      have HG2 := HGS.out
      have c7 : w6.cell? ⟨M, 2 * s + p, none⟩ = some (.slice none 0 0) := cellAt hs6 (2 * s + p) _ (by have e := slV_next (c := n6) (gs := gs) (r := n) (by rw [HG2]; exact hlt); rwa [HG2] at e)
      have c8 : w6.frozen? ⟨M, 2 * s + p, none⟩ = false := frozen_of_row _ _ _ _ _ hs6
      have hW : ∀ (k0 : Nat) (o : Obj), k0 ≠ M → w6.heap[k0]? = some o → (w6.setCell ⟨M, 2 * s + p, none⟩ (.slice (some ⟨g6, 0, none⟩) n6 n6)).heap[k0]? = some o := fun k0 o h1 h2 => (heap_setCell_other _ _ _ _ h1).trans h2
      have HT6 : Hid ((w6.setCell ⟨M, 2 * s + p, none⟩ (.slice (some ⟨g6, 0, none⟩) n6 n6)).heap[M]? = some (.cells (slV n6 (gs ++ [g6]) n) 22 (0, 0))) := by
        show _ = _
        rw [heap_setCell_same _ _ _ _ _ _ hs6, ← HG2, slV_set g6 (by omega)]
      have HROW : Hid (∀ i g, (gs ++ [g6])[i]? = some g → g ≠ M ∧ (w6.setCell ⟨M, 2 * s + p, none⟩ (.slice (some ⟨g6, 0, none⟩) n6 n6)).heap[g]? = some (.cells (vfs (rowF n6 (halfF k (carN gr) i))) 5 (0, 0))) := by
        intro i g hi
        by_cases hjk : i < gs.length
        · rw [List.getElem?_append_left hjk] at hi
          obtain ⟨h1, h2⟩ := HR.out i g hi
          exact ⟨h1, hW _ _ h1 (heap_later (HR5b.out _ _ h2) hb6)⟩
        · have hj2 := (List.getElem?_eq_some_iff.1 hi).1
          simp only [List.length_append, List.length_singleton] at hj2
          obtain rfl : i = 2 * s + p := by omega
          rw [List.getElem?_append_right (by omega), show 2 * s + p - gs.length = 0 from by omega] at hi
          obtain rfl : g6 = g := by simpa using hi
          exact ⟨hg6M, hW _ _ hg6M hh6⟩
      have hB6 := HB5.out.trans (hb6.mono HB5.out.size)
      have hBX := hB6.setCell (p := ⟨M, 2 * s + p, none⟩) (by show w.heap.size ≤ M; omega) (.slice (some ⟨g6, 0, none⟩) n6 n6)
      have HBX : Hid _ := hBX
      have hX0 := holds_later HH5.out hb6
      have HHX : Hid (Holds (w6.setCell ⟨M, 2 * s + p, none⟩ (.slice (some ⟨g6, 0, none⟩) n6 n6)) [(M, .cells (slV n6 (gs ++ [g6]) n) 22 (0, 0)), (w1.heap.size, .cells #[.int .i64 t, .int .i64 k, .slice (some ⟨g1, 0, none⟩) m1 m1] 42 (0, 0)), (g1, .cells (vfs (genM k r)) 5 (0, 0)), (w.heap.size, .cells #[.int .i64 0, .int .i64 0, .slice none 0 0] 42 (0, 0))]) :=
        holds_cons (holds_cons (holds_cons (holds_cons (holds_nil _) (hW _ _ (by omega) (holds_at hX0 4 rfl))) (hW _ _ (hkind_ne (holds_at hX0 3 rfl) hs6 (by decide)) (holds_at hX0 3 rfl))) (hW _ _ (by omega) (holds_at hX0 2 rfl))) HT6.out
      clear hs6 hb6 hh6 hW hB6 hBX hX0 hn6 c1 c2 HG2
      go_wp2
      refine ⟨⟨2 * s + p + 1, gs ++ [g6], by omega, by go_num, by simp [HGS.out], HBX.out, HHX.out, HROW.out⟩, by simp [intOf]; omega⟩
    · obtain rfl : j = n := by omega
      have k1 := holds_at HH.out 0 rfl
      go_wp2_with fail
      refine Calls.mono (of_F c j j _ ((List.range j).map fun i => rowF c (halfF k (carN gr) i)) _ (by omega) (by simp) (by omega) (fun x hx => ?_) (.inr ⟨M, 0, rfl, fun i x hx => ?_⟩)) ?_
      · obtain ⟨i, _, rfl⟩ := List.mem_map.1 hx
        exact rowF_len _ _
      · simp only [List.getElem?_map, Option.map_eq_some_iff] at hx
        obtain ⟨l, hi, rfl⟩ := hx
        obtain ⟨hjk, hi2⟩ := List.getElem?_eq_some_iff.1 hi
        simp only [List.length_range] at hjk
        simp only [List.getElem_range] at hi2
        subst hi2
        have hjg : i < gs.length := by rw [HGS.out]; exact hjk
        have hgj : gs[i]? = some gs[i] := List.getElem?_eq_getElem hjg
        refine ⟨some ⟨gs[i], 0, none⟩, c, ?_, row8_own (HR.out i _ hgj).2⟩
        rw [Nat.zero_add, rowF_len]
        exact cellAt k1 i _ (slV_at hjg)
      rintro e w5 ⟨g, m, rfl, hm, hg, hh, hb5⟩
      rw [← grid_flat, ← HHM.out] at hh
      have k2 := heap_later (holds_at HH.out 3 rfl) hb5
      have c4 := cellAt k2 0 _ rfl
      have c5 := cellAt k2 1 _ rfl
      have c6 := cellAt k2 2 _ rfl
      have d4 : w5.frozen? ⟨w.heap.size, 0, none⟩ = false := frozen_of_row _ _ _ _ _ k2
      have d5 : w5.frozen? ⟨w.heap.size, 1, none⟩ = false := frozen_of_row _ _ _ _ _ k2
      have d6 : w5.frozen? ⟨w.heap.size, 2, none⟩ = false := frozen_of_row _ _ _ _ _ k2
      have HMM : Hid _ := hm
      have HHH : Hid _ := hh
      have HBW : Hid (Below w.heap.size w w5) := HB.out.trans (hb5.mono HB.out.size)
      have hgw : w.heap.size < g := by
        have h1 := ltHeap k1
        omega
      clear hm hh hb5 k2 k1
      go_wp2
      refine bodyPost_ret (v := .tuple #[.agg #[.int .i64 j, .int .i64 c, .slice (some ⟨g, 0, none⟩) m m], .nilIface]) (by simp [results, Tryd.results10, go_sem, c4, c5, c6]) rfl ⟨g, m, rfl, HMM.out, by omega, ?_, ?_⟩
      · rw [heap_setCell_other _ _ _ _ (by show g ≠ w.heap.size; omega), heap_setCell_other _ _ _ _ (by show g ≠ w.heap.size; omega), heap_setCell_other _ _ _ _ (by show g ≠ w.heap.size; omega)]
        exact HHH.out
      · exact ((HBW.out.setCell (by simp) _).setCell (by simp) _).setCell (by simp) _
end Go.Proofs.YtkoakingmnjdoabDoor
