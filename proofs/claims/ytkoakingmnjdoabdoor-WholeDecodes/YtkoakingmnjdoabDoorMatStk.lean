/- What Stack of package mat answers, of all lists of matrices; nothing that was there turns. -/
import Derived.Test.YtkoakingmnjdoabDoorMatTake
import Derived.Test.YtkoakingmnjdoabDoorMatOf
namespace Go.Proofs.YtkoakingmnjdoabDoor
open Go.RowKit Gf
set_option linter.unusedVariables false
set_option maxRecDepth 20000
/-- a matrix as it comes: its numbers, its list, the elements -/
structure Mx where
  r : Int
  c : Int
  a : Option Addr
  l : Nat
  cap : Nat
  xs : List F
/-- a matrix in form, of these columns -/
def Mx.Good (m : Mx) (c : Nat) : Prop := ∃ r : Nat, m.r = r ∧ m.c = c ∧ r ≤ 64 ∧ c ≤ 64 ∧ m.l = r * c
/-- what is known of it -/
def Mx.Lies (m : Mx) (w : World) : Prop := m.l = m.xs.length ∧ m.l ≤ m.cap ∧ Row8 w m.a m.xs ∧ (m.a = none → m.cap = 0)
/-- a list of matrices in memory -/
def MxsAt (w : World) (b : Nat) (ms : List Mx) : Prop := ∀ j m, ms[j]? = some m → w.cell? ⟨b, j * 3, none⟩ = some (.int .i64 m.r) ∧ w.cell? ⟨b, j * 3 + 1, none⟩ = some (.int .i64 m.c) ∧ w.cell? ⟨b, j * 3 + 2, none⟩ = some (.slice m.a m.l m.cap)
def rowsOf (ms : List Mx) : Nat := (ms.map fun m => m.r.toNat).sum
def rowsM (c : Nat) (ms : List Mx) : List (List F) := (ms.map fun m => (List.range m.r.toNat).map (rowAt c m.xs)).flatten
theorem rowsM_snoc (c : Nat) (ms : List Mx) (m : Mx) : rowsM c (ms ++ [m]) = rowsM c ms ++ (List.range m.r.toNat).map (rowAt c m.xs) := by simp [rowsM]
theorem rowsOf_snoc (ms : List Mx) (m : Mx) : rowsOf (ms ++ [m]) = rowsOf ms + m.r.toNat := by simp [rowsOf]
theorem rowsM_len (c : Nat) (ms : List Mx) : (rowsM c ms).length = rowsOf ms := by
  simp only [rowsM, rowsOf, List.length_flatten, List.map_map]
  congr 1
  apply List.map_congr_left
  intro m _
  simp
/-- the whole is as the call wants it -/
def StackOk (c : Int) (ms : List Mx) : Prop := 0 ≤ c ∧ c ≤ 64 ∧ (∀ m ∈ ms, m.Good c.toNat) ∧ rowsOf ms ≤ 64
theorem rowsOf_take_le (ms : List Mx) (k : Nat) : rowsOf (ms.take k) ≤ rowsOf ms := by
  have h := List.take_append_drop k ms
  have : rowsOf (ms.take k ++ ms.drop k) = rowsOf (ms.take k) + rowsOf (ms.drop k) := by simp only [rowsOf, List.map_append, List.sum_append]
  rw [h] at this; omega
set_option maxHeartbeats 2000000 in
theorem stack_F (c : Int) (b n cn : Nat) (ms : List Mx) (w : World) (hb : b < w.heap.size) (hn : n = ms.length) (hn6 : n ≤ 100) (hA : MxsAt w b ms) (hM : ∀ m ∈ ms, m.Lies w) (s : Addr) (hs : w.cell? ⟨5, 0, none⟩ = some (errAt s)) :
    Calls Tryd.prog 35 #[.int .i64 c, .slice (some ⟨b, 0, none⟩) n cn] w fun e w' =>
      (StackOk c ms ∧ ∃ g m, e = .returned (.tuple #[.agg #[.int .i64 (rowsOf ms), .int .i64 c, .slice (some ⟨g, 0, none⟩) m m], .nilIface]) ∧ m = rowsOf ms * c.toNat ∧ w.heap.size ≤ g ∧
        w'.heap[g]? = some (.cells (vfs (rowsM c.toNat ms).flatten) 5 (0, 0)) ∧ Below w.heap.size w w') ∨
      ¬ StackOk c ms ∧ e = .returned (.tuple #[.agg #[.int .i64 0, .int .i64 0, .slice none 0 0], errAt s]) ∧ Below w.heap.size w w' := by
  have hlt0 := World.block_lt_of_cell? w _ hs
  simp at hlt0
  have HN : Hid _ := hn
  have HA : Hid _ := hA
  have HM : Hid _ := hM
  have HS : Hid _ := hs
  clear hn hA hM hs
  unfold errAt at *
  have B1 : Hid _ := heap_alloc_last w (.cells #[.int .i64 0, .int .i64 0, .slice none 0 0] 42)
  have B4 : Hid (Below w.heap.size w (w.alloc (.cells #[.int .i64 0, .int .i64 0, .slice none 0 0] 42))) := (Below.refl _ _).alloc (Nat.le_refl _) _
  go_enter Tryd.func35, Tryd.ntmps35
  go_wp2
  have z0 : w.heap.size < (w.alloc (.cells #[.int .i64 0, .int .i64 0, .slice none 0 0] 42)).heap.size := by simp
  generalize (w.alloc (.cells #[.int .i64 0, .int .i64 0, .slice none 0 0] 42)) = W at *
  go_loopw [6, 12] (fun v i wr => ∃ k : Nat, ∃ vs : List Value, k ≤ n ∧ i = .int .i64 k ∧ Below (w.heap.size + 1) W wr ∧ wr.ownsRow (w.heap.size + 1) 22 1 v (rowsOf (ms.take k)) vs ∧ Lists8 w c.toNat vs (rowsM c.toNat (ms.take k)) ∧ rowsOf (ms.take k) ≤ 64 ∧ ∀ m ∈ ms.take k, m.Good c.toNat ∧ 0 ≤ c) (fun _ i _ => n - (intOf i).toNat)
  case atStart => exact ⟨0, [], by omega, rfl, Below.refl _ _, by simpa [rowsOf] using World.ownsRow_nil _ _ _ _, by simpa [rowsM] using lists8_nil w _, by simp [rowsOf], by simp⟩
  case round =>
    obtain ⟨k, vs, hk, rfl, hbw, hown, hls, hro, hall⟩ := hrel
    by_cases hlt : k < n
    · have hkm : k < ms.length := by rw [← HN.out]; exact hlt
      have hget : ms[k]? = some ms[k] := List.getElem?_eq_getElem hkm
      generalize ms[k] = x at hget
      have hc012 := HA.out k x hget
      have hBw : Below w.heap.size w wr := B4.out.trans (hbw.mono (by omega))
      have c0 := cell_later hBw hc012.1
      have c1 := cell_later hBw hc012.2.1
      have c2 := cell_later hBw hc012.2.2
      have c9 := cell_later hBw HS.out
      have HGet : Hid _ := hget
      have HOwn : Hid _ := hown
      have HLS : Hid _ := hls
      have HBW : Hid _ := hbw
      have HAll : Hid _ := hall
      have HLies : Hid _ := HM.out x (List.mem_of_getElem? hget)
      have z1 : w.heap.size + 1 ≤ wr.heap.size := by have := hbw.size; omega
      have k1 : Hid _ := (hbw.block w.heap.size (by omega)).trans B1.out
      clear hget hown hls hbw hall hBw hc012
      obtain ⟨xr, xc, xa, xl, xcap, xxs⟩ := x
      have HB0 : Hid (Below w.heap.size w wr) := B4.out.trans (HBW.out.mono (by omega))
      have hlen : ∃ gv capv, u6 = .slice gv (rowsOf (ms.take k)) capv := by
        rcases HOwn.out.2 with ⟨rfl, e⟩ | ⟨g, cap, cur, rfl, _⟩
        · exact ⟨none, 0, by rw [e]⟩
        · exact ⟨_, _, rfl⟩
      obtain ⟨gv, capv, rfl⟩ := hlen
      by_cases hf : 0 ≤ xr ∧ xr ≤ 64 ∧ 0 ≤ xc ∧ xc ≤ 64 ∧ (xl : Int) = xr * xc
      · obtain ⟨r, rfl⟩ := Int.eq_ofNat_of_zero_le hf.1
        obtain ⟨d, rfl⟩ := Int.eq_ofNat_of_zero_le hf.2.2.1
        have hr : r ≤ 64 := by omega
        have hd : d ≤ 64 := by omega
        have hl : xl = r * d := by have := hf.2.2.2.2; rw [← Int.natCast_mul] at this; omega
        have HL : Hid _ := hl
        clear hf hl
        go_wp2_with fail
        refine Calls.mono (check_ok r d xa xl xcap _ hr hd HL.out) ?_
        rintro e w1 ⟨rfl, hb1⟩
        have hB1 : Below wr.heap.size wr w1 := ((Below.refl _ _).alloc (Nat.le_refl _) _).trans (hb1.mono (by simp))
        have kx := heap_later (heap_alloc_last wr (.cells #[.int .i64 r, .int .i64 d, .slice xa xl xcap] 42)) hb1
        have e1 := cellAt kx 0 _ rfl
        have e2 := cellAt kx 1 _ rfl
        have e3 := cellAt kx 2 _ rfl
        have k1' := heap_later k1.out hB1
        have c4 := cellAt k1' 0 _ rfl
        have c5 := cellAt k1' 1 _ rfl
        have c6 := cellAt k1' 2 _ rfl
        have d4 : w1.frozen? ⟨w.heap.size, 0, none⟩ = false := frozen_of_row _ _ _ _ _ k1'
        have d5 : w1.frozen? ⟨w.heap.size, 1, none⟩ = false := frozen_of_row _ _ _ _ _ k1'
        have d6 : w1.frozen? ⟨w.heap.size, 2, none⟩ = false := frozen_of_row _ _ _ _ _ k1'
        have c9 := cell_later hB1 c9
        have HB1 : Hid (Below w.heap.size w w1) := HB0.out.trans (hB1.mono HB0.out.size)
        have HR1 : Hid _ := own_below HOwn.out hB1
        have HKX : Hid _ := kx
        have HK1 : Hid _ := k1'
        have HBW1 : Hid (Below (w.heap.size + 1) W w1) := HBW.out.trans (hB1.mono z1)
        clear hb1 kx k1' c0 c1 c2
        by_cases hdc : (d : Int) = c
        · subst hdc
          by_cases hsum : rowsOf (ms.take k) + r ≤ 64
          · clear c4 c5 c6 d4 d5 d6 c9
            go_wp2
            have z2 := hB1.size
            clear hB1
            generalize hM : wr.heap.size = M at *
            go_loopw [6, 37] (fun v i wq => ∃ q : Nat, ∃ us : List Value, q ≤ r ∧ i = .int .i64 q ∧ Below (w.heap.size + 1) W wq ∧ wq.heap[M]? = some (.cells #[.int .i64 r, .int .i64 d, .slice xa xl xcap] 42 (0, 0)) ∧ wq.ownsRow (w.heap.size + 1) 22 1 v (rowsOf (ms.take k) + q) us ∧
              Lists8 w d us (rowsM d (ms.take k) ++ (List.range q).map (rowAt d xxs))) (fun _ i _ => r - (intOf i).toNat)
            case atStart => exact ⟨0, vs, by omega, rfl, HBW1.out, HKX.out, HR1.out, by rw [List.range_zero, List.map_nil, List.append_nil]; exact HLS.out⟩
            case round =>
              obtain ⟨q, us, hq, rfl, hbq, hxq, hoq, hlq⟩ := hrel
              have HBQ : Hid _ := hbq
              have HXQ : Hid _ := hxq
              have HOQ : Hid _ := hoq
              have HLQ : Hid _ := hlq
              by_cases hltq : q < r
              · have f1 := cellAt hxq 0 _ rfl
                have f2 := cellAt hxq 1 _ rfl
                have f3 := cellAt hxq 2 _ rfl
                clear hbq hxq hoq hlq
                go_wp2_with fail
                refine Calls.mono (rowOf_G r d q xl xcap xa xxs w _ hr hd hltq HL.out (by rw [← HLies.out.1]; exact HL.out) HLies.out.2.1 HLies.out.2.2.1 HLies.out.2.2.2) ?_
                rintro e w4 ⟨a', cap', rfl, hr4, hc4, hn4, hs4, hb4⟩
                have ho4 := (own_below HOQ.out hb4).alloc (.cells #[.slice a' d cap'] 22)
                have hx4 := (Below.heap_alloc w4 (.cells #[.slice a' d cap'] 22) _ (ltHeap (heap_later HXQ.out hb4))).trans (heap_later HXQ.out hb4)
                have hB4 : Below (w.heap.size + 1) W (w4.alloc (.cells #[.slice a' d cap'] 22)) := (HBQ.out.trans (hb4.mono (by have := HBQ.out.size; omega))).alloc (by have := HBQ.out.size; have := hb4.size; omega) _
                obtain ⟨g2, cap2, w2, hrun, ho2, hgr, hor, hlt2⟩ := appendS (b := w4.heap.size) (c := 1) (x := .slice a' d cap') 38 ho4 (cellAt (heap_alloc_last w4 (.cells #[.slice a' d cap'] 22)) 0 _ rfl) rfl (by omega) (by have := hB4.size; omega)
                have HRun : Hid _ := hrun
                have HO2 : Hid _ := ho2
                have HX2 : Hid _ := own_other ho4 hgr hx4 (by decide)
                have HB2 : Hid _ := below_own hB4 ho4 hgr (by have := hB4.size; omega)
                have HR4 : Hid _ := hr4
                clear hrun ho2 hgr hor hlt2 hB4 hx4 ho4 hb4 hr4 f1 f2 f3
                go_wp2_with (at_builtin; refine wpList_append_run rfl _ _ 38 rfl _ _ _ _ rfl rfl HRun.out ?_)
                refine ⟨⟨q + 1, _, by omega, by go_num, HB2.out, HX2.out, HO2.out, ?_⟩, by simp [intOf]; omega⟩
                rw [List.range_succ, List.map_append, ← List.append_assoc]
                exact lists8_snoc HLQ.out (rowAt_len (by rw [← HLies.out.1]; exact HL.out) hltq) HR4.out
              · obtain rfl : q = r := by omega
                clear hbq hxq hoq hlq
                go_wp2
                have hk1 : k < ms.length := by rw [← HN.out]; exact hlt
                have e9 : ms[k] = ⟨(q : Int), (d : Int), xa, xl, xcap, xxs⟩ := by have := HGet.out; rw [List.getElem?_eq_getElem hk1] at this; exact Option.some.inj this
                have hro' : rowsOf (ms.take (k + 1)) = rowsOf (ms.take k) + q := by rw [List.take_succ_eq_append_getElem hk1, e9, rowsOf_snoc]; rfl
                have hrm' : rowsM d (ms.take (k + 1)) = rowsM d (ms.take k) ++ (List.range q).map (rowAt d xxs) := by rw [List.take_succ_eq_append_getElem hk1, e9, rowsM_snoc]; rfl
                refine ⟨⟨k + 1, us, by omega, by go_num, HBQ.out, by rw [hro']; exact HOQ.out, ?_, by rw [hro']; exact hsum, ?_⟩, by simp [intOf]; omega⟩
                · show Lists8 w d us (rowsM d (ms.take (k + 1)))
                  rw [hrm']; exact HLQ.out
                · intro m hm
                  rw [List.take_succ_eq_append_getElem hk1, e9, List.mem_append, List.mem_singleton] at hm
                  rcases hm with hm | rfl
                  · exact HAll.out m hm
                  · exact ⟨⟨q, rfl, rfl, hr, hd, HL.out⟩, by omega⟩
          · have HS9 : Hid _ := hsum
            go_wp2
            go_region
            go_wp2
            refine bodyPost_ret (v := .tuple #[.agg #[.int .i64 0, .int .i64 0, .slice none 0 0], .iface 102 (.pointer (some s))]) (by simp [results, Tryd.results35, go_sem, c4, c5, c6]) rfl (.inr ⟨fun h => ?_, rfl, ?_⟩)
            · have hk1 : k < ms.length := by rw [← HN.out]; exact hlt
              have e9 : ms[k] = ⟨(r : Int), (d : Int), xa, xl, xcap, xxs⟩ := by have := HGet.out; rw [List.getElem?_eq_getElem hk1] at this; exact Option.some.inj this
              have hro' : rowsOf (ms.take (k + 1)) = rowsOf (ms.take k) + r := by rw [List.take_succ_eq_append_getElem hk1, e9, rowsOf_snoc]; rfl
              have h2 := rowsOf_take_le ms (k + 1)
              have h3 := h.2.2.2
              exact HS9.out (by omega)
            · exact (((HB1.out.drew).setCell (by simp) _).setCell (by simp) _).setCell (by simp) _
        · have HS9 : Hid _ := hdc
          go_wp2
          go_region
          go_wp2
          refine bodyPost_ret (v := .tuple #[.agg #[.int .i64 0, .int .i64 0, .slice none 0 0], .iface 102 (.pointer (some s))]) (by simp [results, Tryd.results35, go_sem, c4, c5, c6]) rfl (.inr ⟨fun h => ?_, rfl, ?_⟩)
          · obtain ⟨r2, _, h2, _⟩ := h.2.2.1 _ (List.mem_of_getElem? HGet.out)
            have h3 := h.1
            have h4 : (d : Int) = (c.toNat : Int) := h2
            exact HS9.out (by omega)
          · exact (((HB1.out.drew).setCell (by simp) _).setCell (by simp) _).setCell (by simp) _
      · have HF : Hid _ := hf
        have c9' := cell?_alloc_old (.cells #[.int .i64 xr, .int .i64 xc, .slice xa xl xcap] 42) c9
        have HC9 : Hid _ := c9'
        clear hf c9'
        go_wp2_with fail
        refine Calls.mono (check_bad xr xc xa xl xcap _ _ HC9.out HF.out) ?_
        rintro e w1 ⟨rfl, hb1⟩
        have hB1 : Below wr.heap.size wr w1 := ((Below.refl _ _).alloc (Nat.le_refl _) _).trans (hb1.mono (by simp))
        have k1' := heap_later k1.out hB1
        have c4 := cellAt k1' 0 _ rfl
        have c5 := cellAt k1' 1 _ rfl
        have c6 := cellAt k1' 2 _ rfl
        have d4 : w1.frozen? ⟨w.heap.size, 0, none⟩ = false := frozen_of_row _ _ _ _ _ k1'
        have d5 : w1.frozen? ⟨w.heap.size, 1, none⟩ = false := frozen_of_row _ _ _ _ _ k1'
        have d6 : w1.frozen? ⟨w.heap.size, 2, none⟩ = false := frozen_of_row _ _ _ _ _ k1'
        have c9 := cell_later hB1 c9
        have HB1 : Hid (Below w.heap.size w w1) := HB0.out.trans (hB1.mono HB0.out.size)
        clear hb1 k1' c0 c1 c2 hB1
        go_wp2
        go_region
        go_wp2
        refine bodyPost_ret (v := .tuple #[.agg #[.int .i64 0, .int .i64 0, .slice none 0 0], .iface 102 (.pointer (some s))]) (by simp [results, Tryd.results35, go_sem, c4, c5, c6]) rfl (.inr ⟨fun h => ?_, rfl, ?_⟩)
        · obtain ⟨r2, h1, h2, h3, h4, h5⟩ := h.2.2.1 _ (List.mem_of_getElem? HGet.out)
          have h1 : xr = (r2 : Int) := h1
          have h2 : xc = (c.toNat : Int) := h2
          have h5 : xl = r2 * c.toNat := h5
          refine HF.out ⟨by omega, by omega, by omega, by omega, ?_⟩
          rw [h1, h2, h5, Int.natCast_mul]
        · exact (((HB1.out.drew).setCell (by simp) _).setCell (by simp) _).setCell (by simp) _
    · obtain rfl : k = n := by omega
      have hd : ms.take k = ms := List.take_of_length_le (by rw [HN.out]; exact Nat.le_refl _)
      rw [hd] at hown hls hro hall
      have HB0 : Hid (Below w.heap.size w wr) := B4.out.trans (hbw.mono (by omega))
      have z1 : w.heap.size + 1 ≤ wr.heap.size := by have := hbw.size; omega
      have k1 : Hid _ := (hbw.block w.heap.size (by omega)).trans B1.out
      have hlen : ∃ gv capv, u6 = .slice gv (rowsOf ms) capv ∧ Rows8 wr gv (rowsM c.toNat ms) := by
        rcases hown.2 with ⟨rfl, e⟩ | ⟨g, cap, cur, rfl, h2⟩
        · exact ⟨none, 0, by rw [e], .inl (List.eq_nil_of_length_eq_zero (by rw [rowsM_len, e]))⟩
        · exact ⟨_, _, rfl, lists8_rows hls HB0.out (fun j v hj => by
            have hjl := (List.getElem?_eq_some_iff.1 hj).1
            have := hown.1
            rw [hown.cellAt j (by omega), hj])⟩
      obtain ⟨gv, capv, rfl, hr8⟩ := hlen
      have HR8 : Hid _ := hr8
      have HLL : Hid _ := lists8_len hls
      have HAll : Hid _ := hall
      clear hr8 hls hall hown hbw hd
      by_cases hc : 0 ≤ c ∧ c ≤ 64
      · obtain ⟨d, rfl⟩ := Int.eq_ofNat_of_zero_le hc.1
        have hd : d ≤ 64 := by omega
        clear hc
        go_wp2_with fail
        refine Calls.mono (of_F d (rowsOf ms) capv gv (rowsM d ms) _ hd (rowsM_len _ _).symm hro HLL.out HR8.out) ?_
        rintro e w5 ⟨g, m, rfl, hm, hg, hh, hb5⟩
        have k5 := heap_later k1.out hb5
        have c4 := cellAt k5 0 _ rfl
        have c5 := cellAt k5 1 _ rfl
        have c6 := cellAt k5 2 _ rfl
        have d4 : w5.frozen? ⟨w.heap.size, 0, none⟩ = false := frozen_of_row _ _ _ _ _ k5
        have d5 : w5.frozen? ⟨w.heap.size, 1, none⟩ = false := frozen_of_row _ _ _ _ _ k5
        have d6 : w5.frozen? ⟨w.heap.size, 2, none⟩ = false := frozen_of_row _ _ _ _ _ k5
        have HB5 : Hid (Below w.heap.size w w5) := HB0.out.trans (hb5.mono HB0.out.size)
        have HH : Hid _ := hh
        have HM' : Hid _ := hm
        clear k5 hb5 hh hm
        go_wp2
        refine bodyPost_ret (v := .tuple #[.agg #[.int .i64 (rowsOf ms), .int .i64 d, .slice (some ⟨g, 0, none⟩) m m], .nilIface]) (by simp [results, Tryd.results35, go_sem, c4, c5, c6]) rfl (.inl ⟨⟨by omega, by omega, fun m hm => (HAll.out m hm).1, hro⟩, g, m, rfl, HM'.out, by omega, ?_, ?_⟩)
        · rw [heap_setCell_other _ _ _ _ (by show g ≠ w.heap.size; omega), heap_setCell_other _ _ _ _ (by show g ≠ w.heap.size; omega), heap_setCell_other _ _ _ _ (by show g ≠ w.heap.size; omega)]
          exact HH.out
        · exact ((HB5.out.setCell (by simp) _).setCell (by simp) _).setCell (by simp) _
      · have HC : Hid _ := hc
        have c9 := cell_later HB0.out HS.out
        have HC9 : Hid _ := c9
        clear hc c9
        go_wp2_with fail
        refine Calls.mono (of_no c (rowsOf ms) capv gv _ _ HC9.out (fun h => HC.out ⟨h.1, h.2.1⟩)) ?_
        rintro e w5 ⟨rfl, hb5⟩
        unfold errAt
        have k5 := heap_later k1.out hb5
        have c4 := cellAt k5 0 _ rfl
        have c5 := cellAt k5 1 _ rfl
        have c6 := cellAt k5 2 _ rfl
        have d4 : w5.frozen? ⟨w.heap.size, 0, none⟩ = false := frozen_of_row _ _ _ _ _ k5
        have d5 : w5.frozen? ⟨w.heap.size, 1, none⟩ = false := frozen_of_row _ _ _ _ _ k5
        have d6 : w5.frozen? ⟨w.heap.size, 2, none⟩ = false := frozen_of_row _ _ _ _ _ k5
        have HB5 : Hid (Below w.heap.size w w5) := HB0.out.trans (hb5.mono HB0.out.size)
        clear k5 hb5
        go_wp2
        refine bodyPost_ret (v := .tuple #[.agg #[.int .i64 0, .int .i64 0, .slice none 0 0], .iface 102 (.pointer (some s))]) (by simp [results, Tryd.results35, go_sem, c4, c5, c6]) rfl (.inr ⟨fun h => HC.out ⟨h.1, h.2.1⟩, rfl, ?_⟩)
        exact ((HB5.out.setCell (by simp) _).setCell (by simp) _).setCell (by simp) _
end Go.Proofs.YtkoakingmnjdoabDoor
