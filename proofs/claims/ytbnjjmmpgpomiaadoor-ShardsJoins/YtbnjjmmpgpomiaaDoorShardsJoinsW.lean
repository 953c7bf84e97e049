/- The walk of ShardsJoins: at all numbers and lists of halves. -/
import Derived.Test.YtbnjjmmpgpomiaaDoorShardsK
import Derived.Test.YtbnjjmmpgpomiaaDoorOpenRowsB
namespace Go.Proofs.YtbnjjmmpgpomiaaDoor
open Go.RowKit Gf
set_option linter.unusedVariables false
set_option maxRecDepth 20000
/-- copies with marked room, as values -/
def inV (f : Nat → Nat) (L : List (List F)) (j : Nat) : List Value := (List.range j).map fun i => .slice (some ⟨f i, 0, none⟩) (L.getD i []).length ((L.getD i []).length + 6)
theorem inV_snoc {f : Nat → Nat} {L : List (List F)} {j g : Nat} {xs : List F} (h : L[j]? = some xs) :
    inV f L j ++ [.slice (some ⟨g, 0, none⟩) xs.length (xs.length + 6)] = inV (fun i => if i = j then g else f i) L (j + 1) := by
  unfold inV
  rw [List.range_succ, List.map_append]
  congr 1
  · exact List.map_congr_left fun i hi => by
      have := List.mem_range.1 hi
      show _ = Value.slice (some ⟨if i = j then g else f i, 0, none⟩) _ _
      rw [if_neg (by omega)]
  · simp [List.getD_eq_getElem?_getD, h]
theorem inV_at {f : Nat → Nat} {L : List (List F)} {j l : Nat} {xs : List F} (h : L[j]? = some xs) (hj : j < l) : (inV f L l)[j]? = some (.slice (some ⟨f j, 0, none⟩) xs.length (xs.length + 6)) := by
  simp [inV, hj, List.getD_eq_getElem?_getD, h]
theorem rowsB_at {w : World} {a : Option Addr} {L : List (List F)} {j : Nat} (h : RowsB w a L) (hj : j < L.length) : ∃ b off, a = some ⟨b, off, none⟩ ∧ b < w.heap.size ∧ ∀ j xs, L[j]? = some xs → ∃ a' cap', w.cell? ⟨b, off + j, none⟩ = some (.slice a' xs.length cap') ∧ Row8 w a' xs ∧ xs.length ≤ cap' ∧ cap' ≤ 140737488351232 ∧ (a' = none → cap' = 0) := by
  rcases h with rfl | ⟨b, off, rfl, h⟩
  · simp at hj
  · obtain ⟨a', cap', h1, _⟩ := h j _ (List.getElem?_eq_getElem hj)
    exact ⟨b, off, rfl, by simpa using World.block_lt_of_cell? w _ h1, h⟩
theorem grown_cell {w w' : World} {g : Nat} {p : Addr} (h : w.grownBy w' (some g)) (hp : p.block < w.heap.size) (hne : p.block ≠ g) : w'.cell? p = w.cell? p := by
  have := h.block p.block hp (by simpa using hne)
  unfold World.cell?
  rw [this]
set_option maxHeartbeats 16000000 in
theorem joins_walk (k size : Int) (l cap : Nat) (a : Option Addr) (L : List (List F)) (w : World) (hs0 : -9223372036854775808 ≤ size) (hs1 : size ≤ 9223372036854775807) (hl : l = L.length) (hl9 : l ≤ 5864062014634) (hR : RowsB w a L) (es : List Addr) (hes : ErrsAt w gsNum es) :
    Calls Tryd.prog 5 #[.int .i64 k, .int .i64 size, .slice a l cap] w fun e w' => e = .returned (.bool true) ∧ Below w.heap.size w w' := by
  have HE : Hid _ := hes
  have HL : Hid _ := hl
  have HR : Hid (RowsB w a L) := hR
  have HJG : Hid _ := fun b c => join_G k size l c b L w es hes hs0 hs1 hl (by omega)
  clear hes hl hR
  go_enter Tryd.func5, Tryd.ntmps5
  go_wp2_with fail
  refine Calls.mono (alive6_ok _ (ofL es) (errsE_num HE.out)) ?_
  rintro e w1 ⟨rfl, hb⟩
  have HB1 : Hid _ := hb
  clear hb
  go_wp2
  have hown : (w1.alloc (.cells #[] 37)).ownsRow w.heap.size 37 1 (.slice (some ⟨w1.heap.size, 0, none⟩) 0 0) 0 (inV (fun _ => 0) L 0) := ⟨rfl, .inr ⟨w1.heap.size, 0, #[], rfl, HB1.out.size, heap_alloc_last _ _, by simp, by simp [maxLen], rfl, rfl⟩⟩
  have hB2 : Below w.heap.size w (w1.alloc (.cells #[] 37)) := HB1.out.alloc HB1.out.size _
  go_loopw [7, 21] (fun s t wr => ∃ j : Nat, ∃ f : Nat → Nat, j ≤ l ∧ t = .int .i64 j ∧ Below w.heap.size w wr ∧ wr.ownsRow w.heap.size 37 1 s j (inV f L j) ∧ ∀ (i : Nat) (xs : List F), i < j → L[i]? = some xs → wr.heap[f i]? = some (.cells (vfs (xs ++ marks)) 5 (0, 0))) (fun _ t _ => l - (intOf t).toNat)
  case atStart => exact ⟨0, fun _ => 0, by omega, rfl, hB2, hown, fun i xs h => absurd h (by omega)⟩
  case round =>
    obtain ⟨j, f, hj, rfl, hbw, ho, hrows⟩ := hrel
    have HBW : Hid _ := hbw
    have HRO : Hid _ := hrows
    clear hown hB2 hrows
    by_cases hlt : j < l
    · have HO : Hid _ := ho
      obtain ⟨b, off, rfl, hbl, hcl⟩ := rowsB_at HR.out (show j < L.length by rw [← HL.out]; exact hlt)
      obtain ⟨xs, hxs⟩ : ∃ xs, L[j]? = some xs := ⟨_, List.getElem?_eq_getElem (by rw [← HL.out]; exact hlt)⟩
      obtain ⟨a', cap', c1', r1, d1, d2, d3⟩ := hcl j xs hxs
      have c1 := cell_later hbw c1'
      have HRX : Hid _ := r1
      have HD3 : Hid _ := d3
      have HXS : Hid _ := hxs
      clear hbw ho hcl hxs c1' r1 d3
      go_wp2_with fail
      refine Calls.mono (bytes_F a' xs.length cap' xs _ rfl (by omega) (row8_below HRX.out HBW.out) HD3.out) ?_
      rintro e w3 ⟨g3, rfl, hg3, hb, hh⟩
      have hbW : Below w.heap.size w w3 := HBW.out.trans (hb.mono HBW.out.size)
      have ho3 := World.ownsRow.alloc (own_below HO.out hb) (.cells #[.slice (some ⟨g3, 0, none⟩) xs.length (xs.length + 6)] 37)
      obtain ⟨g4, cap4, w4, hrun, ho4, hgr, hor, hlt4⟩ := appendS9 (b := w3.heap.size) (c := 1) (x := .slice (some ⟨g3, 0, none⟩) xs.length (xs.length + 6)) 39 ho3 (cellAt (heap_alloc_last w3 (.cells #[.slice (some ⟨g3, 0, none⟩) xs.length (xs.length + 6)] 37)) 0 _ rfl) rfl (by omega) (by have := hbW.size; simp; omega)
      rw [inV_snoc HXS.out] at ho4
      have hb4 := below_own (B := w.heap.size) (hbW.alloc hbW.size (.cells #[.slice (some ⟨g3, 0, none⟩) xs.length (xs.length + 6)] 37)) ho3 hgr (by have := hbW.size; simp; omega)
      have hkeep : ∀ (g : Nat) (ys : List F), w3.heap[g]? = some (.cells (vfs ys) 5 (0, 0)) → w4.heap[g]? = some (.cells (vfs ys) 5 (0, 0)) := fun g ys h =>
        own_other ho3 hgr ((Below.heap_alloc _ _ _ (ltHeap h)).trans h) (by decide)
      have HROW : Hid (∀ (i : Nat) (ys : List F), i < j + 1 → L[i]? = some ys → w4.heap[if i = j then g3 else f i]? = some (.cells (vfs (ys ++ marks)) 5 (0, 0))) := fun i ys hi hy => by
        by_cases e : i = j
        · subst e
          obtain rfl := Option.some.inj (HXS.out.symm.trans hy)
          rw [if_pos rfl]
          exact hkeep _ _ hh
        · rw [if_neg e]
          exact hkeep _ _ (heap_later (HRO.out i ys (by omega) hy) hb)
      have HRun : Hid _ := hrun
      have HO4 : Hid _ := ho4
      have HB4 : Hid _ := hb4
      clear hb hh hbW ho3 hrun ho4 hgr hor hlt4 hb4 hkeep c1
      go_wp2_with (at_builtin; refine wpList_append_run rfl _ _ 39 rfl _ _ _ _ rfl rfl HRun.out ?_)
      exact ⟨⟨j + 1, fun i => if i = j then g3 else f i, by omega, by go_num, HB4.out, HO4.out, HROW.out⟩, by simp [intOf]; omega⟩
    · obtain rfl : j = l := by omega
      obtain ⟨b7, cap7, rfl, hin⟩ : ∃ b7 cap7, u7 = .slice b7 j cap7 ∧ (L = [] ∨ ∃ g7, b7 = some ⟨g7, 0, none⟩ ∧ ∀ (i : Nat) (xs : List F), L[i]? = some xs → wr.cell? ⟨g7, i, none⟩ = some (.slice (some ⟨f i, 0, none⟩) xs.length (xs.length + 6))) := by
        rcases ho.2 with ⟨e, h0⟩ | ⟨g, cap7, cur, e, hg⟩
        · exact ⟨none, 0, by rw [e, h0], .inl (List.eq_nil_of_length_eq_zero (by rw [← HL.out]; exact h0))⟩
        · refine ⟨some ⟨g, 0, none⟩, cap7, e, .inr ⟨g, rfl, fun i xs hi => ?_⟩⟩
          have hoe := ho
          rw [e] at hoe
          have hil : i < j := by rw [HL.out]; exact (List.getElem?_eq_some_iff.1 hi).1
          rw [hoe.cellAt i (by rw [Nat.mul_one]; exact hil), inV_at hi hil]
      have hR8 : Rows8 wr b7 L := by
        rcases hin with e | ⟨g7, rfl, h⟩
        · exact .inl e
        · exact .inr ⟨g7, 0, rfl, fun i xs hi => ⟨some ⟨f i, 0, none⟩, xs.length + 6, by rw [Nat.zero_add]; exact h i xs hi, row8_front (HRO.out i xs (by rw [HL.out]; exact (List.getElem?_eq_some_iff.1 hi).1) hi)⟩⟩
      obtain ⟨x, zs, hx25, hz9, hJ1, hJ2⟩ := HJG.out b7 cap7
      have HJ1 : Hid _ := hJ1
      have HJ2 : Hid _ := hJ2
      have HIN : Hid _ := hin
      have HR8 : Hid _ := hR8
      clear hbw ho hin hR8 hJ1 hJ2
      go_wp2_with fail
      refine Calls.mono (HJ1.out _ HBW.out HR8.out) ?_
      rintro e w3 ⟨bd, rfl, hbd, hb⟩
      have HBD : Hid _ := hbd
      have HB3 : Hid (Below w.heap.size w w3) := HBW.out.trans (hb.mono HBW.out.size)
      have HBR3 : Hid _ := hb
      clear hb hbd
      go_wp2_with fail
      refine Calls.mono (HJ2.out _ _ _ (rows8_below (rowsB_rows HR.out) HB3.out)) ?_
      rintro e w4 ⟨bw, cw, rfl, hrw, hb⟩
      have HB4 : Hid (Below w.heap.size w w4) := HB3.out.trans (hb.mono HB3.out.size)
      have HBR4 : Hid (Below wr.heap.size wr w4) := HBR3.out.trans (hb.mono HBR3.out.size)
      have HB34 : Hid _ := hb
      have HRW : Hid _ := hrw
      clear hb hrw
      go_wp2_with fail
      refine Calls.mono (num_V x (errsAt_below HE.out HB4.out) hx25) ?_
      rintro e w5 ⟨rfl, hb⟩
      have HB5 : Hid (Below w.heap.size w w5) := HB4.out.trans (hb.mono HB4.out.size)
      have HBR5 : Hid (Below wr.heap.size wr w5) := HBR4.out.trans (hb.mono HBR4.out.size)
      have HB35 : Hid (Below w3.heap.size w3 w5) := HB34.out.trans (hb.mono HB34.out.size)
      have HRW5 : Hid _ := row8_below HRW.out hb
      clear hb
      have hrd : Row8 w5 bd zs := by
        rcases HBD.out with ⟨_, e⟩ | ⟨g, ys, rfl, _, hh⟩
        · exact .inl e
        · exact row8_front (heap_later hh HB35.out)
      have q1 := conv8 (ca := zs.length) (show zs.length = zs.length from rfl) hrd
      have q2 := conv8 (ca := cw) (show zs.length = zs.length from rfl) HRW5.out
      clear hrd
      go_wp2
      clear q1 q2
      generalize hwr : wr = w2 at *
      have HG : Hid (∀ (i : Nat) (xs : List F), L[i]? = some xs → i < j) := fun i xs h => by rw [HL.out]; exact (List.getElem?_eq_some_iff.1 h).1
      obtain ⟨m, hm⟩ : ∃ m, m = zs.length := ⟨_, rfl⟩
      rw [← hm] at hz9 ⊢
      rcases HBD.out with ⟨rfl, rfl⟩ | ⟨g, ys, rfl, hg, hh⟩
      · obtain rfl : m = 0 := hm
        go_loopw [58] (fun t wv => ∃ i : Nat, i ≤ j ∧ t = .int .i64 i ∧ Below w5.heap.size w5 wv) (fun t _ => j - (intOf t).toNat)
        case atStart => exact ⟨0, by omega, rfl, Below.refl _ _⟩
        case round =>
          obtain ⟨i, hi, rfl, hbv⟩ := hrel
          have HBV : Hid _ := hbv
          by_cases hlti : i < j
          · have hBRv : Below w2.heap.size w2 wr := HBR5.out.trans (hbv.mono HBR5.out.size)
            have hBv : Below w.heap.size w wr := HB5.out.trans (hbv.mono HB5.out.size)
            obtain ⟨xs, hxs⟩ : ∃ xs, L[i]? = some xs := ⟨_, List.getElem?_eq_getElem (by rw [← HL.out]; exact hlti)⟩
            obtain ⟨b, off, rfl, hbl, hcl⟩ := rowsB_at HR.out (show i < L.length by rw [← HL.out]; exact hlti)
            obtain ⟨a', cap', c1', r1, d1, d2, d3⟩ := hcl i xs hxs
            rcases HIN.out with e | ⟨g7, rfl, h7⟩
            · rw [e] at hxs; simp at hxs
            have c1 := cell_later hBRv (h7 i xs hxs)
            have HF1 : Hid _ := heap_later (HRO.out i xs hlti hxs) hBRv
            have HC2 : Hid (∀ u, Below wr.heap.size wr u → u.cell? ⟨b, off + i, none⟩ = some (.slice a' xs.length cap')) := fun u hu => cell_later hu (cell_later hBv c1')
            have HRX : Hid _ := row8_below r1 hBv
            clear hbv hBRv hBv hxs hcl c1' r1 h7 d3
            go_wp2_with fail
            refine Calls.mono (apart_N xs.length (xs.length + 6) _ xs _ rfl (row8_front HF1.out)) ?_
            rintro e w6 ⟨rfl, hb⟩
            have c2 := HC2.out _ hb
            have HF2 : Hid _ := heap_later HF1.out hb
            have HRX2 : Hid _ := row8_below HRX.out hb
            have HB6 : Hid (Below w5.heap.size w5 w6) := HBV.out.trans (hb.mono HBV.out.size)
            clear hb c1
            go_wp2_with fail
            refine Calls.mono (kept_F _ xs.length cap' a' xs _ rfl (by omega) d1 HF2.out HRX2.out) ?_
            rintro e w7 ⟨rfl, hb⟩
            have HB7 : Hid (Below w5.heap.size w5 w7) := HB6.out.trans (hb.mono HB6.out.size)
            clear hb c2
            go_wp2
            exact ⟨⟨i + 1, by omega, by go_num, HB7.out⟩, by simp [intOf]; omega⟩
          · obtain rfl : i = j := by omega
            clear hbv
            go_wp2
            go_ret
            exact ⟨rfl, HB5.out.trans (HBV.out.mono HB5.out.size)⟩
      · have hh5 := heap_later hh HB35.out
        have hgw : w.heap.size ≤ g := by have := HBW.out.size; omega
        obtain ⟨tot, htot⟩ : ∃ tot, tot = (zs ++ ys).length := ⟨_, rfl⟩
        have HMT : Hid (m ≤ tot) := by show m ≤ tot; rw [hm, htot, List.length_append]; omega
        have HT0 : Hid _ := htot
        have HH5 : Hid _ := hh5
        clear hh hh5 htot hm
        go_loopw [58] (fun t wv => ∃ i : Nat, ∃ cs : List F, i ≤ j ∧ t = .int .i64 i ∧ w5.grownBy wv (some g) ∧ Hid (cs.length = tot) ∧ wv.heap[g]? = some (.cells (vfs cs) 5 (0, 0))) (fun t _ => j - (intOf t).toNat)
        case atStart => exact ⟨0, _, by omega, rfl, World.grownBy.refl _ _, HT0.out.symm, HH5.out⟩
        case round =>
          obtain ⟨i, cs, hi, rfl, hgv, HCS, hcs⟩ := hrel
          have HGV : Hid _ := hgv
          by_cases hlti : i < j
          · obtain ⟨xs, hxs⟩ : ∃ xs, L[i]? = some xs := ⟨_, List.getElem?_eq_getElem (by rw [← HL.out]; exact hlti)⟩
            obtain ⟨b, off, rfl, hbl, hcl⟩ := rowsB_at HR.out (show i < L.length by rw [← HL.out]; exact hlti)
            obtain ⟨a', cap', c1', r1, d1, d2, d3⟩ := hcl i xs hxs
            rcases HIN.out with e | ⟨g7, rfl, h7⟩
            · rw [e] at hxs; simp at hxs
            have hf := HRO.out i xs hlti hxs
            have hfg : f i ≠ g := by have := ltHeap hf; omega
            have h7c := h7 i xs hxs
            have hg7 : g7 < w2.heap.size := by simpa using World.block_lt_of_cell? _ _ h7c
            have hkeep : ∀ u, wr.grownBy u (some g) → u.heap[f i]? = some (.cells (vfs (xs ++ marks)) 5 (0, 0)) := fun u hu => grown_block hu (grown_block hgv (heap_later hf HBR5.out) hfg) hfg
            have hBv : ∀ u, wr.grownBy u (some g) → Below w.heap.size w u := fun u hu => below_grown (below_grown HB5.out hgv hgw) hu hgw
            have HKE : Hid _ := hkeep
            have HBVV : Hid _ := hBv
            have c1 : wr.cell? ⟨g7, i, none⟩ = some (.slice (some ⟨f i, 0, none⟩) xs.length (xs.length + 6)) := by
              have h5 := cell_later HBR5.out h7c
              have hz5 := HBR5.out.size
              exact (grown_cell hgv (by show g7 < _; omega) (by show g7 ≠ g; omega)).trans h5
            have HAP : Hid _ := apart_S g 0 m xs.length (xs.length + 6) (some ⟨f i, 0, none⟩) xs cs wr rfl (by rw [HCS.out, Nat.zero_add]; exact HMT.out) (by omega) (by rw [flTo_zero]; exact hcs) (fun k hk w' hg h => row8_front (hkeep w' hg))
            have HC2 : Hid (∀ u, wr.grownBy u (some g) → u.cell? ⟨b, off + i, none⟩ = some (.slice a' xs.length cap')) := fun u hu => cell_later (hBv u hu) c1'
            have HRX : Hid _ := r1
            clear hgv hcs hxs hcl c1' r1 h7 h7c hf hkeep hBv d3
            go_wp2_with fail
            refine Calls.mono HAP.out ?_
            rintro e w6 ⟨rfl, hg6, hh6⟩
            have c2 := HC2.out _ hg6
            have HF2 : Hid _ := HKE.out _ hg6
            have HRX2 : Hid _ := row8_below HRX.out (HBVV.out _ hg6)
            have HG6 : Hid (w5.grownBy w6 (some g)) := grownBy_trans HGV.out hg6 (fun _ _ h => h)
            have HH6 : Hid _ := hh6
            clear hg6 hh6 c1
            go_wp2_with fail
            refine Calls.mono (kept_F _ xs.length cap' a' xs _ rfl (by omega) d1 HF2.out HRX2.out) ?_
            rintro e w7 ⟨rfl, hb⟩
            have HG7 : Hid (w5.grownBy w7 (some g)) := grown_below HG6.out hb
            have HH7 : Hid _ := heap_later HH6.out hb
            clear hb c2
            go_wp2
            exact ⟨⟨i + 1, flTo cs (0 + m), by omega, by go_num, HG7.out, by rw [flTo_len]; exact HCS.out, HH7.out⟩, by simp [intOf]; omega⟩
          · obtain rfl : i = j := by omega
            clear hgv hcs
            go_wp2
            go_ret
            exact ⟨rfl, below_grown HB5.out HGV.out hgw⟩
end Go.Proofs.YtbnjjmmpgpomiaaDoor
