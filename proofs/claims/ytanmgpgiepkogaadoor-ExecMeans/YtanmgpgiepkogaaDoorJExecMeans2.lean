/- What the document's own Copy of a program answers: the same in memory of its own. -/
import Derived.Test.YtanmgpgiepkogaaDoorJExecMeans3
import Derived.Test.YtanmgpgiepkogaaDoorSolveL
import Derived.Test.YtanmgpgiepkogaaDoorMatP
import Derived.Test.YtanmgpgiepkogaaDoorOwn
import Derived.Test.YtanmgpgiepkogaaDoorHolds
import Derived.BigRegion
import Derived.RangeFuncNested
import Derived.RangeFuncBound
import Derived.RangeFuncCalls
import Derived.RangeFuncLeaves
import Derived.Shelf.Abstract
import Derived.Shelf.RegionOpen
import Derived.WalkKit
import Derived.OwnWalkIn
import Derived.TacticsInMore
import Derived.LoopNIn
import Derived.LoopIn
import Derived.Test.YtanmgpgiepkogaaDoorPlacesK
import Derived.Deep.DeepCutAuto
/- What stepsFit and Check of package prog answer, of all programs. -/
namespace Go.Proofs.YtanmgpgiepkogaaDoor
open Go.RowKit Gf
set_option linter.unusedVariables false
set_option maxRecDepth 20000
set_option linter.unusedSimpArgs false
/-- a program in memory -/
structure PrgW (w : World) (ia oa sa : Option Addr) (il ic ol oc sl sc : Nat) (ins outs : List Int) (ss : List Stp) : Prop where
  eil : il = ins.length
  eol : ol = outs.length
  esl : sl = ss.length
  i9 : il ≤ 4611686018427387904
  o9 : ol ≤ 4611686018427387904
  s9 : sl ≤ 4611686018427387904
  cil : il ≤ ic
  col : ol ≤ oc
  csl : sl ≤ sc
  inil : ia = none → ic = 0
  onil : oa = none → oc = 0
  snil : sa = none → sc = 0
  I : RowI w ia ins
  O : RowI w oa outs
  S : StpW w sa ss
theorem PrgW.below {w w' : World} {ia oa sa : Option Addr} {il ic ol oc sl sc : Nat} {ins outs : List Int} {ss : List Stp} (h : PrgW w ia oa sa il ic ol oc sl sc ins outs ss) (hb : Below w.heap.size w w') : PrgW w' ia oa sa il ic ol oc sl sc ins outs ss :=
  { h with I := rowI_below h.I hb, O := rowI_below h.O hb, S := stpW_below h.S hb }
/-- all steps fit, each output is made once -/
def FitA (ni no : Nat) (rg : Int) (ss : List Stp) : Prop := (∀ s ∈ ss, OkS ni no rg s) ∧ ∀ d : Nat, d < no → cntO ss d = 1
noncomputable def fitB (ni no : Nat) (rg : Int) (ss : List Stp) : Bool := @decide (FitA ni no rg ss) (Classical.propDecidable _)
theorem fitB_yes {ni no : Nat} {rg : Int} {ss : List Stp} (h : FitA ni no rg ss) : fitB ni no rg ss = true := @decide_eq_true _ (Classical.propDecidable _) h
theorem fitB_no {ni no : Nat} {rg : Int} {ss : List Stp} (h : ¬ FitA ni no rg ss) : fitB ni no rg ss = false := @decide_eq_false _ (Classical.propDecidable _) h
def mdL (no : Nat) (ss : List Stp) : List Bool := (List.range no).map fun d => decide (1 ≤ cntO ss d)
theorem mdL_len (no : Nat) (ss : List Stp) : (mdL no ss).length = no := by simp [mdL]
theorem mdL_nil (no : Nat) : mdL no [] = List.replicate no false := by
  apply List.ext_getElem?
  intro i
  by_cases h : i < no <;> simp [mdL, cntO, h]
theorem mdL_get {no d : Nat} {ss : List Stp} (h : d < no) : (mdL no ss)[d]? = some (decide (1 ≤ cntO ss d)) := by simp [mdL, h]
theorem cnt_not {ss : List Stp} {s : Stp} {d : Nat} (h : s.op ≠ 5) : cntO (ss ++ [s]) d = cntO ss d := by
  have : (s.op == 5) = false := by simpa using h
  simp [cntO, List.countP_append, this]
theorem cnt_out {ss : List Stp} {s : Stp} {d : Nat} (h : s.op = 5) (hd : s.dst = d) : cntO (ss ++ [s]) d = cntO ss d + 1 := by
  simp [cntO, List.countP_append, h, hd]
theorem cnt_other {ss : List Stp} {s : Stp} {d : Nat} (hd : s.dst ≠ d) : cntO (ss ++ [s]) d = cntO ss d := by
  have : (s.dst == (d : Int)) = false := by simpa using hd
  simp [cntO, List.countP_append, this]
theorem cnt_take (ss : List Stp) (j d : Nat) : cntO (ss.take j) d ≤ cntO ss d := by
  conv => rhs; rw [← List.take_append_drop j ss]
  unfold cntO
  rw [List.countP_append]
  omega
theorem mdL_not {no : Nat} {ss : List Stp} {s : Stp} (h : s.op ≠ 5) : mdL no (ss ++ [s]) = mdL no ss := by
  unfold mdL
  apply List.map_congr_left
  intro d _
  rw [cnt_not h]
theorem mdL_out {no d : Nat} {ss : List Stp} {s : Stp} (h : s.op = 5) (hd : s.dst = d) : (mdL no ss).set d true = mdL no (ss ++ [s]) := by
  apply List.ext_getElem?
  intro i
  rw [List.getElem?_set]
  by_cases hi : i < no
  · rw [mdL_get hi, mdL_len]
    by_cases e : d = i
    · subst e
      rw [if_pos rfl, if_pos hi, mdL_get hi, cnt_out h hd]
      simp
    · rw [if_neg e, mdL_get hi, cnt_other (by omega)]
  · rw [List.getElem?_eq_none (by rw [mdL_len]; omega), List.getElem?_eq_none (by rw [mdL_len]; omega)]
    split
    · rw [if_neg (by rw [mdL_len]; omega)]
    · rfl
theorem mdL_all {no : Nat} {ss : List Stp} : false ∈ mdL no ss ↔ ∃ d, d < no ∧ cntO ss d = 0 := by
  simp only [mdL, List.mem_map, List.mem_range, decide_eq_false_iff_not, Nat.not_le]
  constructor
  · rintro ⟨d, h1, h2⟩; exact ⟨d, h1, by omega⟩
  · rintro ⟨d, h1, h2⟩; exact ⟨d, h1, by omega⟩
set_option maxRecDepth 100000 in
set_option maxHeartbeats 8000000 in
theorem stepsFit_F (ia oa sa : Option Addr) (il ic ol oc sl sc : Nat) (ins outs : List Int) (rg : Int) (ss : List Stp) (w : World) (hP : PrgW w ia oa sa il ic ol oc sl sc ins outs ss) (hol : ol ≤ 32) (hsl : sl ≤ 4096) :
    Calls Tryd.prog 42 #[.agg #[.slice ia il ic, .slice oa ol oc, .int .i64 rg, .slice sa sl sc]] w fun e w' => e = .returned (.bool (fitB il ol rg ss)) ∧ Below w.heap.size w w' := by
  obtain ⟨d, hd⟩ : ∃ d, d = fitB il ol rg ss := ⟨_, rfl⟩
  have HY : Hid (FitA il ol rg ss → d = true) := fun h => hd.trans (fitB_yes h)
  have HN : Hid (¬ FitA il ol rg ss → d = false) := fun h => hd.trans (fitB_no h)
  rw [← hd]
  clear hd
  have HSL : Hid (sl = ss.length) := hP.esl
  have HS : Hid (StpW w sa ss) := hP.S
  have hsc := hP.csl
  clear hP
  have hmk := fun u : World => run_makeB9 ol (by omega) u
  have HA : Holds (((w.alloc (.cells #[.slice ia il ic, .slice oa ol oc, .int .i64 rg, .slice sa sl sc] 25)).alloc (.cells #[.int .i64 il, .int .i64 ol, .int .i64 rg] 121)).alloc (.cells (visB (List.replicate ol false)) 4)) [(w.heap.size + 1 + 1, .cells (visB (List.replicate ol false)) 4), (w.heap.size + 1, .cells #[.int .i64 il, .int .i64 ol, .int .i64 rg] 121), (w.heap.size, .cells #[.slice ia il ic, .slice oa ol oc, .int .i64 rg, .slice sa sl sc] 25)] := by
    have h := holds_new (holds_new (holds_new (holds_nil w) #[.slice ia il ic, .slice oa ol oc, .int .i64 rg, .slice sa sl sc] 25) #[.int .i64 il, .int .i64 ol, .int .i64 rg] 121) (visB (List.replicate ol false)) 4
    simp only [World.size_alloc] at h
    exact h
  have HB0 : Hid (Below w.heap.size w (((w.alloc (.cells #[.slice ia il ic, .slice oa ol oc, .int .i64 rg, .slice sa sl sc] 25)).alloc (.cells #[.int .i64 il, .int .i64 ol, .int .i64 rg] 121)).alloc (.cells (visB (List.replicate ol false)) 4))) := (((Below.refl _ w).alloc (Nat.le_refl _) _).alloc (by simp) _).alloc (by simp; omega) _
  have HA0 : Hid _ := HA
  clear HA
  go_enter Tryd.func42, Tryd.ntmps42
  go_wp2
  clear hmk
  go_loopw [25] (fun i wr => ∃ j : Nat, j ≤ sl ∧ i = .int .i64 j ∧ Below w.heap.size w wr ∧ Holds wr [(w.heap.size + 1 + 1, .cells (visB (mdL ol (ss.take j))) 4), (w.heap.size + 1, .cells #[.int .i64 il, .int .i64 ol, .int .i64 rg] 121), (w.heap.size, .cells #[.slice ia il ic, .slice oa ol oc, .int .i64 rg, .slice sa sl sc] 25)] ∧
    (∀ s ∈ ss.take j, OkS il ol rg s) ∧ ∀ d : Nat, d < ol → cntO (ss.take j) d ≤ 1) (fun i _ => sl - (intOf i).toNat)
  case atStart => exact ⟨0, by omega, rfl, HB0.out, by rw [List.take_zero, mdL_nil]; exact HA0.out, fun s h => (by rw [List.take_zero] at h; cases h), fun d _ => by rw [List.take_zero]; exact Nat.zero_le _⟩
  case round =>
    obtain ⟨j, hj, rfl, hb, hh, hok, hcnt⟩ := hrel
    have HB : Hid (Below w.heap.size w wr) := hb
    have HH : Hid _ := hh
    have HOK : Hid (∀ s ∈ ss.take j, OkS il ol rg s) := hok
    have HCN : Hid (∀ d : Nat, d < ol → cntO (ss.take j) d ≤ 1) := hcnt
    clear hb hh hok hcnt
    by_cases hlt : j < sl
    · have hjs : j < ss.length := by rw [← HSL.out]; exact hlt
      obtain ⟨b, off, rfl, hc⟩ := stpW_get (stpW_below HS.out HB.out) hjs
      obtain ⟨c0, c1, c2, c3⟩ := hc j hjs
      obtain ⟨⟨op, dst, src, c⟩, hs⟩ : ∃ s, ss[j] = s := ⟨_, rfl⟩
      rw [hs] at c0 c1 c2 c3
      simp only at c0 c1 c2 c3
      have hget : ss[j]? = some ⟨op, dst, src, c⟩ := by rw [List.getElem?_eq_getElem hjs, hs]
      have htk : ss.take (j + 1) = ss.take j ++ [⟨op, dst, src, c⟩] := by rw [List.take_add_one, hget]; rfl
      have HTK : Hid (ss.take (j + 1) = ss.take j ++ [⟨op, dst, src, c⟩]) := htk
      have HMEM : Hid (⟨op, dst, src, c⟩ ∈ ss) := List.mem_of_getElem? hget
      clear hc hs hget htk hjs
      obtain ⟨cv, hcv⟩ : ∃ cv : Int, cv = (c.toNat : Int) := ⟨_, rfl⟩
      rw [← hcv] at c3
      have HCV : Hid (cv = (c.toNat : Int)) := hcv
      clear hcv
      have HB1 : Hid _ := HB.out.alloc HB.out.size (.cells #[.int .i64 op, .int .i64 dst, .int .i64 src, .int .u8 cv] 48)
      have HH1 : Hid _ := holds_new HH.out #[.int .i64 op, .int .i64 dst, .int .i64 src, .int .u8 cv] 48
      by_cases hop : 1 ≤ op ∧ op ≤ 5
      rotate_left
      · have HF : Hid (d = false) := HN.out (fun h => hop (by have := h.1 _ HMEM.out; unfold OkS at this; simp only at this; omega))
        have HO0 : Hid (okN op = false) := decide_eq_false hop
        have HO1 : Hid (opcN op = #[.string ⟨#[]⟩, .bool false, .bool false, .bool false, .bool false, .bool false, .nilFunc, .nilFunc]) := by
          show _ = _
          unfold opcN; rw [if_neg (by omega), if_neg (by omega), if_neg (by omega), if_neg (by omega), if_neg (by omega)]; rfl
        clear hop
        go_wp2_with fail
        refine Calls.mono (find_F op _) ?_
        rw [HO0.out, HO1.out]
        rintro e w2 ⟨rfl, hb2⟩
        have HB2 : Hid (Below w.heap.size w w2) := HB1.out.trans (hb2.mono HB1.out.size)
        clear hb2
        go_wp2
        go_ret
        exact ⟨by rw [HF.out]; rfl, HB2.out.alloc HB2.out.size _⟩
      obtain ⟨s, f, so, an, as9, ou, n, m, hO, hmm⟩ := op_some hop
      clear hmm
      have HO0 : Hid (okN op = true) := decide_eq_true hop
      have HO1 : Hid _ := hO.cells
      have HOU : Hid (ou = decide (op = 5)) := hO.ou
      have HFT : Hid _ := hO.fits il ol rg dst src c
      have hen := hO.en
      obtain ⟨k, hk⟩ : ∃ k, k = okSB il ol rg ⟨op, dst, src, c⟩ := ⟨_, rfl⟩
      have HK : Hid (k = okSB il ol rg ⟨op, dst, src, c⟩) := hk
      rw [← hk, ← HCV.out] at HFT
      clear hO hk
      go_wp2_with fail
      refine Calls.mono (find_F op _) ?_
      rw [HO0.out, HO1.out]
      rintro e w2 ⟨rfl, hb2⟩
      have HB2 : Hid (Below w.heap.size w w2) := HB1.out.trans (hb2.mono HB1.out.size)
      have HH2 : Hid _ := holds_later HH1.out hb2
      have hz2 : wr.heap.size < w2.heap.size := ltHeap (holds_at HH2.out 0 rfl)
      have HH3 : Hid _ := holds_new HH2.out #[.string s, .bool f, .bool so, .bool an, .bool as9, .bool ou, .func (.func n) #[] #[], .func (.func m) #[] #[]] 92
      have e0 := cellAt (holds_at HH3.out 3 rfl) 0 _ rfl
      have e1 := cellAt (holds_at HH3.out 3 rfl) 1 _ rfl
      have e2 := cellAt (holds_at HH3.out 3 rfl) 2 _ rfl
      have s0 := cellAt (holds_at HH3.out 1 rfl) 0 _ rfl
      have s1 := cellAt (holds_at HH3.out 1 rfl) 1 _ rfl
      have s2 := cellAt (holds_at HH3.out 1 rfl) 2 _ rfl
      have s3 := cellAt (holds_at HH3.out 1 rfl) 3 _ rfl
      clear hb2
      go_wp2_with fail
      refine Calls.mono (HFT.out _) ?_
      clear hen
      rintro e w3 ⟨rfl, hb3⟩
      have HB3 : Hid (Below w.heap.size w w3) := (HB2.out.alloc HB2.out.size _).trans (hb3.mono (by have := HB2.out.size; simp; omega))
      have HH4 : Hid _ := holds_later HH3.out hb3
      have hz3 : w2.heap.size < w3.heap.size := ltHeap (holds_at HH4.out 0 rfl)
      clear hb3 e0 e1 e2 s0 s1 s2 s3
      have o5 := cellAt (holds_at HH4.out 0 rfl) 5 _ rfl
      have s1 := cellAt (holds_at HH4.out 1 rfl) 1 _ rfl
      cases k
      · have HF : Hid (d = false) := HN.out (fun h => by
          have := h.1 _ HMEM.out
          rw [okSB_yes this] at HK
          exact absurd HK.out (by decide))
        go_wp2
        go_ret
        exact ⟨by rw [HF.out]; rfl, HB3.out⟩
      have HOKS : Hid (OkS il ol rg ⟨op, dst, src, c⟩) := by
        by_cases h : OkS il ol rg ⟨op, dst, src, c⟩
        · exact h
        · rw [okSB_no h] at HK; exact absurd HK.out (by decide)
      have HNX : Hid (∀ s ∈ ss.take (j + 1), OkS il ol rg s) := fun s hm => by
        rw [HTK.out, List.mem_append] at hm
        rcases hm with hm | hm
        · exact HOK.out s hm
        · rw [List.mem_singleton] at hm; subst hm; exact HOKS.out
      by_cases hop5 : op = 5
      rotate_left
      · have e5 : ou = false := by rw [HOU.out]; exact decide_eq_false hop5
        subst e5
        have HM9 : Hid (mdL ol (ss.take (j + 1)) = mdL ol (ss.take j)) := by show _ = _; rw [HTK.out, mdL_not hop5]
        have HC9 : Hid (∀ d : Nat, d < ol → cntO (ss.take (j + 1)) d ≤ 1) := fun q hq => by rw [HTK.out, cnt_not hop5]; exact HCN.out q hq
        clear hop5
        go_wp2
        exact ⟨⟨j + 1, by omega, by go_num, HB3.out, by rw [HM9.out]; exact fun i p hi => HH4.out (i + 2) p hi, HNX.out, HC9.out⟩, by simp [intOf]; omega⟩
      have e5 : ou = true := by rw [HOU.out]; exact decide_eq_true hop5
      subst e5
      have hdst : 0 ≤ dst ∧ dst < ol := by have := HOKS.out; unfold OkS at this; simp only at this; omega
      obtain ⟨q, rfl⟩ := Int.eq_ofNat_of_zero_le hdst.1
      have hq : q < ol := by omega
      have hmd := cellAt (holds_at HH4.out 2 rfl) q _ (visB_get (mdL_get hq))
      have hfz : w3.frozen? ⟨w.heap.size + 1 + 1, q, none⟩ = false := frozen_of_row _ _ _ _ _ (holds_at HH4.out 2 rfl)
      have HC5 : Hid (cntO (ss.take (j + 1)) q = cntO (ss.take j) q + 1) := by show _ = _; rw [HTK.out, cnt_out hop5 rfl]
      by_cases hc1 : 1 ≤ cntO (ss.take j) q
      · rw [decide_eq_true hc1] at hmd
        have HF : Hid (d = false) := HN.out (fun h => by
          have h1 := h.2 q hq
          have h2 := cnt_take ss (j + 1) q
          have h3 := HC5.out
          omega)
        clear hc1 hop5 hdst
        go_wp2
        go_ret
        exact ⟨by rw [HF.out]; rfl, HB3.out⟩
      · rw [decide_eq_false hc1] at hmd
        have HC9 : Hid (∀ d : Nat, d < ol → cntO (ss.take (j + 1)) d ≤ 1) := fun x hx => by
          by_cases e : x = q
          · subst e; rw [HC5.out]; omega
          · rw [HTK.out, cnt_other (by simp only; omega)]; exact HCN.out x hx
        have HS4 : Hid ((w3.setCell ⟨w.heap.size + 1 + 1, q, none⟩ (.bool true)).heap[w.heap.size + 1 + 1]? = some (.cells (visB (mdL ol (ss.take (j + 1)))) 4 (0, 0))) := by
          show _ = _
          rw [HTK.out, ← mdL_out hop5 rfl, ← visB_set]
          exact heap_setCell_same _ _ _ _ _ _ (holds_at HH4.out 2 rfl)
        have HS5 : Hid _ := (heap_setCell_other w3 ⟨w.heap.size + 1 + 1, q, none⟩ (w.heap.size + 1) (.bool true) (by show w.heap.size + 1 ≠ w.heap.size + 1 + 1; omega)).trans (holds_at HH4.out 3 rfl)
        have HS6 : Hid _ := (heap_setCell_other w3 ⟨w.heap.size + 1 + 1, q, none⟩ (w.heap.size) (.bool true) (by show w.heap.size ≠ w.heap.size + 1 + 1; omega)).trans (holds_at HH4.out 4 rfl)
        have HB6 : Hid _ := HB3.out.setCell (p := ⟨w.heap.size + 1 + 1, q, none⟩) (by show w.heap.size ≤ w.heap.size + 1 + 1; omega) (.bool true)
        clear hc1 hop5 hdst
        go_wp2
        exact ⟨⟨j + 1, by omega, by go_num, HB6.out, holds_cons (holds_cons (holds_cons (holds_nil _) HS6.out) HS5.out) HS4.out, HNX.out, HC9.out⟩, by simp [intOf]; omega⟩
    · obtain rfl : j = sl := by omega
      have hfull : ss.take j = ss := by rw [HSL.out, List.take_length]
      have hok := HOK.out
      have hcn := HCN.out
      have hh := HH.out
      rw [hfull] at hok hcn hh
      have HC : Hid _ := containsB_F (w.heap.size + 1 + 1) ol (mdL ol ss) wr (mdL_len _ _).symm (by omega) (holds_at hh 0 rfl)
      have HD : Hid (d = !decide (false ∈ mdL ol ss)) := by
        show _ = _
        by_cases hz : false ∈ mdL ol ss
        · rw [decide_eq_true hz]
          obtain ⟨q, hq, h0⟩ := mdL_all.1 hz
          exact HN.out (fun h => by have := h.2 q hq; omega)
        · rw [decide_eq_false hz]
          exact HY.out ⟨hok, fun q hq => by
            have h1 := hcn q hq
            rcases Nat.lt_or_ge (cntO ss q) 1 with h2 | h2
            · exact absurd (mdL_all.2 ⟨q, hq, by omega⟩) hz
            · omega⟩
      clear hfull hok hcn hh
      go_wp2_with fail
      refine Calls.mono HC.out ?_
      rintro e w2 ⟨rfl, rfl⟩
      go_wp2
      go_ret
      exact ⟨by rw [HD.out]; rfl, HB.out⟩
end Go.Proofs.YtanmgpgiepkogaaDoor

/- Rows of elements behind one block of slices: what elimination holds in memory. -/
namespace Go.Proofs.YtanmgpgiepkogaaDoor
open Go.RowKit Gf
set_option linter.unusedVariables false
set_option maxRecDepth 20000
/-- n slices of c elements each -/
def slF (n c : Nat) (f : Nat → Option Addr × Nat) : Array Value := ((List.range n).map fun k => Value.slice (f k).1 c (f k).2).toArray
theorem slF_size (n c : Nat) (f : Nat → Option Addr × Nat) : (slF n c f).size = n := by simp [slF]
theorem slF_at {n c k : Nat} {f : Nat → Option Addr × Nat} (h : k < n) : (slF n c f)[k]? = some (.slice (f k).1 c (f k).2) := by simp [slF, h]
theorem slF_kind {n c k : Nat} {f : Nat → Option Addr × Nat} {v : Value} (h : (slF n c f)[k]? = some v) : ∃ a l m, v = .slice a l m := by
  simp only [slF, List.getElem?_toArray, List.getElem?_map, Option.map_eq_some_iff] at h
  obtain ⟨x, _, rfl⟩ := h
  exact ⟨_, _, _, rfl⟩
theorem slF_set {n c k : Nat} {f : Nat → Option Addr × Nat} (a : Option Addr) (m : Nat) (h : k < n) : (slF n c f).setIfInBounds k (.slice a c m) = slF n c (fun x => if x = k then (a, m) else f x) := by
  apply Array.ext_getElem?
  intro i
  rw [Array.getElem?_setIfInBounds]
  by_cases hi : i < n
  · rw [slF_at hi, slF_at hi, slF_size]
    by_cases e : k = i
    · subst e; simp [hi]
    · simp [e, show ¬ i = k from fun h => e h.symm]
  · rw [Array.getElem?_eq_none (by rw [slF_size]; omega), Array.getElem?_eq_none (by rw [slF_size]; omega), slF_size]
    simp; omega
theorem slF_congr {n c : Nat} {f g : Nat → Option Addr × Nat} (h : ∀ k, k < n → f k = g k) : slF n c f = slF n c g := by
  simp only [slF]; congr 1
  apply List.map_congr_left
  intro k hk
  rw [h k (List.mem_range.1 hk)]
/-- a list of elements in a block of elements -/
def Row8T (w : World) (a : Option Addr) (xs : List F) : Prop :=
  xs = [] ∨ ∃ b off cs fr, a = some ⟨b, off, none⟩ ∧ w.heap[b]? = some (.cells cs 5 fr) ∧ ∀ j, j < xs.length → w.cell? ⟨b, off + j, none⟩ = some (.int .u8 ((at8 xs j).toNat : Int))
theorem Row8T.row8 {w : World} {a : Option Addr} {xs : List F} (h : Row8T w a xs) : Row8 w a xs := h.imp id fun ⟨b, off, _, _, e, _, h⟩ => ⟨b, off, e, h⟩
theorem row8T_own {w : World} {g : Nat} {xs : List F} {fr : Nat × Nat} (h : w.heap[g]? = some (.cells (vfs xs) 5 fr)) : Row8T w (some ⟨g, 0, none⟩) xs :=
  .inr ⟨g, 0, _, _, rfl, h, fun j hj => by rw [Nat.zero_add]; exact cellAt h j _ (vfs_get _ _ hj)⟩
/-- the block of this number, if there is one, holds no elements -/
def NoElems (w : World) (r : Option Nat) : Prop := ∀ g, r = some g → ∃ cs t fr, w.heap[g]? = some (.cells cs t fr) ∧ t ≠ 5
theorem noElems_some {w : World} {g : Nat} {cs : Array Value} {t : TypeId} {fr : Nat × Nat} (h : w.heap[g]? = some (.cells cs t fr)) (ht : t ≠ 5) : NoElems w (some g) := fun g' e => by cases e; exact ⟨_, _, _, h, ht⟩
theorem noElems_own {w : World} {B size n : Nat} {v : Value} {e : TypeId} {xs : List Value} (ho : w.ownsRow B e size v n xs) (he : e ≠ 5) : NoElems w v.ownBlock := fun g hg => by
  rcases ho.2 with ⟨rfl, _⟩ | ⟨g', cap, cur, rfl, _, h, _⟩
  · cases hg
  · obtain rfl : g' = g := by simpa [Value.ownBlock] using hg
    exact ⟨_, _, _, h, he⟩
theorem row8T_grown {w w' : World} {r : Option Nat} {a : Option Addr} {xs : List F} (h : Row8T w a xs) (hg : w.grownBy w' r) (hr : NoElems w r) : Row8T w' a xs := by
  rcases h with e | ⟨b, off, cs, fr, e, hb, h⟩
  · exact .inl e
  · have hne : some b ≠ r := by
      intro e2
      obtain ⟨cs2, t2, fr2, h2, h3⟩ := hr b e2.symm
      rw [hb] at h2
      cases h2
      exact h3 rfl
    have hblk := hg.block b (ltHeap hb) hne
    refine .inr ⟨b, off, cs, fr, e, hblk.trans hb, fun j hj => ?_⟩
    rw [← h j hj]
    simp only [World.cell?, hblk]
theorem row8T_below {w w' : World} {a : Option Addr} {xs : List F} (h : Row8T w a xs) (hb : Below w.heap.size w w') : Row8T w' a xs :=
  h.imp id fun ⟨b, off, cs, fr, e, h1, h⟩ => ⟨b, off, cs, fr, e, heap_later h1 hb, fun j hj => cell_later hb (h j hj)⟩
theorem row8_other {w w' : World} {M n c : Nat} {f : Nat → Option Addr × Nat} {fr : Nat × Nat} {a : Option Addr} {xs : List F} (hM : w.heap[M]? = some (.cells (slF n c f) 31 fr)) (hg : w.grownBy w' (some M)) (h : Row8T w a xs) : Row8T w' a xs :=
  row8T_grown h hg (noElems_some hM (by decide))
structure RowsW (w : World) (M n c : Nat) (f : Nat → Option Addr × Nat) (R : Mt) : Prop where
  blk : w.heap[M]? = some (.cells (slF n c f) 31 (0, 0))
  row : ∀ k, k < n → Row8T w (f k).1 (rowF c (R k))
  cap : ∀ k, k < n → c ≤ (f k).2
  nil : ∀ k, k < n → (f k).1 = none → (f k).2 = 0
theorem RowsW.congr {w : World} {M n c : Nat} {f : Nat → Option Addr × Nat} {R R' : Mt} (h : RowsW w M n c f R) (e : ∀ k, k < n → ∀ j, j < c → R k j = R' k j) : RowsW w M n c f R' :=
  ⟨h.blk, fun k hk => by rw [← rowF_congr (e k hk)]; exact h.row k hk, h.cap, h.nil⟩
theorem RowsW.below {w w' : World} {M n c : Nat} {f : Nat → Option Addr × Nat} {R : Mt} (h : RowsW w M n c f R) (hb : Below w.heap.size w w') : RowsW w' M n c f R :=
  ⟨heap_later h.blk hb, fun k hk => row8T_below (h.row k hk) hb, h.cap, h.nil⟩
theorem RowsW.drew {w : World} {M n c : Nat} {f : Nat → Option Addr × Nat} {R : Mt} (h : RowsW w M n c f R) : RowsW w.drew M n c f R := ⟨h.blk, h.row, h.cap, h.nil⟩
theorem RowsW.put {w : World} {M n c : Nat} {f : Nat → Option Addr × Nat} {R : Mt} (h : RowsW w M n c f R) {k : Nat} (hk : k < n) {a : Option Addr} {m : Nat} {v : Nat → F} (ha : Row8T w a (rowF c v)) (hm : c ≤ m) (hn : a = none → m = 0) :
    RowsW (w.setCell ⟨M, k, none⟩ (.slice a c m)) M n c (fun x => if x = k then (a, m) else f x) (fun x => if x = k then v else R x) := by
  have hg : w.grownBy (w.setCell ⟨M, k, none⟩ (.slice a c m)) (some M) := grownBy_setCell (World.grownBy.refl _ _) _
  refine ⟨?_, fun x hx => ?_, fun x hx => ?_, fun x hx => ?_⟩
  · rw [heap_setCell_same _ _ _ _ _ _ h.blk, slF_set _ _ hk]
  · by_cases e : x = k
    · simp only [e, if_true]; exact row8_other h.blk hg ha
    · simp only [e, if_false]; exact row8_other h.blk hg (h.row x hx)
  · by_cases e : x = k
    · simp only [e, if_true]; exact hm
    · simp only [e, if_false]; exact h.cap x hx
  · by_cases e : x = k
    · simp only [e, if_true]; exact hn
    · simp only [e, if_false]; exact h.nil x hx
theorem scaled_row (x : F) (c : Nat) (f g : Nat → F) : scaled x (rowF c f) (rowF c g) = rowF c (fun j => ga (f j) (gm x (g j))) :=
  rowF_eq (by rw [scaled_len, rowF_len, rowF_len]; omega) fun j hj => by rw [at8_scaled, at8_rowF hj, at8_rowF hj]
theorem scaled_none (x : F) (c : Nat) (g : Nat → F) : scaled x [] (rowF c g) = rowF c (fun j => gm x (g j)) :=
  rowF_eq (by rw [scaled_len, rowF_len]; simp) fun j hj => by rw [at8_scaled, at8_nil, at8_rowF hj, F.zero_add]
theorem scale_R (x : F) (b : Option Addr) (c cb : Nat) (g : Nat → F) (W : World) (hc : c ≤ 128) (hy : Row8 W b (rowF c g)) :
    Calls Tryd.prog 100 #[.int .u8 x.toNat, .slice b c cb] W fun e w' => ∃ q, e = .returned (.slice (some ⟨q, 0, none⟩) c c) ∧ Below W.heap.size W w' ∧ Row8T w' (some ⟨q, 0, none⟩) (rowF c (fun j => gm x (g j))) ∧ W.heap.size ≤ q :=
  (scale_B x b c cb (rowF c g) _ W.heap.size W W (Below.refl _ _) (Nat.le_refl _) rfl (rowF_len _ _).symm (by omega) hy).mono fun e w' ⟨q, he, h3, h1, _, h2⟩ => by
    rw [scaled_none] at he h2
    rw [rowF_len] at he
    exact ⟨q, he, h1, row8T_own h2, h3⟩
theorem addScaled_R (x : F) (a b : Option Addr) (c ca cb : Nat) (f g : Nat → F) (W : World) (hc : c ≤ 128) (hx : Row8 W a (rowF c f)) (hy : Row8 W b (rowF c g)) :
    Calls Tryd.prog 101 #[.slice a c ca, .int .u8 x.toNat, .slice b c cb] W fun e w' => ∃ q, e = .returned (.slice (some ⟨q, 0, none⟩) c c) ∧ Below W.heap.size W w' ∧ Row8T w' (some ⟨q, 0, none⟩) (rowF c (fun j => ga (f j) (gm x (g j)))) ∧ W.heap.size ≤ q :=
  (addScaled_B x a b c ca c cb (rowF c f) (rowF c g) _ W.heap.size W W (Below.refl _ _) (Nat.le_refl _) rfl (rowF_len _ _).symm (rowF_len _ _).symm (by omega) (by omega) hx hy).mono fun e w' ⟨q, he, h3, h1, _, h2⟩ => by
    rw [scaled_row] at he h2
    rw [rowF_len] at he
    exact ⟨q, he, h1, row8T_own h2, h3⟩
theorem RowsW.own {w w' : World} {M n c B size m : Nat} {f : Nat → Option Addr × Nat} {R : Mt} {v : Value} {e : TypeId} {xs : List Value} (h : RowsW w M n c f R) (ho : w.ownsRow B e size v m xs) (he : e ≠ 5) (he2 : 31 ≠ e) (hg : w.grownBy w' v.ownBlock) : RowsW w' M n c f R :=
  ⟨own_other ho hg h.blk he2, fun k hk => row8T_grown (h.row k hk) hg (noElems_own ho he), h.cap, h.nil⟩
/-- a list of one's own of another kind stays when the rows' block turns -/
theorem own_rows {w w' : World} {M n c B size m : Nat} {f : Nat → Option Addr × Nat} {fr : Nat × Nat} {v : Value} {e : TypeId} {xs : List Value} (ho : w.ownsRow B e size v m xs) (hM : w.heap[M]? = some (.cells (slF n c f) 31 fr)) (he : 31 ≠ e) (hg : w.grownBy w' (some M)) : w'.ownsRow B e size v m xs :=
  ho.kept hg (by
    rcases ho.2 with ⟨rfl, _⟩ | ⟨g, cap, cur, rfl, _, h, _⟩
    · exact .inl rfl
    · refine .inr fun e2 => ?_
      have e3 : g = M := by simpa [Value.ownBlock] using e2
      rw [e3, hM] at h
      cases h
      exact he rfl)
theorem grown_trans {a b c : World} {r s : Option Nat} (h : a.grownBy b r) (k : b.grownBy c s) (hs : ∀ j, j < a.heap.size → some j ≠ r → some j ≠ s) : a.grownBy c r :=
  ⟨k.os.trans h.os, k.tape.trans h.tape, k.output.trans h.output, Nat.le_trans h.size k.size, fun j hj hne => (k.block j (Nat.lt_of_lt_of_le hj h.size) (hs j hj hne)).trans (h.block j hj hne)⟩
theorem own_lower {w : World} {B B' size n : Nat} {v : Value} {e : TypeId} {xs : List Value} (h : w.ownsRow B e size v n xs) (hb : B' ≤ B) : w.ownsRow B' e size v n xs :=
  ⟨h.1, h.2.imp id fun ⟨g, cap, cur, h1, h2, h3⟩ => ⟨g, cap, cur, h1, Nat.le_trans hb h2, h3⟩⟩
theorem own_shape {w : World} {B n : Nat} {v : Value} {e : TypeId} {xs : List Value} (ho : w.ownsRow B e 1 v n xs) : ∃ a cap, v = .slice a n cap := by
  rcases ho.2 with ⟨rfl, e⟩ | ⟨g, cap, cur, rfl, h2⟩
  · exact ⟨none, 0, by rw [e]⟩
  · exact ⟨_, _, rfl⟩
/-- what is one's own lies behind all that was there -/
theorem grown_own {w w1 w2 : World} {r : Option Nat} {size n : Nat} {v : Value} {e : TypeId} {xs : List Value} (h : w.grownBy w1 r) (ho : w1.ownsRow w.heap.size e size v n xs) (hg : w1.grownBy w2 v.ownBlock) : w.grownBy w2 r :=
  ⟨hg.os.trans h.os, hg.tape.trans h.tape, hg.output.trans h.output, Nat.le_trans h.size hg.size, fun k hk hne => (hg.block k (Nat.lt_of_lt_of_le hk h.size) (fun e1 => by have := (ho.lt k e1.symm).1; omega)).trans (h.block k hk hne)⟩
/-- a cell of a row -/
theorem RowsW.get {w : World} {M n c : Nat} {f : Nat → Option Addr × Nat} {R : Mt} (h : RowsW w M n c f R) {k j : Nat} (hk : k < n) (hj : j < c) :
    ∃ b off m, f k = (some ⟨b, off, none⟩, m) ∧ c ≤ m ∧ b ≠ M ∧ b < w.heap.size ∧ w.cell? ⟨M, k, none⟩ = some (.slice (some ⟨b, off, none⟩) c m) ∧ w.cell? ⟨b, off + j, none⟩ = some (.int .u8 ((R k j).toNat : Int)) := by
  obtain ⟨b, off, e, hb, hc⟩ := row8_cell (h.row k hk).row8 (j := j) (by rw [rowF_len]; exact hj)
  have h2 := hc j (by rw [rowF_len]; exact hj)
  rw [at8_rowF hj] at h2
  have h1 := cellAt h.blk k _ (slF_at hk)
  rw [e] at h1
  refine ⟨b, off, (f k).2, by rw [← e], h.cap k hk, fun e => ?_, hb, h1, h2⟩
  rw [e, cell_of_row w M _ _ _ _ h.blk] at h2
  obtain ⟨_, _, _, h3⟩ := slF_kind h2
  cases h3
end Go.Proofs.YtanmgpgiepkogaaDoor

/- What each operation of package prog's Meaning does to its rows. -/
namespace Go.Proofs.YtanmgpgiepkogaaDoor
open Go.RowKit Gf
set_option linter.unusedVariables false
set_option maxRecDepth 20000
set_option linter.unusedSimpArgs false
def svO (n : Nat) (g : Nat → Option (Option Addr × Nat)) (d : Nat) : Value := match g d with | some p => .slice p.1 n p.2 | none => .slice none 0 0
def slO (no n : Nat) (g : Nat → Option (Option Addr × Nat)) : Array Value := ((List.range no).map (svO n g)).toArray
theorem slO_size (no n : Nat) (g : Nat → Option (Option Addr × Nat)) : (slO no n g).size = no := by simp [slO]
theorem slO_at {no n d : Nat} {g : Nat → Option (Option Addr × Nat)} (h : d < no) : (slO no n g)[d]? = some (svO n g d) := by simp [slO, h]
theorem slO_set {no n d : Nat} {g : Nat → Option (Option Addr × Nat)} (p : Option Addr × Nat) (h : d < no) : (slO no n g).setIfInBounds d (.slice p.1 n p.2) = slO no n (fun x => if x = d then some p else g x) := by
  apply Array.ext_getElem?
  intro i
  rw [Array.getElem?_setIfInBounds]
  by_cases hi : i < no
  · rw [slO_at hi, slO_at hi, slO_size]
    by_cases e : d = i
    · subst e; simp [hi, svO]
    · simp [e, svO, show ¬ i = d from fun h => e h.symm]
  · rw [Array.getElem?_eq_none (by rw [slO_size]; omega), Array.getElem?_eq_none (by rw [slO_size]; omega), slO_size]
    simp; omega
/-- the machine of Meaning in memory -/
structure CmbW (B : Nat) (w : World) (cb M Q n rg no : Nat) (f : Nat → Option Addr × Nat) (g : Nat → Option (Option Addr × Nat)) (R O : Regs) : Prop where
  blk : w.heap[cb]? = some (.cells #[.int .i64 n, .slice (some ⟨M, 0, none⟩) rg rg, .slice (some ⟨Q, 0, none⟩) no no] 87 (0, 0))
  regs : RowsW w M rg n f (fun k => R (k : Int))
  outs : w.heap[Q]? = some (.cells (slO no n g) 31 (0, 0))
  out : ∀ d, d < no → ∀ p, g d = some p → Row8T w p.1 (rowF n (O (d : Int))) ∧ n ≤ p.2 ∧ (p.1 = none → p.2 = 0)
  hb : B ≤ cb
  hM : B ≤ M
  hQ : B ≤ Q
  hMQ : M ≠ Q
  hcM : cb ≠ M
  hcQ : cb ≠ Q
theorem CmbW.below {B : Nat} {w w' : World} {cb M Q n rg no : Nat} {f : Nat → Option Addr × Nat} {g : Nat → Option (Option Addr × Nat)} {R O : Regs} (h : CmbW B w cb M Q n rg no f g R O) (hb : Below w.heap.size w w') : CmbW B w' cb M Q n rg no f g R O :=
  { h with blk := heap_later h.blk hb, regs := h.regs.below hb, outs := heap_later h.outs hb, out := fun d hd p hp => ⟨row8T_below (h.out d hd p hp).1 hb, (h.out d hd p hp).2⟩ }
theorem CmbW.drew {B : Nat} {w : World} {cb M Q n rg no : Nat} {f : Nat → Option Addr × Nat} {g : Nat → Option (Option Addr × Nat)} {R O : Regs} (h : CmbW B w cb M Q n rg no f g R O) : CmbW B w.drew cb M Q n rg no f g R O :=
  { h with blk := h.blk, regs := h.regs.drew, outs := h.outs, out := h.out }
theorem CmbW.put {B : Nat} {w : World} {cb M Q n rg no : Nat} {f : Nat → Option Addr × Nat} {g : Nat → Option (Option Addr × Nat)} {R O : Regs} (h : CmbW B w cb M Q n rg no f g R O) {k : Nat} (hk : k < rg) {a : Option Addr} {m : Nat} {v : Nat → F} (ha : Row8T w a (rowF n v)) (hm : n ≤ m) (hn : a = none → m = 0) :
    CmbW B (w.setCell ⟨M, k, none⟩ (.slice a n m)) cb M Q n rg no (fun x => if x = k then (a, m) else f x) g (setR R k v) O := by
  have hg : w.grownBy (w.setCell ⟨M, k, none⟩ (.slice a n m)) (some M) := grownBy_setCell (World.grownBy.refl _ _) _
  refine { h with blk := ?_, regs := ?_, outs := ?_, out := fun d hd p hp => ⟨?_, (h.out d hd p hp).2⟩ }
  · exact (heap_setCell_other _ _ _ _ h.hcM).trans h.blk
  · refine (h.regs.put hk ha hm hn).congr fun x hx j hj => ?_
    simp only [setR]
    by_cases e : x = k
    · simp [e]
    · simp [e, show ¬ (x : Int) = (k : Int) by omega]
  · exact (heap_setCell_other _ _ _ _ (fun e => h.hMQ e.symm)).trans h.outs
  · exact row8_other h.regs.blk hg (h.out d hd p hp).1
theorem CmbW.putO {B : Nat} {w : World} {cb M Q n rg no : Nat} {f : Nat → Option Addr × Nat} {g : Nat → Option (Option Addr × Nat)} {R O : Regs} (h : CmbW B w cb M Q n rg no f g R O) {d k : Nat} (hd : d < no) (hk : k < rg) :
    CmbW B (w.setCell ⟨Q, d, none⟩ (.slice (f k).1 n (f k).2)) cb M Q n rg no f (fun x => if x = d then some (f k) else g x) R (setR O d (R k)) := by
  have hg : w.grownBy (w.setCell ⟨Q, d, none⟩ (.slice (f k).1 n (f k).2)) (some Q) := grownBy_setCell (World.grownBy.refl _ _) _
  have hne : NoElems w (some Q) := noElems_some h.outs (by decide)
  refine { h with blk := ?_, regs := ?_, outs := ?_, out := fun x hx p hp => ?_ }
  · exact (heap_setCell_other _ _ _ _ h.hcQ).trans h.blk
  · exact ⟨(heap_setCell_other _ _ _ _ h.hMQ).trans h.regs.blk, fun x hx => row8T_grown (h.regs.row x hx) hg hne, h.regs.cap, h.regs.nil⟩
  · rw [heap_setCell_same _ _ _ _ _ _ h.outs, slO_set (f k) hd]
  · by_cases e : x = d
    · subst e
      simp only [if_true, Option.some.injEq] at hp
      subst hp
      rw [setR_same]
      exact ⟨row8T_grown (h.regs.row k hk) hg hne, h.regs.cap k hk, h.regs.nil k hk⟩
    · simp only [e, if_false] at hp
      rw [setR_other (show (x : Int) ≠ (d : Int) by omega)]
      exact ⟨row8T_grown (h.out x hx p hp).1 hg hne, (h.out x hx p hp).2⟩
/-- a unit column: input number s of those that there are -/
def unX (s : Int) : Nat → F := fun b => if (b : Int) = s then 1 else 0
theorem zeros_rowF (n : Nat) : zeros n = rowF n (fun _ => 0) := by
  apply List.ext_getElem?
  intro i
  by_cases h : i < n <;> simp [zeros, rowF, h]
theorem zeros_set (n s : Nat) : (zeros n).set s 1 = rowF n (unX s) := by
  apply List.ext_getElem?
  intro i
  rw [List.getElem?_set]
  by_cases h : i < n
  · by_cases e : s = i
    · subst e; simp [zeros, rowF, unX, h]
    · simp [zeros, rowF, unX, h, e, show ¬ (i : Int) = (s : Int) by omega]
  · by_cases e : s = i
    · subst e; simp [zeros, rowF, h]
    · simp [zeros, rowF, h, e]
theorem nothing_F (cb n : Nat) (w : World) (hn : n ≤ 64) (hc : w.cell? ⟨cb, 0, none⟩ = some (.int .i64 n)) :
    Calls Tryd.prog 43 #[.pointer (some ⟨cb, 0, none⟩)] w fun e w' => e = .returned (.slice (some ⟨w.heap.size, 0, none⟩) n n) ∧ w' = w.alloc (.cells (vfs (zeros n)) 5) := by
  have hmk := run_make8 n (by omega) w
  go_enter Tryd.func43, Tryd.ntmps43
  go_wp2
  go_ret
  exact ⟨rfl, rfl⟩
set_option maxRecDepth 100000 in
set_option maxHeartbeats 4000000 in
theorem does_load (B cb M Q n rg no : Nat) (f : Nat → Option Addr × Nat) (g : Nat → Option (Option Addr × Nat)) (R O : Regs) (op : Int) (dst : Nat) (src : Nat) (cv : Int) (hd : dst < rg) (hs : src < n) (w : World) (hn : n ≤ 64) (hrg : rg ≤ 64) (hno : no ≤ 64) (hBw : B ≤ w.heap.size) (h : CmbW B w cb M Q n rg no f g R O) :
    Calls Tryd.prog 86 #[.pointer (some ⟨cb, 0, none⟩), .agg #[.int .i64 op, .int .i64 (dst : Int), .int .i64 (src : Int), .int .u8 cv]] w fun e w' => e = .returned (.tuple #[]) ∧ (∃ f' g', CmbW B w' cb M Q n rg no f' g' (setR R (dst : Int) (unX (src : Int))) (O) ∧ g' = g) ∧ Below B w w' := by
  have hb0 : Below w.heap.size w (w.alloc (.cells #[.int .i64 op, .int .i64 (dst : Int), .int .i64 (src : Int), .int .u8 cv] 48)) := (Below.refl _ _).alloc (Nat.le_refl _) _
  have h0 := h.below hb0
  have HC0 : Hid _ := cellAt h0.blk 0 _ rfl
  have HH : Hid (CmbW B w cb M Q n rg no f g R O) := h
  clear h h0 hb0
  go_enter Tryd.func86, Tryd.ntmps86
  go_wp2_with fail
  refine Calls.mono (nothing_F cb n _ hn HC0.out) ?_
  rintro e w1 ⟨rfl, hw1⟩
  have hA : Holds w1 [(w.heap.size + 1, .cells (vfs (zeros n)) 5), (w.heap.size, .cells #[.int .i64 op, .int .i64 (dst : Int), .int .i64 (src : Int), .int .u8 cv] 48)] := by
    rw [hw1]
    have h := holds_new (holds_new (holds_nil w) #[.int .i64 op, .int .i64 (dst : Int), .int .i64 (src : Int), .int .u8 cv] 48) (vfs (zeros n)) 5
    simp only [World.size_alloc] at h
    exact h
  have hB1 : Below w.heap.size w w1 := by rw [hw1]; exact ((Below.refl _ w).alloc (Nat.le_refl _) _).alloc (by simp) _
  have hz1 : w1.heap.size = w.heap.size + 2 := by rw [hw1]; simp
  rw [World.size_alloc]
  have c0 : w1.cell? ⟨w.heap.size + 1, src, none⟩ = some (.int .u8 0) := by
    have := cellAt (holds_at hA 0 rfl) src _ (vfs_get (zeros n) src (by rw [zeros_len]; exact hs))
    rw [at8_zeros] at this
    exact this
  have d0 : w1.frozen? ⟨w.heap.size + 1, src, none⟩ = false := frozen_of_row _ _ _ _ _ (holds_at hA 0 rfl)
  have s2 := cellAt (holds_at hA 1 rfl) 2 _ rfl
  obtain ⟨W, hW⟩ : ∃ W, W = w1.setCell ⟨w.heap.size + 1, src, none⟩ (.int .u8 1) := ⟨_, rfl⟩
  have hrow : W.heap[w.heap.size + 1]? = some (.cells (vfs (rowF n (unX (src : Int)))) 5 (0, 0)) := by
    rw [hW, heap_setCell_same _ _ _ _ _ _ (holds_at hA 0 rfl), ← zeros_set]
    have := vfs_set (zeros n) src 1
    rw [← this]; rfl
  have hbox : W.heap[w.heap.size]? = some (.cells #[.int .i64 op, .int .i64 (dst : Int), .int .i64 (src : Int), .int .u8 cv] 48 (0, 0)) := by
    rw [hW]; exact (heap_setCell_other _ _ _ _ (by show w.heap.size ≠ w.heap.size + 1; omega)).trans (holds_at hA 1 rfl)
  have hBW : Below w.heap.size w W := by rw [hW]; exact hB1.setCell (p := ⟨w.heap.size + 1, src, none⟩) (by show w.heap.size ≤ w.heap.size + 1; omega) _
  have hCW := HH.out.below hBW
  have HROW : Hid _ := hrow
  have HBOX : Hid _ := hbox
  have HBW : Hid _ := hBW
  have HCW : Hid _ := hCW
  have HWE : Hid _ := hW
  clear hA hB1 hw1 hrow hbox hBW hCW hW hz1
  go_wp2
  rw [← HWE.out]
  clear c0 d0 s2 HWE
  have k1 := cellAt HCW.out.blk 1 _ rfl
  have k2 := cellAt HBOX.out 1 _ rfl
  have k3 := cellAt HCW.out.regs.blk dst _ (slF_at hd)
  have k4 : W.frozen? ⟨M, dst, none⟩ = false := frozen_of_row _ _ _ _ _ HCW.out.regs.blk
  go_region
  have HP : Hid _ := HCW.out.drew.put hd (a := some ⟨w.heap.size + 1, 0, none⟩) (m := n) (v := unX (src : Int)) (row8T_own (w := W.drew) HROW.out) (Nat.le_refl _) (fun e => by cases e)
  have HPB : Hid _ := ((HBW.out.mono hBw).drew).setCell (p := ⟨M, dst, none⟩) HCW.out.hM (.slice (some ⟨w.heap.size + 1, 0, none⟩) n n)
  clear k1 k2 k3 k4
  go_wp2
  exact ⟨rfl, .tuple #[], by simp [results, Tryd.results86, go_sem], rfl, ⟨_, _, HP.out, rfl⟩, HPB.out⟩
set_option maxRecDepth 100000 in
set_option maxHeartbeats 4000000 in
theorem does_zero (B cb M Q n rg no : Nat) (f : Nat → Option Addr × Nat) (g : Nat → Option (Option Addr × Nat)) (R O : Regs) (op : Int) (dst : Nat) (src cv : Int) (hd : dst < rg) (w : World) (hn : n ≤ 64) (hrg : rg ≤ 64) (hno : no ≤ 64) (hBw : B ≤ w.heap.size) (h : CmbW B w cb M Q n rg no f g R O) :
    Calls Tryd.prog 88 #[.pointer (some ⟨cb, 0, none⟩), .agg #[.int .i64 op, .int .i64 (dst : Int), .int .i64 src, .int .u8 cv]] w fun e w' => e = .returned (.tuple #[]) ∧ (∃ f' g', CmbW B w' cb M Q n rg no f' g' (setR R (dst : Int) (fun _ => 0)) (O) ∧ g' = g) ∧ Below B w w' := by
  obtain ⟨W, hW⟩ : ∃ W, W = w.alloc (.cells #[.int .i64 op, .int .i64 (dst : Int), .int .i64 src, .int .u8 cv] 48) := ⟨_, rfl⟩
  have hBW : Below w.heap.size w W := by rw [hW]; exact (Below.refl _ _).alloc (Nat.le_refl _) _
  have hbox : W.heap[w.heap.size]? = some (.cells #[.int .i64 op, .int .i64 (dst : Int), .int .i64 src, .int .u8 cv] 48 (0, 0)) := by rw [hW]; exact heap_alloc_last _ _
  have HNE : Hid (w.heap.size ≠ M) := by have := ltHeap h.regs.blk; show _ ≠ _; omega
  have HCW : Hid _ := h.below hBW
  have HBOX : Hid _ := hbox
  have HBW : Hid _ := hBW
  have HWE : Hid _ := hW
  clear h hBW hbox hW
  have HK1 : Hid (∀ u, W.grownBy u (some M) → u.cell? ⟨cb, 1, none⟩ = some (.slice (some ⟨M, 0, none⟩) rg rg)) := fun u hu => cellAt ((hu.block cb (ltHeap HCW.out.blk) (by simpa using HCW.out.hcM)).trans HCW.out.blk) 1 _ rfl
  have HS0 : Hid (∀ u, W.grownBy u (some M) → u.cell? ⟨w.heap.size, 1, none⟩ = some (.int .i64 (dst : Int))) := fun u hu => cellAt ((hu.block w.heap.size (ltHeap HBOX.out) (by simpa using HNE.out)).trans HBOX.out) 1 _ rfl
  go_enter Tryd.func88, Tryd.ntmps88
  go_wp2
  rw [← HWE.out]
  clear HWE
  refine wp_region_noPanic ?_
  refine wp_region_held_drew (S := fun u => W.grownBy u (some M)) (by kernel_rfl) ?_ (fun hHeld => ?_)
  · exact grownBy_drew (World.grownBy.refl _ _)
  refine wpAnyH_take (i := 0) (oi := { dst := some 4, op := Op.move (Operand.tmp 0), type := 95, pos := "prog.go:142", after := #[], guard := none }) (v := ?_) rfl (by kernel_rfl) (by kernel_rfl) (by kernel_rfl) (fun _ _ _ h => h) (Or.inl ⟨by rfl, ?_⟩) hHeld ?_
  rotate_left
  · intro u hSw
    go_simp
    try with_reducible rfl
  try simp only [Act.put, List.setIfInBounds_toArray, List.set_cons_zero, List.set_cons_succ]
  refine wpAnyH_take (i := 1) (oi := { dst := some 5, op := Op.nilCheck (Operand.tmp 4), type := 0, pos := "prog.go:142", after := #[{ on := 0, ground := Ground.data }], guard := none }) (v := ?_) rfl (by kernel_rfl) (by kernel_rfl) (by kernel_rfl) (fun _ _ _ h => h) (Or.inl ⟨by rfl, ?_⟩) hHeld ?_
  rotate_left
  · intro u hSw
    go_simp
    try with_reducible rfl
  try simp only [Act.put, List.setIfInBounds_toArray, List.set_cons_zero, List.set_cons_succ]
  refine wpAnyH_take (i := 2) (oi := { dst := some 6, op := Op.fieldAddr 87 (Operand.tmp 5) 1, type := 0, pos := "prog.go:142", after := #[{ on := 1, ground := Ground.data }], guard := none }) (v := ?_) rfl (by kernel_rfl) (by kernel_rfl) (by kernel_rfl) (fun _ _ _ h => h) (Or.inl ⟨by rfl, ?_⟩) hHeld ?_
  rotate_left
  · intro u hSw
    go_simp
    try with_reducible rfl
  try simp only [Act.put, List.setIfInBounds_toArray, List.set_cons_zero, List.set_cons_succ]
  refine wpAnyH_take (i := 3) (oi := { dst := some 7, op := Op.load 67 (Operand.tmp 6), type := 67, pos := "prog.go:142", after := #[{ on := 2, ground := Ground.data }], guard := none }) (v := ?_) rfl (by kernel_rfl) (by kernel_rfl) (by kernel_rfl) (fun _ _ _ h => h) (Or.inl ⟨by rfl, ?_⟩) hHeld ?_
  rotate_left
  · intro u hSw
    have k9 := HK1.out u hSw
    go_simp
    try with_reducible rfl
  try simp only [Act.put, List.setIfInBounds_toArray, List.set_cons_zero, List.set_cons_succ]
  refine wpAnyH_take (i := 4) (oi := { dst := some 8, op := Op.fieldAddr 48 (Operand.tmp 3) 1, type := 0, pos := "prog.go:142", after := #[], guard := none }) (v := ?_) rfl (by kernel_rfl) (by kernel_rfl) (by kernel_rfl) (fun _ _ _ h => h) (Or.inl ⟨by rfl, ?_⟩) hHeld ?_
  rotate_left
  · intro u hSw
    go_simp
    try with_reducible rfl
  try simp only [Act.put, List.setIfInBounds_toArray, List.set_cons_zero, List.set_cons_succ]
  refine wpAnyH_take (i := 5) (oi := { dst := some 9, op := Op.load 3 (Operand.tmp 8), type := 3, pos := "prog.go:142", after := #[{ on := 4, ground := Ground.data }], guard := none }) (v := ?_) rfl (by kernel_rfl) (by kernel_rfl) (by kernel_rfl) (fun _ _ _ h => h) (Or.inl ⟨by rfl, ?_⟩) hHeld ?_
  rotate_left
  · intro u hSw
    have k9 := HS0.out u hSw
    go_simp
    try with_reducible rfl
  try simp only [Act.put, List.setIfInBounds_toArray, List.set_cons_zero, List.set_cons_succ]
  refine wpAnyH_take (i := 6) (oi := { dst := some 10, op := Op.move (Operand.tmp 0), type := 95, pos := "prog.go:142", after := #[], guard := none }) (v := ?_) rfl (by kernel_rfl) (by kernel_rfl) (by kernel_rfl) (fun _ _ _ h => h) (Or.inl ⟨by rfl, ?_⟩) hHeld ?_
  rotate_left
  · intro u hSw
    go_simp
    try with_reducible rfl
  try simp only [Act.put, List.setIfInBounds_toArray, List.set_cons_zero, List.set_cons_succ]
  refine wpAnyH_ready (rs := [7]) (by kernel_rfl) (by simp) ?_
  refine (AllReadyH.cons (o := { dst := some 11, op := Op.call { callee := Callee.value (Operand.func 43), args := #[Operand.tmp 10], argTypes := #[95] }, type := 31, pos := "prog.go:142", after := #[{ on := 6, ground := Ground.data }], guard := none }) rfl (fun K hK => ?_) AllReadyH.nil)
  go_simp
  refine Calls.mono (nothing_F cb n _ hn (cellAt HCW.out.drew.blk 0 _ rfl)) ?_
  rintro e w6 ⟨rfl, hw6⟩
  have hb6 : Below W.drew.heap.size W.drew w6 := by rw [hw6]; exact (Below.refl _ _).alloc (Nat.le_refl _) _
  have hr6 : w6.heap[W.heap.size]? = some (.cells (vfs (zeros n)) 5 (0, 0)) := by rw [hw6]; exact heap_alloc_last _ _
  have hC6 := HCW.out.drew.below hb6
  have hS6 : W.grownBy w6 (some M) := grown_below (grownBy_drew (World.grownBy.refl _ _)) hb6
  clear hw6
  go_wp2_with fail
  refine hK.out _ _ ?_ (fun hHeld => ?_)
  · exact hS6
  clear hK K
  try simp only [Act.put, List.setIfInBounds_toArray, List.set_cons_zero, List.set_cons_succ]
  refine wpAnyH_take (i := 8) (oi := { dst := some 12, op := Op.indexAddr 67 (Operand.tmp 7) (Operand.tmp 9), type := 0, pos := "prog.go:142", after := #[{ on := 3, ground := Ground.data }, { on := 5, ground := Ground.data }, { on := 0, ground := Ground.phase }, { on := 1, ground := Ground.phase }, { on := 2, ground := Ground.phase }, { on := 3, ground := Ground.phase }, { on := 4, ground := Ground.phase }, { on := 5, ground := Ground.phase }, { on := 6, ground := Ground.phase }, { on := 7, ground := Ground.phase }], guard := none }) (v := ?_) rfl (by kernel_rfl) (by kernel_rfl) (by kernel_rfl) (fun _ _ _ h => h) (Or.inl ⟨by rfl, ?_⟩) hHeld ?_
  rotate_left
  · intro u hSw
    go_simp
    try with_reducible rfl
  try simp only [Act.put, List.setIfInBounds_toArray, List.set_cons_zero, List.set_cons_succ]
  refine wpAnyH_ready (rs := [9]) (by kernel_rfl) (by simp) ?_
  refine (AllReadyH.cons (o := { dst := none, op := Op.store 31 (Operand.tmp 12) (Operand.tmp 11), type := 0, pos := "prog.go:142", after := #[{ on := 8, ground := Ground.data }, { on := 7, ground := Ground.data }, { on := 7, ground := Ground.chain }, { on := 0, ground := Ground.phase }, { on := 1, ground := Ground.phase }, { on := 2, ground := Ground.phase }, { on := 3, ground := Ground.phase }, { on := 4, ground := Ground.phase }, { on := 5, ground := Ground.phase }, { on := 6, ground := Ground.phase }, { on := 7, ground := Ground.phase }], guard := none }) rfl (fun K hK => ?_) AllReadyH.nil)
  have hblk := hC6.regs.blk
  have d8 : w6.frozen? ⟨M, dst, none⟩ = false := frozen_of_row _ _ _ _ _ hblk
  have d9 := cellAt hblk dst _ (slF_at hd)
  go_simp
  refine hK.out _ _ ?_ (fun hHeld => ?_)
  · exact grownBy_setCell hS6 _
  clear hK K
  try simp only [Act.put, List.setIfInBounds_toArray, List.set_cons_zero, List.set_cons_succ]
  refine wpAnyH_done (by kernel_rfl) ?_ _
  refine NoPanic.normal ?_
  have HP : Hid _ := hC6.put hd (a := some ⟨W.heap.size, 0, none⟩) (m := n) (v := fun _ => 0) (by rw [← zeros_rowF]; exact row8T_own hr6) (Nat.le_refl _) (fun e => by cases e)
  have HPB : Hid _ := (((HBW.out.mono hBw).drew).trans (hb6.mono (by have := HBW.out.size; simp; omega))).setCell (p := ⟨M, dst, none⟩) HCW.out.hM (.slice (some ⟨W.heap.size, 0, none⟩) n n)
  go_wp2
  exact ⟨rfl, .tuple #[], by simp [results, Tryd.results88, go_sem], rfl, ⟨_, _, HP.out, rfl⟩, HPB.out⟩
set_option maxRecDepth 100000 in
set_option maxHeartbeats 4000000 in
theorem does_mul (B cb M Q n rg no : Nat) (f : Nat → Option Addr × Nat) (g : Nat → Option (Option Addr × Nat)) (R O : Regs) (op : Int) (dst : Nat) (src : Int) (c : F) (hd : dst < rg) (w : World) (hn : n ≤ 64) (hrg : rg ≤ 64) (hno : no ≤ 64) (hBw : B ≤ w.heap.size) (h : CmbW B w cb M Q n rg no f g R O) :
    Calls Tryd.prog 90 #[.pointer (some ⟨cb, 0, none⟩), .agg #[.int .i64 op, .int .i64 (dst : Int), .int .i64 src, .int .u8 (c.toNat : Int)]] w fun e w' => e = .returned (.tuple #[]) ∧ (∃ f' g', CmbW B w' cb M Q n rg no f' g' (setR R (dst : Int) (fun b => gm c (R (dst : Int) b))) (O) ∧ g' = g) ∧ Below B w w' := by
  obtain ⟨W, hW⟩ : ∃ W, W = w.alloc (.cells #[.int .i64 op, .int .i64 (dst : Int), .int .i64 src, .int .u8 (c.toNat : Int)] 48) := ⟨_, rfl⟩
  have hBW : Below w.heap.size w W := by rw [hW]; exact (Below.refl _ _).alloc (Nat.le_refl _) _
  have hbox : W.heap[w.heap.size]? = some (.cells #[.int .i64 op, .int .i64 (dst : Int), .int .i64 src, .int .u8 (c.toNat : Int)] 48 (0, 0)) := by rw [hW]; exact heap_alloc_last _ _
  have HNE : Hid (w.heap.size ≠ M) := by have := ltHeap h.regs.blk; show _ ≠ _; omega
  have HCW : Hid _ := h.below hBW
  have HBOX : Hid _ := hbox
  have HBW : Hid _ := hBW
  have HWE : Hid _ := hW
  clear h hBW hbox hW
  have HK1 : Hid (∀ u, W.grownBy u (some M) → u.cell? ⟨cb, 1, none⟩ = some (.slice (some ⟨M, 0, none⟩) rg rg)) := fun u hu => cellAt ((hu.block cb (ltHeap HCW.out.blk) (by simpa using HCW.out.hcM)).trans HCW.out.blk) 1 _ rfl
  have HS0 : Hid (∀ u, W.grownBy u (some M) → u.cell? ⟨w.heap.size, 1, none⟩ = some (.int .i64 (dst : Int))) := fun u hu => cellAt ((hu.block w.heap.size (ltHeap HBOX.out) (by simpa using HNE.out)).trans HBOX.out) 1 _ rfl
  have HS2 : Hid (∀ u, W.grownBy u (some M) → u.cell? ⟨w.heap.size, 2, none⟩ = some (.int .i64 src)) := fun u hu => cellAt ((hu.block w.heap.size (ltHeap HBOX.out) (by simpa using HNE.out)).trans HBOX.out) 2 _ rfl
  have HS3 : Hid (∀ u, W.grownBy u (some M) → u.cell? ⟨w.heap.size, 3, none⟩ = some (.int .u8 (c.toNat : Int))) := fun u hu => cellAt ((hu.block w.heap.size (ltHeap HBOX.out) (by simpa using HNE.out)).trans HBOX.out) 3 _ rfl
  go_enter Tryd.func90, Tryd.ntmps90
  go_wp2
  rw [← HWE.out]
  clear HWE
  refine wp_region_noPanic ?_
  refine wp_region_held_drew (S := fun u => W.grownBy u (some M)) (by kernel_rfl) ?_ (fun hHeld => ?_)
  · exact grownBy_drew (World.grownBy.refl _ _)
  refine wpAnyH_take (i := 0) (oi := { dst := some 4, op := Op.move (Operand.tmp 0), type := 95, pos := "prog.go:146", after := #[], guard := none }) (v := ?_) rfl (by kernel_rfl) (by kernel_rfl) (by kernel_rfl) (fun _ _ _ h => h) (Or.inl ⟨by rfl, ?_⟩) hHeld ?_
  rotate_left
  · intro u hSw
    go_simp
    try with_reducible rfl
  try simp only [Act.put, List.setIfInBounds_toArray, List.set_cons_zero, List.set_cons_succ]
  refine wpAnyH_take (i := 1) (oi := { dst := some 5, op := Op.nilCheck (Operand.tmp 4), type := 0, pos := "prog.go:146", after := #[{ on := 0, ground := Ground.data }], guard := none }) (v := ?_) rfl (by kernel_rfl) (by kernel_rfl) (by kernel_rfl) (fun _ _ _ h => h) (Or.inl ⟨by rfl, ?_⟩) hHeld ?_
  rotate_left
  · intro u hSw
    go_simp
    try with_reducible rfl
  try simp only [Act.put, List.setIfInBounds_toArray, List.set_cons_zero, List.set_cons_succ]
  refine wpAnyH_take (i := 2) (oi := { dst := some 6, op := Op.fieldAddr 87 (Operand.tmp 5) 1, type := 0, pos := "prog.go:146", after := #[{ on := 1, ground := Ground.data }], guard := none }) (v := ?_) rfl (by kernel_rfl) (by kernel_rfl) (by kernel_rfl) (fun _ _ _ h => h) (Or.inl ⟨by rfl, ?_⟩) hHeld ?_
  rotate_left
  · intro u hSw
    go_simp
    try with_reducible rfl
  try simp only [Act.put, List.setIfInBounds_toArray, List.set_cons_zero, List.set_cons_succ]
  refine wpAnyH_take (i := 3) (oi := { dst := some 7, op := Op.load 67 (Operand.tmp 6), type := 67, pos := "prog.go:146", after := #[{ on := 2, ground := Ground.data }], guard := none }) (v := ?_) rfl (by kernel_rfl) (by kernel_rfl) (by kernel_rfl) (fun _ _ _ h => h) (Or.inl ⟨by rfl, ?_⟩) hHeld ?_
  rotate_left
  · intro u hSw
    have k9 := HK1.out u hSw
    go_simp
    try with_reducible rfl
  try simp only [Act.put, List.setIfInBounds_toArray, List.set_cons_zero, List.set_cons_succ]
  refine wpAnyH_take (i := 4) (oi := { dst := some 8, op := Op.fieldAddr 48 (Operand.tmp 3) 1, type := 0, pos := "prog.go:146", after := #[], guard := none }) (v := ?_) rfl (by kernel_rfl) (by kernel_rfl) (by kernel_rfl) (fun _ _ _ h => h) (Or.inl ⟨by rfl, ?_⟩) hHeld ?_
  rotate_left
  · intro u hSw
    go_simp
    try with_reducible rfl
  try simp only [Act.put, List.setIfInBounds_toArray, List.set_cons_zero, List.set_cons_succ]
  refine wpAnyH_take (i := 5) (oi := { dst := some 9, op := Op.load 3 (Operand.tmp 8), type := 3, pos := "prog.go:146", after := #[{ on := 4, ground := Ground.data }], guard := none }) (v := ?_) rfl (by kernel_rfl) (by kernel_rfl) (by kernel_rfl) (fun _ _ _ h => h) (Or.inl ⟨by rfl, ?_⟩) hHeld ?_
  rotate_left
  · intro u hSw
    have k9 := HS0.out u hSw
    go_simp
    try with_reducible rfl
  try simp only [Act.put, List.setIfInBounds_toArray, List.set_cons_zero, List.set_cons_succ]
  refine wpAnyH_take (i := 6) (oi := { dst := some 10, op := Op.fieldAddr 48 (Operand.tmp 3) 3, type := 0, pos := "prog.go:146", after := #[], guard := none }) (v := ?_) rfl (by kernel_rfl) (by kernel_rfl) (by kernel_rfl) (fun _ _ _ h => h) (Or.inl ⟨by rfl, ?_⟩) hHeld ?_
  rotate_left
  · intro u hSw
    go_simp
    try with_reducible rfl
  try simp only [Act.put, List.setIfInBounds_toArray, List.set_cons_zero, List.set_cons_succ]
  refine wpAnyH_take (i := 7) (oi := { dst := some 11, op := Op.load 5 (Operand.tmp 10), type := 5, pos := "prog.go:146", after := #[{ on := 6, ground := Ground.data }], guard := none }) (v := ?_) rfl (by kernel_rfl) (by kernel_rfl) (by kernel_rfl) (fun _ _ _ h => h) (Or.inl ⟨by rfl, ?_⟩) hHeld ?_
  rotate_left
  · intro u hSw
    have k9 := HS3.out u hSw
    go_simp
    try with_reducible rfl
  try simp only [Act.put, List.setIfInBounds_toArray, List.set_cons_zero, List.set_cons_succ]
  refine wpAnyH_take (i := 8) (oi := { dst := some 12, op := Op.move (Operand.tmp 0), type := 95, pos := "prog.go:146", after := #[], guard := none }) (v := ?_) rfl (by kernel_rfl) (by kernel_rfl) (by kernel_rfl) (fun _ _ _ h => h) (Or.inl ⟨by rfl, ?_⟩) hHeld ?_
  rotate_left
  · intro u hSw
    go_simp
    try with_reducible rfl
  try simp only [Act.put, List.setIfInBounds_toArray, List.set_cons_zero, List.set_cons_succ]
  refine wpAnyH_take (i := 9) (oi := { dst := some 13, op := Op.nilCheck (Operand.tmp 12), type := 0, pos := "prog.go:146", after := #[{ on := 8, ground := Ground.data }], guard := none }) (v := ?_) rfl (by kernel_rfl) (by kernel_rfl) (by kernel_rfl) (fun _ _ _ h => h) (Or.inl ⟨by rfl, ?_⟩) hHeld ?_
  rotate_left
  · intro u hSw
    go_simp
    try with_reducible rfl
  try simp only [Act.put, List.setIfInBounds_toArray, List.set_cons_zero, List.set_cons_succ]
  refine wpAnyH_take (i := 10) (oi := { dst := some 14, op := Op.fieldAddr 87 (Operand.tmp 13) 1, type := 0, pos := "prog.go:146", after := #[{ on := 9, ground := Ground.data }], guard := none }) (v := ?_) rfl (by kernel_rfl) (by kernel_rfl) (by kernel_rfl) (fun _ _ _ h => h) (Or.inl ⟨by rfl, ?_⟩) hHeld ?_
  rotate_left
  · intro u hSw
    go_simp
    try with_reducible rfl
  try simp only [Act.put, List.setIfInBounds_toArray, List.set_cons_zero, List.set_cons_succ]
  refine wpAnyH_take (i := 11) (oi := { dst := some 15, op := Op.load 67 (Operand.tmp 14), type := 67, pos := "prog.go:146", after := #[{ on := 10, ground := Ground.data }], guard := none }) (v := ?_) rfl (by kernel_rfl) (by kernel_rfl) (by kernel_rfl) (fun _ _ _ h => h) (Or.inl ⟨by rfl, ?_⟩) hHeld ?_
  rotate_left
  · intro u hSw
    have k9 := HK1.out u hSw
    go_simp
    try with_reducible rfl
  try simp only [Act.put, List.setIfInBounds_toArray, List.set_cons_zero, List.set_cons_succ]
  refine wpAnyH_take (i := 12) (oi := { dst := some 16, op := Op.fieldAddr 48 (Operand.tmp 3) 1, type := 0, pos := "prog.go:146", after := #[], guard := none }) (v := ?_) rfl (by kernel_rfl) (by kernel_rfl) (by kernel_rfl) (fun _ _ _ h => h) (Or.inl ⟨by rfl, ?_⟩) hHeld ?_
  rotate_left
  · intro u hSw
    go_simp
    try with_reducible rfl
  try simp only [Act.put, List.setIfInBounds_toArray, List.set_cons_zero, List.set_cons_succ]
  refine wpAnyH_take (i := 13) (oi := { dst := some 17, op := Op.load 3 (Operand.tmp 16), type := 3, pos := "prog.go:146", after := #[{ on := 12, ground := Ground.data }], guard := none }) (v := ?_) rfl (by kernel_rfl) (by kernel_rfl) (by kernel_rfl) (fun _ _ _ h => h) (Or.inl ⟨by rfl, ?_⟩) hHeld ?_
  rotate_left
  · intro u hSw
    have k9 := HS0.out u hSw
    go_simp
    try with_reducible rfl
  try simp only [Act.put, List.setIfInBounds_toArray, List.set_cons_zero, List.set_cons_succ]
  refine wpAnyH_take (i := 14) (oi := { dst := some 18, op := Op.indexAddr 67 (Operand.tmp 15) (Operand.tmp 17), type := 0, pos := "prog.go:146", after := #[{ on := 11, ground := Ground.data }, { on := 13, ground := Ground.data }], guard := none }) (v := ?_) rfl (by kernel_rfl) (by kernel_rfl) (by kernel_rfl) (fun _ _ _ h => h) (Or.inl ⟨by rfl, ?_⟩) hHeld ?_
  rotate_left
  · intro u hSw
    go_simp
    try with_reducible rfl
  try simp only [Act.put, List.setIfInBounds_toArray, List.set_cons_zero, List.set_cons_succ]
  refine wpAnyH_ready (rs := [15]) (by kernel_rfl) (by simp) ?_
  refine (AllReadyH.cons (o := { dst := some 19, op := Op.load 31 (Operand.tmp 18), type := 31, pos := "prog.go:146", after := #[{ on := 14, ground := Ground.data }], guard := none }) rfl (fun K hK => ?_) AllReadyH.nil)
  have m15 := cellAt HCW.out.drew.regs.blk dst _ (slF_at ‹dst < rg›)
  go_simp
  refine hK.out _ _ ?_ (fun hHeld => ?_)
  · exact grownBy_drew (World.grownBy.refl _ _)
  clear hK K
  try simp only [Act.put, List.setIfInBounds_toArray, List.set_cons_zero, List.set_cons_succ]
  refine wpAnyH_ready (rs := [16]) (by kernel_rfl) (by simp) ?_
  refine (AllReadyH.cons (o := { dst := some 20, op := Op.call { callee := Callee.value (Operand.func 100), args := #[Operand.tmp 11, Operand.tmp 19], argTypes := #[5, 31] }, type := 31, pos := "prog.go:146", after := #[{ on := 7, ground := Ground.data }, { on := 15, ground := Ground.data }], guard := none }) rfl (fun K hK => ?_) AllReadyH.nil)
  go_simp
  refine Calls.mono (scale_R c _ n _ _ _ (by omega) (HCW.out.drew.regs.row dst hd).row8) ?_
  rintro e w6 ⟨q6, rfl, hb6, hr6, hg6⟩
  have hC6 := HCW.out.drew.below hb6
  have hS6 : W.grownBy w6 (some M) := grown_below (grownBy_drew (World.grownBy.refl _ _)) hb6
  go_wp2_with fail
  refine hK.out _ _ ?_ (fun hHeld => ?_)
  · exact hS6
  clear hK K
  try simp only [Act.put, List.setIfInBounds_toArray, List.set_cons_zero, List.set_cons_succ]
  refine wpAnyH_take (i := 17) (oi := { dst := some 21, op := Op.indexAddr 67 (Operand.tmp 7) (Operand.tmp 9), type := 0, pos := "prog.go:146", after := #[{ on := 3, ground := Ground.data }, { on := 5, ground := Ground.data }, { on := 0, ground := Ground.phase }, { on := 1, ground := Ground.phase }, { on := 2, ground := Ground.phase }, { on := 3, ground := Ground.phase }, { on := 4, ground := Ground.phase }, { on := 5, ground := Ground.phase }, { on := 6, ground := Ground.phase }, { on := 7, ground := Ground.phase }, { on := 8, ground := Ground.phase }, { on := 9, ground := Ground.phase }, { on := 10, ground := Ground.phase }, { on := 11, ground := Ground.phase }, { on := 12, ground := Ground.phase }, { on := 13, ground := Ground.phase }, { on := 14, ground := Ground.phase }, { on := 15, ground := Ground.phase }, { on := 16, ground := Ground.phase }], guard := none }) (v := ?_) rfl (by kernel_rfl) (by kernel_rfl) (by kernel_rfl) (fun _ _ _ h => h) (Or.inl ⟨by rfl, ?_⟩) hHeld ?_
  rotate_left
  · intro u hSw
    go_simp
    try with_reducible rfl
  try simp only [Act.put, List.setIfInBounds_toArray, List.set_cons_zero, List.set_cons_succ]
  refine wpAnyH_ready (rs := [18]) (by kernel_rfl) (by simp) ?_
  refine (AllReadyH.cons (o := { dst := none, op := Op.store 31 (Operand.tmp 21) (Operand.tmp 20), type := 0, pos := "prog.go:146", after := #[{ on := 17, ground := Ground.data }, { on := 16, ground := Ground.data }, { on := 16, ground := Ground.chain }, { on := 0, ground := Ground.phase }, { on := 1, ground := Ground.phase }, { on := 2, ground := Ground.phase }, { on := 3, ground := Ground.phase }, { on := 4, ground := Ground.phase }, { on := 5, ground := Ground.phase }, { on := 6, ground := Ground.phase }, { on := 7, ground := Ground.phase }, { on := 8, ground := Ground.phase }, { on := 9, ground := Ground.phase }, { on := 10, ground := Ground.phase }, { on := 11, ground := Ground.phase }, { on := 12, ground := Ground.phase }, { on := 13, ground := Ground.phase }, { on := 14, ground := Ground.phase }, { on := 15, ground := Ground.phase }, { on := 16, ground := Ground.phase }], guard := none }) rfl (fun K hK => ?_) AllReadyH.nil)
  have hblk := hC6.regs.blk
  have d8 : w6.frozen? ⟨M, dst, none⟩ = false := frozen_of_row _ _ _ _ _ hblk
  have d9 := cellAt hblk dst _ (slF_at hd)
  go_simp
  refine hK.out _ _ ?_ (fun hHeld => ?_)
  · exact grownBy_setCell hS6 _
  clear hK K
  try simp only [Act.put, List.setIfInBounds_toArray, List.set_cons_zero, List.set_cons_succ]
  refine wpAnyH_done (by kernel_rfl) ?_ _
  refine NoPanic.normal ?_
  have HP : Hid _ := hC6.put hd (a := some ⟨q6, 0, none⟩) (m := n) (v := fun b => gm c (R (dst : Int) b)) hr6 (Nat.le_refl _) (fun e => by cases e)
  have HPB : Hid _ := (((HBW.out.mono hBw).drew).trans (hb6.mono (by have := HBW.out.size; simp; omega))).setCell (p := ⟨M, dst, none⟩) HCW.out.hM (.slice (some ⟨q6, 0, none⟩) n n)
  go_wp2
  exact ⟨rfl, .tuple #[], by simp [results, Tryd.results90, go_sem], rfl, ⟨_, _, HP.out, rfl⟩, HPB.out⟩
set_option maxRecDepth 100000 in
set_option maxHeartbeats 4000000 in
theorem does_add (B cb M Q n rg no : Nat) (f : Nat → Option Addr × Nat) (g : Nat → Option (Option Addr × Nat)) (R O : Regs) (op : Int) (dst : Nat) (src : Nat) (c : F) (hd : dst < rg) (hs : src < rg) (w : World) (hn : n ≤ 64) (hrg : rg ≤ 64) (hno : no ≤ 64) (hBw : B ≤ w.heap.size) (h : CmbW B w cb M Q n rg no f g R O) :
    Calls Tryd.prog 92 #[.pointer (some ⟨cb, 0, none⟩), .agg #[.int .i64 op, .int .i64 (dst : Int), .int .i64 (src : Int), .int .u8 (c.toNat : Int)]] w fun e w' => e = .returned (.tuple #[]) ∧ (∃ f' g', CmbW B w' cb M Q n rg no f' g' (setR R (dst : Int) (fun b => ga (R (dst : Int) b) (gm c (R (src : Int) b)))) (O) ∧ g' = g) ∧ Below B w w' := by
  obtain ⟨W, hW⟩ : ∃ W, W = w.alloc (.cells #[.int .i64 op, .int .i64 (dst : Int), .int .i64 (src : Int), .int .u8 (c.toNat : Int)] 48) := ⟨_, rfl⟩
  have hBW : Below w.heap.size w W := by rw [hW]; exact (Below.refl _ _).alloc (Nat.le_refl _) _
  have hbox : W.heap[w.heap.size]? = some (.cells #[.int .i64 op, .int .i64 (dst : Int), .int .i64 (src : Int), .int .u8 (c.toNat : Int)] 48 (0, 0)) := by rw [hW]; exact heap_alloc_last _ _
  have HNE : Hid (w.heap.size ≠ M) := by have := ltHeap h.regs.blk; show _ ≠ _; omega
  have HCW : Hid _ := h.below hBW
  have HBOX : Hid _ := hbox
  have HBW : Hid _ := hBW
  have HWE : Hid _ := hW
  clear h hBW hbox hW
  have HK1 : Hid (∀ u, W.grownBy u (some M) → u.cell? ⟨cb, 1, none⟩ = some (.slice (some ⟨M, 0, none⟩) rg rg)) := fun u hu => cellAt ((hu.block cb (ltHeap HCW.out.blk) (by simpa using HCW.out.hcM)).trans HCW.out.blk) 1 _ rfl
  have HS0 : Hid (∀ u, W.grownBy u (some M) → u.cell? ⟨w.heap.size, 1, none⟩ = some (.int .i64 (dst : Int))) := fun u hu => cellAt ((hu.block w.heap.size (ltHeap HBOX.out) (by simpa using HNE.out)).trans HBOX.out) 1 _ rfl
  have HS2 : Hid (∀ u, W.grownBy u (some M) → u.cell? ⟨w.heap.size, 2, none⟩ = some (.int .i64 (src : Int))) := fun u hu => cellAt ((hu.block w.heap.size (ltHeap HBOX.out) (by simpa using HNE.out)).trans HBOX.out) 2 _ rfl
  have HS3 : Hid (∀ u, W.grownBy u (some M) → u.cell? ⟨w.heap.size, 3, none⟩ = some (.int .u8 (c.toNat : Int))) := fun u hu => cellAt ((hu.block w.heap.size (ltHeap HBOX.out) (by simpa using HNE.out)).trans HBOX.out) 3 _ rfl
  go_enter Tryd.func92, Tryd.ntmps92
  go_wp2
  rw [← HWE.out]
  clear HWE
  refine wp_region_noPanic ?_
  refine wp_region_held_drew (S := fun u => W.grownBy u (some M)) (by kernel_rfl) ?_ (fun hHeld => ?_)
  · exact grownBy_drew (World.grownBy.refl _ _)
  refine wpAnyH_take (i := 0) (oi := { dst := some 4, op := Op.move (Operand.tmp 0), type := 95, pos := "prog.go:150", after := #[], guard := none }) (v := ?_) rfl (by kernel_rfl) (by kernel_rfl) (by kernel_rfl) (fun _ _ _ h => h) (Or.inl ⟨by rfl, ?_⟩) hHeld ?_
  rotate_left
  · intro u hSw
    go_simp
    try with_reducible rfl
  try simp only [Act.put, List.setIfInBounds_toArray, List.set_cons_zero, List.set_cons_succ]
  refine wpAnyH_take (i := 1) (oi := { dst := some 5, op := Op.nilCheck (Operand.tmp 4), type := 0, pos := "prog.go:150", after := #[{ on := 0, ground := Ground.data }], guard := none }) (v := ?_) rfl (by kernel_rfl) (by kernel_rfl) (by kernel_rfl) (fun _ _ _ h => h) (Or.inl ⟨by rfl, ?_⟩) hHeld ?_
  rotate_left
  · intro u hSw
    go_simp
    try with_reducible rfl
  try simp only [Act.put, List.setIfInBounds_toArray, List.set_cons_zero, List.set_cons_succ]
  refine wpAnyH_take (i := 2) (oi := { dst := some 6, op := Op.fieldAddr 87 (Operand.tmp 5) 1, type := 0, pos := "prog.go:150", after := #[{ on := 1, ground := Ground.data }], guard := none }) (v := ?_) rfl (by kernel_rfl) (by kernel_rfl) (by kernel_rfl) (fun _ _ _ h => h) (Or.inl ⟨by rfl, ?_⟩) hHeld ?_
  rotate_left
  · intro u hSw
    go_simp
    try with_reducible rfl
  try simp only [Act.put, List.setIfInBounds_toArray, List.set_cons_zero, List.set_cons_succ]
  refine wpAnyH_take (i := 3) (oi := { dst := some 7, op := Op.load 67 (Operand.tmp 6), type := 67, pos := "prog.go:150", after := #[{ on := 2, ground := Ground.data }], guard := none }) (v := ?_) rfl (by kernel_rfl) (by kernel_rfl) (by kernel_rfl) (fun _ _ _ h => h) (Or.inl ⟨by rfl, ?_⟩) hHeld ?_
  rotate_left
  · intro u hSw
    have k9 := HK1.out u hSw
    go_simp
    try with_reducible rfl
  try simp only [Act.put, List.setIfInBounds_toArray, List.set_cons_zero, List.set_cons_succ]
  refine wpAnyH_take (i := 4) (oi := { dst := some 8, op := Op.fieldAddr 48 (Operand.tmp 3) 1, type := 0, pos := "prog.go:150", after := #[], guard := none }) (v := ?_) rfl (by kernel_rfl) (by kernel_rfl) (by kernel_rfl) (fun _ _ _ h => h) (Or.inl ⟨by rfl, ?_⟩) hHeld ?_
  rotate_left
  · intro u hSw
    go_simp
    try with_reducible rfl
  try simp only [Act.put, List.setIfInBounds_toArray, List.set_cons_zero, List.set_cons_succ]
  refine wpAnyH_take (i := 5) (oi := { dst := some 9, op := Op.load 3 (Operand.tmp 8), type := 3, pos := "prog.go:150", after := #[{ on := 4, ground := Ground.data }], guard := none }) (v := ?_) rfl (by kernel_rfl) (by kernel_rfl) (by kernel_rfl) (fun _ _ _ h => h) (Or.inl ⟨by rfl, ?_⟩) hHeld ?_
  rotate_left
  · intro u hSw
    have k9 := HS0.out u hSw
    go_simp
    try with_reducible rfl
  try simp only [Act.put, List.setIfInBounds_toArray, List.set_cons_zero, List.set_cons_succ]
  refine wpAnyH_take (i := 6) (oi := { dst := some 10, op := Op.move (Operand.tmp 0), type := 95, pos := "prog.go:150", after := #[], guard := none }) (v := ?_) rfl (by kernel_rfl) (by kernel_rfl) (by kernel_rfl) (fun _ _ _ h => h) (Or.inl ⟨by rfl, ?_⟩) hHeld ?_
  rotate_left
  · intro u hSw
    go_simp
    try with_reducible rfl
  try simp only [Act.put, List.setIfInBounds_toArray, List.set_cons_zero, List.set_cons_succ]
  refine wpAnyH_take (i := 7) (oi := { dst := some 11, op := Op.nilCheck (Operand.tmp 10), type := 0, pos := "prog.go:150", after := #[{ on := 6, ground := Ground.data }], guard := none }) (v := ?_) rfl (by kernel_rfl) (by kernel_rfl) (by kernel_rfl) (fun _ _ _ h => h) (Or.inl ⟨by rfl, ?_⟩) hHeld ?_
  rotate_left
  · intro u hSw
    go_simp
    try with_reducible rfl
  try simp only [Act.put, List.setIfInBounds_toArray, List.set_cons_zero, List.set_cons_succ]
  refine wpAnyH_take (i := 8) (oi := { dst := some 12, op := Op.fieldAddr 87 (Operand.tmp 11) 1, type := 0, pos := "prog.go:150", after := #[{ on := 7, ground := Ground.data }], guard := none }) (v := ?_) rfl (by kernel_rfl) (by kernel_rfl) (by kernel_rfl) (fun _ _ _ h => h) (Or.inl ⟨by rfl, ?_⟩) hHeld ?_
  rotate_left
  · intro u hSw
    go_simp
    try with_reducible rfl
  try simp only [Act.put, List.setIfInBounds_toArray, List.set_cons_zero, List.set_cons_succ]
  refine wpAnyH_take (i := 9) (oi := { dst := some 13, op := Op.load 67 (Operand.tmp 12), type := 67, pos := "prog.go:150", after := #[{ on := 8, ground := Ground.data }], guard := none }) (v := ?_) rfl (by kernel_rfl) (by kernel_rfl) (by kernel_rfl) (fun _ _ _ h => h) (Or.inl ⟨by rfl, ?_⟩) hHeld ?_
  rotate_left
  · intro u hSw
    have k9 := HK1.out u hSw
    go_simp
    try with_reducible rfl
  try simp only [Act.put, List.setIfInBounds_toArray, List.set_cons_zero, List.set_cons_succ]
  refine wpAnyH_take (i := 10) (oi := { dst := some 14, op := Op.fieldAddr 48 (Operand.tmp 3) 1, type := 0, pos := "prog.go:150", after := #[], guard := none }) (v := ?_) rfl (by kernel_rfl) (by kernel_rfl) (by kernel_rfl) (fun _ _ _ h => h) (Or.inl ⟨by rfl, ?_⟩) hHeld ?_
  rotate_left
  · intro u hSw
    go_simp
    try with_reducible rfl
  try simp only [Act.put, List.setIfInBounds_toArray, List.set_cons_zero, List.set_cons_succ]
  refine wpAnyH_take (i := 11) (oi := { dst := some 15, op := Op.load 3 (Operand.tmp 14), type := 3, pos := "prog.go:150", after := #[{ on := 10, ground := Ground.data }], guard := none }) (v := ?_) rfl (by kernel_rfl) (by kernel_rfl) (by kernel_rfl) (fun _ _ _ h => h) (Or.inl ⟨by rfl, ?_⟩) hHeld ?_
  rotate_left
  · intro u hSw
    have k9 := HS0.out u hSw
    go_simp
    try with_reducible rfl
  try simp only [Act.put, List.setIfInBounds_toArray, List.set_cons_zero, List.set_cons_succ]
  refine wpAnyH_take (i := 12) (oi := { dst := some 16, op := Op.indexAddr 67 (Operand.tmp 13) (Operand.tmp 15), type := 0, pos := "prog.go:150", after := #[{ on := 9, ground := Ground.data }, { on := 11, ground := Ground.data }], guard := none }) (v := ?_) rfl (by kernel_rfl) (by kernel_rfl) (by kernel_rfl) (fun _ _ _ h => h) (Or.inl ⟨by rfl, ?_⟩) hHeld ?_
  rotate_left
  · intro u hSw
    go_simp
    try with_reducible rfl
  try simp only [Act.put, List.setIfInBounds_toArray, List.set_cons_zero, List.set_cons_succ]
  refine wpAnyH_take (i := 14) (oi := { dst := some 18, op := Op.fieldAddr 48 (Operand.tmp 3) 3, type := 0, pos := "prog.go:150", after := #[], guard := none }) (v := ?_) rfl (by kernel_rfl) (by kernel_rfl) (by kernel_rfl) (fun _ _ _ h => h) (Or.inl ⟨by rfl, ?_⟩) hHeld ?_
  rotate_left
  · intro u hSw
    go_simp
    try with_reducible rfl
  try simp only [Act.put, List.setIfInBounds_toArray, List.set_cons_zero, List.set_cons_succ]
  refine wpAnyH_take (i := 15) (oi := { dst := some 19, op := Op.load 5 (Operand.tmp 18), type := 5, pos := "prog.go:150", after := #[{ on := 14, ground := Ground.data }], guard := none }) (v := ?_) rfl (by kernel_rfl) (by kernel_rfl) (by kernel_rfl) (fun _ _ _ h => h) (Or.inl ⟨by rfl, ?_⟩) hHeld ?_
  rotate_left
  · intro u hSw
    have k9 := HS3.out u hSw
    go_simp
    try with_reducible rfl
  try simp only [Act.put, List.setIfInBounds_toArray, List.set_cons_zero, List.set_cons_succ]
  refine wpAnyH_take (i := 16) (oi := { dst := some 20, op := Op.move (Operand.tmp 0), type := 95, pos := "prog.go:150", after := #[], guard := none }) (v := ?_) rfl (by kernel_rfl) (by kernel_rfl) (by kernel_rfl) (fun _ _ _ h => h) (Or.inl ⟨by rfl, ?_⟩) hHeld ?_
  rotate_left
  · intro u hSw
    go_simp
    try with_reducible rfl
  try simp only [Act.put, List.setIfInBounds_toArray, List.set_cons_zero, List.set_cons_succ]
  refine wpAnyH_take (i := 17) (oi := { dst := some 21, op := Op.nilCheck (Operand.tmp 20), type := 0, pos := "prog.go:150", after := #[{ on := 16, ground := Ground.data }], guard := none }) (v := ?_) rfl (by kernel_rfl) (by kernel_rfl) (by kernel_rfl) (fun _ _ _ h => h) (Or.inl ⟨by rfl, ?_⟩) hHeld ?_
  rotate_left
  · intro u hSw
    go_simp
    try with_reducible rfl
  try simp only [Act.put, List.setIfInBounds_toArray, List.set_cons_zero, List.set_cons_succ]
  refine wpAnyH_take (i := 18) (oi := { dst := some 22, op := Op.fieldAddr 87 (Operand.tmp 21) 1, type := 0, pos := "prog.go:150", after := #[{ on := 17, ground := Ground.data }], guard := none }) (v := ?_) rfl (by kernel_rfl) (by kernel_rfl) (by kernel_rfl) (fun _ _ _ h => h) (Or.inl ⟨by rfl, ?_⟩) hHeld ?_
  rotate_left
  · intro u hSw
    go_simp
    try with_reducible rfl
  try simp only [Act.put, List.setIfInBounds_toArray, List.set_cons_zero, List.set_cons_succ]
  refine wpAnyH_take (i := 19) (oi := { dst := some 23, op := Op.load 67 (Operand.tmp 22), type := 67, pos := "prog.go:150", after := #[{ on := 18, ground := Ground.data }], guard := none }) (v := ?_) rfl (by kernel_rfl) (by kernel_rfl) (by kernel_rfl) (fun _ _ _ h => h) (Or.inl ⟨by rfl, ?_⟩) hHeld ?_
  rotate_left
  · intro u hSw
    have k9 := HK1.out u hSw
    go_simp
    try with_reducible rfl
  try simp only [Act.put, List.setIfInBounds_toArray, List.set_cons_zero, List.set_cons_succ]
  refine wpAnyH_take (i := 20) (oi := { dst := some 24, op := Op.fieldAddr 48 (Operand.tmp 3) 2, type := 0, pos := "prog.go:150", after := #[], guard := none }) (v := ?_) rfl (by kernel_rfl) (by kernel_rfl) (by kernel_rfl) (fun _ _ _ h => h) (Or.inl ⟨by rfl, ?_⟩) hHeld ?_
  rotate_left
  · intro u hSw
    go_simp
    try with_reducible rfl
  try simp only [Act.put, List.setIfInBounds_toArray, List.set_cons_zero, List.set_cons_succ]
  refine wpAnyH_take (i := 21) (oi := { dst := some 25, op := Op.load 3 (Operand.tmp 24), type := 3, pos := "prog.go:150", after := #[{ on := 20, ground := Ground.data }], guard := none }) (v := ?_) rfl (by kernel_rfl) (by kernel_rfl) (by kernel_rfl) (fun _ _ _ h => h) (Or.inl ⟨by rfl, ?_⟩) hHeld ?_
  rotate_left
  · intro u hSw
    have k9 := HS2.out u hSw
    go_simp
    try with_reducible rfl
  try simp only [Act.put, List.setIfInBounds_toArray, List.set_cons_zero, List.set_cons_succ]
  refine wpAnyH_take (i := 22) (oi := { dst := some 26, op := Op.indexAddr 67 (Operand.tmp 23) (Operand.tmp 25), type := 0, pos := "prog.go:150", after := #[{ on := 19, ground := Ground.data }, { on := 21, ground := Ground.data }], guard := none }) (v := ?_) rfl (by kernel_rfl) (by kernel_rfl) (by kernel_rfl) (fun _ _ _ h => h) (Or.inl ⟨by rfl, ?_⟩) hHeld ?_
  rotate_left
  · intro u hSw
    go_simp
    try with_reducible rfl
  try simp only [Act.put, List.setIfInBounds_toArray, List.set_cons_zero, List.set_cons_succ]
  refine wpAnyH_ready (rs := [13, 23]) (by kernel_rfl) (by simp) ?_
  refine (AllReadyH.cons (o := { dst := some 17, op := Op.load 31 (Operand.tmp 16), type := 31, pos := "prog.go:150", after := #[{ on := 12, ground := Ground.data }], guard := none }) rfl (fun K hK => ?_) (AllReadyH.cons (o := { dst := some 27, op := Op.load 31 (Operand.tmp 26), type := 31, pos := "prog.go:150", after := #[{ on := 22, ground := Ground.data }], guard := none }) rfl (fun K hK => ?_) AllReadyH.nil))
  · have m13 := cellAt HCW.out.drew.regs.blk dst _ (slF_at ‹dst < rg›)
    go_simp
    refine hK.out _ _ ?_ (fun hHeld => ?_)
    · exact grownBy_drew (World.grownBy.refl _ _)
    clear hK K
    try simp only [Act.put, List.setIfInBounds_toArray, List.set_cons_zero, List.set_cons_succ]
    refine wpAnyH_ready (rs := [23]) (by kernel_rfl) (by simp) ?_
    refine (AllReadyH.cons (o := { dst := some 27, op := Op.load 31 (Operand.tmp 26), type := 31, pos := "prog.go:150", after := #[{ on := 22, ground := Ground.data }], guard := none }) rfl (fun K hK => ?_) AllReadyH.nil)
    have m23 := cellAt HCW.out.drew.regs.blk src _ (slF_at ‹src < rg›)
    go_simp
    refine hK.out _ _ ?_ (fun hHeld => ?_)
    · exact grownBy_drew (World.grownBy.refl _ _)
    clear hK K
    try simp only [Act.put, List.setIfInBounds_toArray, List.set_cons_zero, List.set_cons_succ]
    refine wpAnyH_ready (rs := [24]) (by kernel_rfl) (by simp) ?_
    refine (AllReadyH.cons (o := { dst := some 28, op := Op.call { callee := Callee.value (Operand.func 101), args := #[Operand.tmp 17, Operand.tmp 19, Operand.tmp 27], argTypes := #[31, 5, 31] }, type := 31, pos := "prog.go:150", after := #[{ on := 13, ground := Ground.data }, { on := 15, ground := Ground.data }, { on := 23, ground := Ground.data }], guard := none }) rfl (fun K hK => ?_) AllReadyH.nil)
    go_simp
    refine Calls.mono (addScaled_R c _ _ n _ _ _ _ _ (by omega) (HCW.out.drew.regs.row dst hd).row8 (HCW.out.drew.regs.row src hs).row8) ?_
    rintro e w6 ⟨q6, rfl, hb6, hr6, hg6⟩
    have hC6 := HCW.out.drew.below hb6
    have hS6 : W.grownBy w6 (some M) := grown_below (grownBy_drew (World.grownBy.refl _ _)) hb6
    go_wp2_with fail
    refine hK.out _ _ ?_ (fun hHeld => ?_)
    · exact hS6
    clear hK K
    try simp only [Act.put, List.setIfInBounds_toArray, List.set_cons_zero, List.set_cons_succ]
    refine wpAnyH_take (i := 25) (oi := { dst := some 29, op := Op.indexAddr 67 (Operand.tmp 7) (Operand.tmp 9), type := 0, pos := "prog.go:150", after := #[{ on := 3, ground := Ground.data }, { on := 5, ground := Ground.data }, { on := 0, ground := Ground.phase }, { on := 1, ground := Ground.phase }, { on := 2, ground := Ground.phase }, { on := 3, ground := Ground.phase }, { on := 4, ground := Ground.phase }, { on := 5, ground := Ground.phase }, { on := 6, ground := Ground.phase }, { on := 7, ground := Ground.phase }, { on := 8, ground := Ground.phase }, { on := 9, ground := Ground.phase }, { on := 10, ground := Ground.phase }, { on := 11, ground := Ground.phase }, { on := 12, ground := Ground.phase }, { on := 13, ground := Ground.phase }, { on := 14, ground := Ground.phase }, { on := 15, ground := Ground.phase }, { on := 16, ground := Ground.phase }, { on := 17, ground := Ground.phase }, { on := 18, ground := Ground.phase }, { on := 19, ground := Ground.phase }, { on := 20, ground := Ground.phase }, { on := 21, ground := Ground.phase }, { on := 22, ground := Ground.phase }, { on := 23, ground := Ground.phase }, { on := 24, ground := Ground.phase }], guard := none }) (v := ?_) rfl (by kernel_rfl) (by kernel_rfl) (by kernel_rfl) (fun _ _ _ h => h) (Or.inl ⟨by rfl, ?_⟩) hHeld ?_
    rotate_left
    · intro u hSw
      go_simp
      try with_reducible rfl
    try simp only [Act.put, List.setIfInBounds_toArray, List.set_cons_zero, List.set_cons_succ]
    refine wpAnyH_ready (rs := [26]) (by kernel_rfl) (by simp) ?_
    refine (AllReadyH.cons (o := { dst := none, op := Op.store 31 (Operand.tmp 29) (Operand.tmp 28), type := 0, pos := "prog.go:150", after := #[{ on := 25, ground := Ground.data }, { on := 24, ground := Ground.data }, { on := 24, ground := Ground.chain }, { on := 0, ground := Ground.phase }, { on := 1, ground := Ground.phase }, { on := 2, ground := Ground.phase }, { on := 3, ground := Ground.phase }, { on := 4, ground := Ground.phase }, { on := 5, ground := Ground.phase }, { on := 6, ground := Ground.phase }, { on := 7, ground := Ground.phase }, { on := 8, ground := Ground.phase }, { on := 9, ground := Ground.phase }, { on := 10, ground := Ground.phase }, { on := 11, ground := Ground.phase }, { on := 12, ground := Ground.phase }, { on := 13, ground := Ground.phase }, { on := 14, ground := Ground.phase }, { on := 15, ground := Ground.phase }, { on := 16, ground := Ground.phase }, { on := 17, ground := Ground.phase }, { on := 18, ground := Ground.phase }, { on := 19, ground := Ground.phase }, { on := 20, ground := Ground.phase }, { on := 21, ground := Ground.phase }, { on := 22, ground := Ground.phase }, { on := 23, ground := Ground.phase }, { on := 24, ground := Ground.phase }], guard := none }) rfl (fun K hK => ?_) AllReadyH.nil)
    have hblk := hC6.regs.blk
    have d8 : w6.frozen? ⟨M, dst, none⟩ = false := frozen_of_row _ _ _ _ _ hblk
    have d9 := cellAt hblk dst _ (slF_at hd)
    go_simp
    refine hK.out _ _ ?_ (fun hHeld => ?_)
    · exact grownBy_setCell hS6 _
    clear hK K
    try simp only [Act.put, List.setIfInBounds_toArray, List.set_cons_zero, List.set_cons_succ]
    refine wpAnyH_done (by kernel_rfl) ?_ _
    refine NoPanic.normal ?_
    have HP : Hid _ := hC6.put hd (a := some ⟨q6, 0, none⟩) (m := n) (v := fun b => ga (R (dst : Int) b) (gm c (R (src : Int) b))) hr6 (Nat.le_refl _) (fun e => by cases e)
    have HPB : Hid _ := (((HBW.out.mono hBw).drew).trans (hb6.mono (by have := HBW.out.size; simp; omega))).setCell (p := ⟨M, dst, none⟩) HCW.out.hM (.slice (some ⟨q6, 0, none⟩) n n)
    go_wp2
    exact ⟨rfl, .tuple #[], by simp [results, Tryd.results92, go_sem], rfl, ⟨_, _, HP.out, rfl⟩, HPB.out⟩
  · have m23 := cellAt HCW.out.drew.regs.blk src _ (slF_at ‹src < rg›)
    go_simp
    refine hK.out _ _ ?_ (fun hHeld => ?_)
    · exact grownBy_drew (World.grownBy.refl _ _)
    clear hK K
    try simp only [Act.put, List.setIfInBounds_toArray, List.set_cons_zero, List.set_cons_succ]
    refine wpAnyH_ready (rs := [13]) (by kernel_rfl) (by simp) ?_
    refine (AllReadyH.cons (o := { dst := some 17, op := Op.load 31 (Operand.tmp 16), type := 31, pos := "prog.go:150", after := #[{ on := 12, ground := Ground.data }], guard := none }) rfl (fun K hK => ?_) AllReadyH.nil)
    have m13 := cellAt HCW.out.drew.regs.blk dst _ (slF_at ‹dst < rg›)
    go_simp
    refine hK.out _ _ ?_ (fun hHeld => ?_)
    · exact grownBy_drew (World.grownBy.refl _ _)
    clear hK K
    try simp only [Act.put, List.setIfInBounds_toArray, List.set_cons_zero, List.set_cons_succ]
    refine wpAnyH_ready (rs := [24]) (by kernel_rfl) (by simp) ?_
    refine (AllReadyH.cons (o := { dst := some 28, op := Op.call { callee := Callee.value (Operand.func 101), args := #[Operand.tmp 17, Operand.tmp 19, Operand.tmp 27], argTypes := #[31, 5, 31] }, type := 31, pos := "prog.go:150", after := #[{ on := 13, ground := Ground.data }, { on := 15, ground := Ground.data }, { on := 23, ground := Ground.data }], guard := none }) rfl (fun K hK => ?_) AllReadyH.nil)
    go_simp
    refine Calls.mono (addScaled_R c _ _ n _ _ _ _ _ (by omega) (HCW.out.drew.regs.row dst hd).row8 (HCW.out.drew.regs.row src hs).row8) ?_
    rintro e w6 ⟨q6, rfl, hb6, hr6, hg6⟩
    have hC6 := HCW.out.drew.below hb6
    have hS6 : W.grownBy w6 (some M) := grown_below (grownBy_drew (World.grownBy.refl _ _)) hb6
    go_wp2_with fail
    refine hK.out _ _ ?_ (fun hHeld => ?_)
    · exact hS6
    clear hK K
    try simp only [Act.put, List.setIfInBounds_toArray, List.set_cons_zero, List.set_cons_succ]
    refine wpAnyH_take (i := 25) (oi := { dst := some 29, op := Op.indexAddr 67 (Operand.tmp 7) (Operand.tmp 9), type := 0, pos := "prog.go:150", after := #[{ on := 3, ground := Ground.data }, { on := 5, ground := Ground.data }, { on := 0, ground := Ground.phase }, { on := 1, ground := Ground.phase }, { on := 2, ground := Ground.phase }, { on := 3, ground := Ground.phase }, { on := 4, ground := Ground.phase }, { on := 5, ground := Ground.phase }, { on := 6, ground := Ground.phase }, { on := 7, ground := Ground.phase }, { on := 8, ground := Ground.phase }, { on := 9, ground := Ground.phase }, { on := 10, ground := Ground.phase }, { on := 11, ground := Ground.phase }, { on := 12, ground := Ground.phase }, { on := 13, ground := Ground.phase }, { on := 14, ground := Ground.phase }, { on := 15, ground := Ground.phase }, { on := 16, ground := Ground.phase }, { on := 17, ground := Ground.phase }, { on := 18, ground := Ground.phase }, { on := 19, ground := Ground.phase }, { on := 20, ground := Ground.phase }, { on := 21, ground := Ground.phase }, { on := 22, ground := Ground.phase }, { on := 23, ground := Ground.phase }, { on := 24, ground := Ground.phase }], guard := none }) (v := ?_) rfl (by kernel_rfl) (by kernel_rfl) (by kernel_rfl) (fun _ _ _ h => h) (Or.inl ⟨by rfl, ?_⟩) hHeld ?_
    rotate_left
    · intro u hSw
      go_simp
      try with_reducible rfl
    try simp only [Act.put, List.setIfInBounds_toArray, List.set_cons_zero, List.set_cons_succ]
    refine wpAnyH_ready (rs := [26]) (by kernel_rfl) (by simp) ?_
    refine (AllReadyH.cons (o := { dst := none, op := Op.store 31 (Operand.tmp 29) (Operand.tmp 28), type := 0, pos := "prog.go:150", after := #[{ on := 25, ground := Ground.data }, { on := 24, ground := Ground.data }, { on := 24, ground := Ground.chain }, { on := 0, ground := Ground.phase }, { on := 1, ground := Ground.phase }, { on := 2, ground := Ground.phase }, { on := 3, ground := Ground.phase }, { on := 4, ground := Ground.phase }, { on := 5, ground := Ground.phase }, { on := 6, ground := Ground.phase }, { on := 7, ground := Ground.phase }, { on := 8, ground := Ground.phase }, { on := 9, ground := Ground.phase }, { on := 10, ground := Ground.phase }, { on := 11, ground := Ground.phase }, { on := 12, ground := Ground.phase }, { on := 13, ground := Ground.phase }, { on := 14, ground := Ground.phase }, { on := 15, ground := Ground.phase }, { on := 16, ground := Ground.phase }, { on := 17, ground := Ground.phase }, { on := 18, ground := Ground.phase }, { on := 19, ground := Ground.phase }, { on := 20, ground := Ground.phase }, { on := 21, ground := Ground.phase }, { on := 22, ground := Ground.phase }, { on := 23, ground := Ground.phase }, { on := 24, ground := Ground.phase }], guard := none }) rfl (fun K hK => ?_) AllReadyH.nil)
    have hblk := hC6.regs.blk
    have d8 : w6.frozen? ⟨M, dst, none⟩ = false := frozen_of_row _ _ _ _ _ hblk
    have d9 := cellAt hblk dst _ (slF_at hd)
    go_simp
    refine hK.out _ _ ?_ (fun hHeld => ?_)
    · exact grownBy_setCell hS6 _
    clear hK K
    try simp only [Act.put, List.setIfInBounds_toArray, List.set_cons_zero, List.set_cons_succ]
    refine wpAnyH_done (by kernel_rfl) ?_ _
    refine NoPanic.normal ?_
    have HP : Hid _ := hC6.put hd (a := some ⟨q6, 0, none⟩) (m := n) (v := fun b => ga (R (dst : Int) b) (gm c (R (src : Int) b))) hr6 (Nat.le_refl _) (fun e => by cases e)
    have HPB : Hid _ := (((HBW.out.mono hBw).drew).trans (hb6.mono (by have := HBW.out.size; simp; omega))).setCell (p := ⟨M, dst, none⟩) HCW.out.hM (.slice (some ⟨q6, 0, none⟩) n n)
    go_wp2
    exact ⟨rfl, .tuple #[], by simp [results, Tryd.results92, go_sem], rfl, ⟨_, _, HP.out, rfl⟩, HPB.out⟩
set_option maxRecDepth 100000 in
set_option maxHeartbeats 4000000 in
theorem does_out (B cb M Q n rg no : Nat) (f : Nat → Option Addr × Nat) (g : Nat → Option (Option Addr × Nat)) (R O : Regs) (op : Int) (dst : Nat) (src : Nat) (cv : Int) (hd : dst < no) (hs : src < rg) (w : World) (hn : n ≤ 64) (hrg : rg ≤ 64) (hno : no ≤ 64) (hBw : B ≤ w.heap.size) (h : CmbW B w cb M Q n rg no f g R O) :
    Calls Tryd.prog 94 #[.pointer (some ⟨cb, 0, none⟩), .agg #[.int .i64 op, .int .i64 (dst : Int), .int .i64 (src : Int), .int .u8 cv]] w fun e w' => e = .returned (.tuple #[]) ∧ (∃ f' g', CmbW B w' cb M Q n rg no f' g' (R) (setR O (dst : Int) (R (src : Int))) ∧ g' = (fun x => if x = dst then some (f src) else g x)) ∧ Below B w w' := by
  obtain ⟨W, hW⟩ : ∃ W, W = w.alloc (.cells #[.int .i64 op, .int .i64 (dst : Int), .int .i64 (src : Int), .int .u8 cv] 48) := ⟨_, rfl⟩
  have hBW : Below w.heap.size w W := by rw [hW]; exact (Below.refl _ _).alloc (Nat.le_refl _) _
  have hbox : W.heap[w.heap.size]? = some (.cells #[.int .i64 op, .int .i64 (dst : Int), .int .i64 (src : Int), .int .u8 cv] 48 (0, 0)) := by rw [hW]; exact heap_alloc_last _ _
  have HNE : Hid (w.heap.size ≠ Q) := by have := ltHeap h.outs; show _ ≠ _; omega
  have HCW : Hid _ := h.below hBW
  have HBOX : Hid _ := hbox
  have HBW : Hid _ := hBW
  have HWE : Hid _ := hW
  clear h hBW hbox hW
  go_enter Tryd.func94, Tryd.ntmps94
  go_wp2
  rw [← HWE.out]
  clear HWE
  have k1 := cellAt HCW.out.blk 1 _ rfl
  have k2 := cellAt HCW.out.blk 2 _ rfl
  have k3 := cellAt HBOX.out 1 _ rfl
  have k4 := cellAt HBOX.out 2 _ rfl
  have k5 := cellAt HCW.out.regs.blk src _ (slF_at hs)
  have k6 := cellAt HCW.out.outs dst _ (slO_at hd)
  have k7 : W.frozen? ⟨Q, dst, none⟩ = false := frozen_of_row _ _ _ _ _ HCW.out.outs
  go_region
  have HP : Hid _ := HCW.out.drew.putO hd hs
  have HPB : Hid _ := ((HBW.out.mono hBw).drew).setCell (p := ⟨Q, dst, none⟩) HCW.out.hQ (.slice (f src).1 n (f src).2)
  clear k1 k2 k3 k4 k5 k6 k7
  go_wp2
  exact ⟨rfl, .tuple #[], by simp [results, Tryd.results94, go_sem], rfl, ⟨_, _, HP.out, rfl⟩, HPB.out⟩
end Go.Proofs.YtanmgpgiepkogaaDoor

/- Lists of numbers and of steps copied behind an empty list of one's own; Clone of the library at numbers. -/
namespace Go.Proofs.YtanmgpgiepkogaaDoor
open Go.RowKit Gf
set_option linter.unusedVariables false
set_option maxRecDepth 20000
set_option linter.unusedSimpArgs false
theorem appendI_zero (w : World) (p : Addr) (a : Option Addr) (ca : Nat) (ty : TypeId) :
    (Builtin.append_ #[22, 22] ty #[.slice (some p) 0 0, .slice a 0 ca]).run Tryd.prog w = .ok (.slice (some p) 0 0) w := by
  obtain ⟨i, hi, h1, h2, h3⟩ := infoI
  cases a <;> simp [Builtin.append_, run_underlying Tryd.underlying22, sizeOf, typeInfo, hi, Builtin.lenOf, Builtin.firstCells, loadCells, loadCellsFrom, storeCells]
theorem appendT_zero (w : World) (p : Addr) (a : Option Addr) (ca : Nat) (ty : TypeId) :
    (Builtin.append_ #[23, 23] ty #[.slice (some p) 0 0, .slice a 0 ca]).run Tryd.prog w = .ok (.slice (some p) 0 0) w := by
  obtain ⟨i, hi, h1, h2, h3⟩ := infoT4
  cases a <;> simp [Builtin.append_, run_underlying Tryd.underlying23, sizeOf, typeInfo, hi, Builtin.lenOf, Builtin.firstCells, loadCells, loadCellsFrom, storeCells]
theorem own_empty {w : World} {g : Nat} {e : TypeId} {size : Nat} (h : w.heap[g]? = some (.cells #[] e (0, 0))) {B : Nat} (hB : B ≤ g) : w.ownsRow B e size (.slice (some ⟨g, 0, none⟩) 0 0) 0 [] :=
  ⟨by simp, .inr ⟨g, 0, _, rfl, hB, h, Nat.le_refl _, Nat.zero_le _, by simp, by simp⟩⟩
/-- numbers copied behind an empty list -/
theorem copyI {w : World} {B g0 l ca : Nat} {a : Option Addr} {xs : List Int} (ty : TypeId) (ho : w.ownsRow B 3 1 (.slice (some ⟨g0, 0, none⟩) 0 0) 0 []) (hl : l = xs.length) (hl9 : l * 8 ≤ 140737488355328) (hx : RowI w a xs) (hB : B ≤ w.heap.size) :
    ∃ g cap w', (Builtin.append_ #[22, 22] ty #[.slice (some ⟨g0, 0, none⟩) 0 0, .slice a l ca]).run Tryd.prog w = .ok (.slice (some ⟨g, 0, none⟩) l cap) w' ∧
      w'.ownsRow B 3 1 (.slice (some ⟨g, 0, none⟩) l cap) l (xs.map (Value.int .i64)) ∧ w.grownBy w' (some g0) ∧ (g = g0 ∨ g = w.heap.size) := by
  by_cases h0 : l = 0
  · subst h0
    obtain rfl : xs = [] := List.eq_nil_of_length_eq_zero hl.symm
    exact ⟨g0, 0, w, appendI_zero _ _ _ _ _, ho, World.grownBy.refl _ _, .inl rfl⟩
  · rcases hx with rfl | ⟨b, off, rfl, hc⟩
    · exact absurd hl h0
    obtain ⟨i, hi, h2, h3, h4⟩ := infoI
    obtain ⟨g, cap, w', h1, h5, h6, h7, h8⟩ := run_append_lies (P := Tryd.prog) w 22 ty B 3 i _ 1 8 Tryd.underlying22 hi h4 h2 h3 rfl (by decide) _ 0 [] ho ⟨b, off, none⟩ l ca (xs.map (Value.int .i64)) (by rw [List.length_map, Nat.mul_one, hl]) (fun j u hu => by
      have ha : (⟨b, off, none⟩ : Addr).add j = ⟨b, off + j, none⟩ := by unfold Addr.add; split <;> simp_all
      rw [ha]
      rw [List.getElem?_map, Option.map_eq_some_iff] at hu
      obtain ⟨x, hx, rfl⟩ := hu
      exact hc j x hx) (fun u hu => by obtain ⟨x, _, rfl⟩ := List.mem_map.1 hu; rfl) (by omega) (by simp only [maxLen]; omega) (by omega) hB _ rfl
    rw [Nat.zero_add] at h1 h5
    rw [List.nil_append] at h5
    refine ⟨g, cap, w', h1, h5, h6, h7.imp (fun e => ?_) id⟩
    exact (Option.some.inj e).symm
theorem copyT {w : World} {B g0 l ca : Nat} {a : Option Addr} {ss : List Stp} (ty : TypeId) (ho : w.ownsRow B 48 4 (.slice (some ⟨g0, 0, none⟩) 0 0) 0 []) (hl : l = ss.length) (hl9 : l * 32 ≤ 140737488355328) (hx : StpW w a ss) (hB : B ≤ w.heap.size) :
    ∃ g cap w', (Builtin.append_ #[23, 23] ty #[.slice (some ⟨g0, 0, none⟩) 0 0, .slice a l ca]).run Tryd.prog w = .ok (.slice (some ⟨g, 0, none⟩) l cap) w' ∧
      w'.ownsRow B 48 4 (.slice (some ⟨g, 0, none⟩) l cap) l (stpsL ss) ∧ w.grownBy w' (some g0) ∧ (g = g0 ∨ g = w.heap.size) := by
  by_cases h0 : l = 0
  · subst h0
    obtain rfl : ss = [] := List.eq_nil_of_length_eq_zero hl.symm
    exact ⟨g0, 0, w, appendT_zero _ _ _ _ _, ho, World.grownBy.refl _ _, .inl rfl⟩
  · obtain ⟨b, off, rfl⟩ : ∃ b off, a = some ⟨b, off, none⟩ := by
      rcases hx with rfl | ⟨b, off, e, _⟩
      · exact absurd hl h0
      · exact ⟨b, off, e⟩
    have h0' : 0 < l := by omega
    have h32 : (0 + l) * 32 ≤ 140737488355328 := by rw [Nat.zero_add]; exact hl9
    obtain ⟨g, cap, w', h1, h5, h6, h7, h8⟩ := appendT (xs := []) (c := ca) ty ho hx hl h0' h32 hB
    rw [Nat.zero_add] at h1 h5
    exact ⟨g, cap, w', h1, h5, h6, h7.imp (fun e => (Option.some.inj e).symm) id⟩
theorem ownI_row {w : World} {B l g cap : Nat} {xs : List Int} (ho : w.ownsRow B 3 1 (.slice (some ⟨g, 0, none⟩) l cap) l (xs.map (Value.int .i64))) : RowI w (some ⟨g, 0, none⟩) xs ∧ l ≤ cap ∧ cap ≤ maxLen := by
  refine ⟨rowI_own ho, ?_⟩
  rcases ho.2 with ⟨e, _⟩ | ⟨g', cap', cur, e, hB, hg, hle, h5, _⟩
  · cases e
  · cases e; exact ⟨hle, h5⟩
theorem ownT_row {w : World} {B l g cap : Nat} {ss : List Stp} (hl : l = ss.length) (ho : w.ownsRow B 48 4 (.slice (some ⟨g, 0, none⟩) l cap) l (stpsL ss)) : StpW w (some ⟨g, 0, none⟩) ss ∧ l ≤ cap ∧ cap ≤ maxLen := by
  obtain ⟨a, c, e, _, _, h⟩ := stpW_own hl ho
  rcases ho.2 with ⟨e2, _⟩ | ⟨g', cap', cur, e2, hB, hg, hle, h5, _⟩
  · cases e2
  · cases e2; cases e; exact ⟨h, hle, h5⟩
theorem ownI_facts {w : World} {B l c : Nat} {a : Option Addr} {xs : List Int} (ho : w.ownsRow B 3 1 (.slice a l c) l (xs.map (Value.int .i64))) : RowI w a xs ∧ l ≤ c ∧ (a = none → c = 0) ∧ l = xs.length ∧ ∀ p, a = some p → p.block < w.heap.size ∧ B ≤ p.block := by
  have hl : l = xs.length := by have := ho.1; rw [List.length_map] at this; omega
  rcases ho.2 with ⟨e, h0⟩ | ⟨g, cap, cur, e, hB, hg, hle, h5, h6, h7⟩
  · cases e
    exact ⟨.inl (List.eq_nil_of_length_eq_zero (by omega)), by omega, fun _ => rfl, hl, fun p e => by cases e⟩
  · cases e
    exact ⟨rowI_own ho, hle, fun e => (by cases e), hl, fun p e => by cases e; exact ⟨ltHeap hg, hB⟩⟩
set_option maxHeartbeats 4000000 in
theorem clone_F (l cap : Nat) (a : Option Addr) (xs : List Int) (w : World) (hl : l = xs.length) (hl9 : l ≤ 1000) (hcap : l ≤ cap) (hnil : a = none → cap = 0) (hX : RowI w a xs) :
    Calls Tryd.prog 46 #[.slice a l cap] w fun e w' => ∃ a' c', e = .returned (.slice a' l c') ∧ w'.ownsRow w.heap.size 3 1 (.slice a' l c') l (xs.map (Value.int .i64)) ∧ Below w.heap.size w w' := by
  have q22 : ∀ (w : World) (a : Option Addr) (n c n' c' : Nat), (binOp .eql 22 (.slice a n c) (.slice none n' c')).run Tryd.prog w = .ok (.bool a.isNone) w := fun w a n c n' c' => Lib.run_eql_slice_nil w _ _ a n c n' c' Tryd.underlying22
  cases a with
  | none =>
    obtain rfl := hnil rfl
    obtain rfl : l = 0 := by omega
    obtain rfl : xs = [] := List.eq_nil_of_length_eq_zero hl.symm
    have HX : Hid (w.ownsRow w.heap.size 3 1 (.slice none 0 0) 0 (([] : List Int).map (Value.int .i64))) := World.ownsRow_nil _ _ _ _
    clear hX hl
    go_enter Tryd.func46, Tryd.ntmps46
    go_wp2
    go_ret
    exact ⟨none, 0, rfl, HX.out, Below.refl _ _⟩
  | some p =>
    have hb := (Below.refl w.heap.size w).alloc (Nat.le_refl _) (.cells #[] 3)
    have ho := own_empty (size := 1) (B := w.heap.size) (heap_alloc_last w (.cells #[] 3)) (Nat.le_refl _)
    obtain ⟨g, cp, w', h1, h2, h3, h4⟩ := copyI (ca := cap) 22 ho hl (by omega) (rowI_below hX hb) hb.size
    have HAP : Hid _ := h1
    have HR : Hid (w'.ownsRow w.heap.size 3 1 (.slice (some ⟨g, 0, none⟩) l cp) l (xs.map (Value.int .i64))) := h2
    have HB : Hid (Below w.heap.size w w') := below_own hb ho h3 hb.size
    clear hX hl hb ho h1 h2 h3 h4
    go_enter Tryd.func46, Tryd.ntmps46
    go_wp2_with (at_builtin; refine wpList_append_run rfl _ _ 22 rfl _ _ _ _ rfl rfl HAP.out ?_)
    go_ret
    exact ⟨some ⟨g, 0, none⟩, cp, rfl, HR.out, HB.out⟩
end Go.Proofs.YtanmgpgiepkogaaDoor

/- A range over a list from its end: the library's Backward, one round of such a loop. -/
namespace Go.Proofs.YtanmgpgiepkogaaDoor
open Go.RowKit Go.Shelf Gf
set_option linter.unusedVariables false
set_option maxRecDepth 20000
set_option linter.unusedSimpArgs false
attribute [local go_sem] Oper.semAt_some
theorem put_other9 {W : World} {l k : Nat} {o o' : Obj} (h : W.heap[k]? = some o) (hne : k ≠ l) : (W.putObj l o').heap[k]? = some o := (World.putObj_heap_other hne).trans h
theorem own_put9 {W : World} {B l n size : Nat} {v : Value} {e : TypeId} {xs : List Value} {o' : Obj} (h : W.ownsRow B e size v n xs) (hl : l < B) : (W.putObj l o').ownsRow B e size v n xs :=
  ⟨h.1, h.2.imp id fun ⟨g, cap, cur, h1, h2, h3, h4⟩ => ⟨g, cap, cur, h1, h2, put_other9 h3 (by omega), h4⟩⟩
theorem below_put9 {N l : Nat} {w W : World} {o : Obj} (h : Below N w W) (hl : N ≤ l) (hlt : l < W.heap.size) : Below N w (W.putObj l o) :=
  h.grown (grownBy_putObj' W l o) (by omega) (fun k e => by cases e; exact hl)
theorem wpListIn_append_run9 {F : Fence} {nF : Nat} {P : Program} {w : World} {ops : Array Oper} {rest : List Oper} {o : Oper} {a : Act} {Q : Exit → Act → World → Prop} (hgd : o.guard = none) (s x : Operand) (t : TypeId)
    (ho : o.op = .call { callee := .builtin .append, args := #[s, x], argTypes := #[t, t] }) (v u r : Value) (w' : World) (hs : a.eval s = v) (hx : a.eval x = u)
    (hr : (Builtin.append_ #[t, t] o.type #[v, u]).run P w = .ok r w') (h : wpListIn F nF P ops Q rest (a.put o.dst r) w') : wpListIn F nF P ops Q (o :: rest) a w := by
  refine wpListIn_plain hgd fun K hK => ?_
  unfold Oper.wpIn
  refine ⟨?_, ?_⟩
  · simp [Oper.about, ho, resolve, Target.leads, Sem.run_pure]
  · rw [Oper.semAt_plain F _ _ (by rw [ho]; intro c hc'; cases hc')]
    simp only [execOp, ho, resolve, invoke, builtin, Sem.run_bind, Sem.run_pure, Result.andThen_ok, List.map_toArray, List.map_cons, List.map_nil, hs, hx, hr]
    exact hK _ _ h
theorem one_same9 {W : World} {k : Nat} {v v' : Value} {t : TypeId} (h : W.heap[k]? = some (.cells #[v] t (0, 0))) : (W.setCell ⟨k, 0, none⟩ v').heap[k]? = some (.cells #[v'] t (0, 0)) := by
  rw [heap_setCell_same _ _ _ _ _ _ h]; rfl
theorem one_other9 {W : World} {j k : Nat} {v : Value} {o : Obj} (h : W.heap[j]? = some o) (hne : j ≠ k) : (W.setCell ⟨k, 0, none⟩ v).heap[j]? = some o := (heap_setCell_other _ _ _ _ hne).trans h
theorem range_enter9 {F : Fence} {n : Nat} {P : Program} {g : Operand} {ps : Array Tmp} {assign body : Code} {Q : Exit → Act → World → Prop} {a : Act} {w : World} {gf : Nat} {lb : Array Value} (hro : F.round = none) (h1 : 1 ≤ n)
    (hg : a.eval g = .func (.func gf) #[] lb) (hFg : F.fn gf) (eg : ∀ args w, (callFunc gf args).run P w = .ok (.enter gf args) w)
    (h : ∀ fn, F.fn fn → ∀ R : Loop, R = { state := .ready, pending := none, fn, tmps := a.tmps, params := ps, assign, body, defers := w.heap.size } →
      CallsIn F (n - 1) P gf (#[.func (.yield (w.heap.size + 1)) #[] #[]] ++ lb) ((w.alloc (.deferred (some []))).alloc (.loop R)) (rangePost F n P (w.heap.size + 1) Q { a with defers := [{ target := .collected w.heap.size, args := #[] }] ++ a.defers })) :
    (Code.rangeFunc g ps assign body).wpIn F n P Q a w := by
  refine wpIn_rangeFunc ?_
  intro fn hfn
  rw [hro]
  obtain ⟨R, hR⟩ : ∃ R : Loop, R = { state := .ready, pending := none, fn, tmps := a.tmps, params := ps, assign, body, defers := w.heap.size } := ⟨_, rfl⟩
  have hent := run_enterLoop_outer (P := P) (w := w) fn a.tmps ps assign body
  rw [← hR] at hent
  refine ⟨w.heap.size + 1, [{ target := .collected w.heap.size, args := #[] }], (w.alloc (.deferred (some []))).alloc (.loop R), { target := .fn (.func gf) lb, args := #[.func (.yield (w.heap.size + 1)) #[] #[]] }, (w.alloc (.deferred (some []))).alloc (.loop R), gf, #[.func (.yield (w.heap.size + 1)) #[] #[]] ++ lb, (w.alloc (.deferred (some []))).alloc (.loop R), hent, ?_, ?_, ?_, fun _ => h1, ?_⟩
  · simp only [resolve, hg]
    simp [go_sem]
  · intro f' hf'; simp [Target.leads] at hf'; subst hf'; exact hFg
  · simp [invoke, go_sem, eg]
  · exact h fn hfn R hR
/-- one round of a loop whose body never leaves; the assigning may lay blocks -/
theorem round_at9 {F : Fence} {m : Nat} {P : Program} {R Rb : Loop} {l : Nat} {args : Array Value} {W W1 : World} {a1 : Act} {Go : World → Prop}
    (hRb : Rb = { R with state := .busy })
    (hF : F.fn R.fn) (hl0 : W.heap[l]? = some (.loop R)) (hl : W1.heap[l]? = some (.loop R)) (hs : args.size = R.params.size) (hst : R.state = .ready) (hpe : R.pending = none)
    (hassign : ∀ K : Act → World → Prop, K a1 W1 → R.assign.wpIn (F.inRound l) m P (Exit.then K (fun _ _ _ => False)) { tmps := (R.params.zip args).foldl (fun t (p, v) => t.setIfInBounds p v) R.tmps, defers := [] } W)
    (hbody : R.body.wpIn (F.inRound l) m P (fun e _ U => match e with
      | .normal => U.heap[l]? = some (.loop Rb) ∧ Go U
      | _ => False) a1 (W1.putObj l (.loop Rb))) :
    YieldAt F m P l args W fun e U' => e = .returned (.bool true) ∧ ∃ U, U.heap[l]? = some (.loop Rb) ∧ Go U ∧ U' = U.putObj l (.loop R) := by
  subst hRb
  refine ⟨R.fn, _, R.assign, R.body, run_yield hl0 hs, roundIn_of_wpIn hF (hassign _ ⟨_, run_beginRound hl hst, wpIn_mono hbody ?_⟩)⟩
  rintro e a U h
  cases e with
  | normal =>
    refine ⟨_, _, run_endRound none h.1, rfl, U, h.1, h.2, ?_⟩
    obtain ⟨_, _⟩ := R
    simp_all
  | ret => exact h.elim
  | exit id => exact h.elim
  | goto t => exact h.elim
  | panic ch => exact h.elim
  | outgrown => exact h.elim
theorem backward_F (v : Value) (a : Option Addr) (sl sc : Nat) (hv : v = .slice a sl sc) (w : World) : Calls Tryd.prog 70 #[v] w fun e w' =>
    e = .returned (.func (.func 96) #[] #[.pointer (some ⟨w.heap.size, 0, none⟩)]) ∧ w' = w.alloc (.cells #[v] 23) := by
  subst hv
  go_enter Tryd.func70, Tryd.ntmps70
  go_wp2
  go_ret
  exact ⟨rfl, rfl⟩
set_option maxHeartbeats 8000000 in
theorem backward1_in (n : Nat) (hn : 1 ≤ n) (l bs : Nat) (a : Option Addr) (sl sc : Nat) (ss : List Stp) (hsl : sl = ss.length) (hcs : sl ≤ sc) (hs9 : sl ≤ 4096) (J : Nat → World → Prop)
    (hbx : ∀ j W, J j W → W.heap[bs]? = some (.cells #[.slice a sl sc] 23 (0, 0)) ∧ StpW W a ss)
    (hY : ∀ j s W, ss[j]? = some s → J (j + 1) W → YieldAt Fence.wide (n - 1) Tryd.prog l #[.int .i64 j, .agg #[.int .i64 s.op, .int .i64 s.dst, .int .i64 s.src, .int .u8 (s.c.toNat : Int)]] W fun e W' => e = .returned (.bool true) ∧ J j W')
    (W0 : World) (h0 : J sl W0) :
    CallsIn Fence.wide n Tryd.prog 96 #[.func (.yield l) #[] #[], .pointer (some ⟨bs, 0, none⟩)] W0 fun e W' => (∃ v, e = .returned v) ∧ J 0 W' := by
  have HBX : Hid _ := hbx
  have HY : Hid _ := hY
  have HSL : Hid (sl = ss.length) := hsl
  have c1 := cellAt (hbx _ _ h0).1 0 _ rfl
  have H0 : Hid _ := h0
  clear hbx hY h0 hsl
  refine callsIn_of_wp Tryd.func96 rfl trivial ?_ rfl
  simp only [Tryd.ntmps96, List.size_toArray, List.length_cons, List.length_nil, Nat.reduceAdd, Nat.reduceSub, Array.replicate_succ, Array.replicate_zero, List.push_toArray, List.append_toArray, List.nil_append, List.cons_append]
  gi_wp2
  gi_loopw [3] (fun i wr => ∃ (j : Nat) (x : Int), x = (j : Int) - 1 ∧ j ≤ sl ∧ i = .int .i64 x ∧ J j wr) (fun i _ => (intOf i + 1).toNat)
  case atStart => exact ⟨sl, (sl : Int) - 1, rfl, Nat.le_refl _, by first | rfl | go_num, H0.out⟩
  case round =>
    obtain ⟨j, x, hx, hj, rfl, hJ⟩ := hrel
    have HJ : Hid _ := hJ
    have c1 := cellAt (HBX.out _ _ hJ).1 0 _ rfl
    have hst := (HBX.out _ _ hJ).2
    clear hJ
    rcases j with _ | p
    · obtain rfl : x = -1 := by omega
      clear hx
      gi_wp2
      go_end0
      exact ⟨⟨_, rfl⟩, HJ.out⟩
    · obtain rfl : x = (p : Int) := by omega
      have hps : p < ss.length := by rw [← HSL.out]; omega
      have hget : ss[p]? = some ss[p] := List.getElem?_eq_getElem hps
      obtain ⟨b, off, rfl, hc⟩ := stpW_get hst hps
      obtain ⟨k0, k1, k2, k3⟩ := hc p hps
      obtain ⟨⟨op, dst, src, c⟩, hs⟩ : ∃ s, ss[p] = s := ⟨_, rfl⟩
      rw [hs] at k0 k1 k2 k3 hget
      simp only at k0 k1 k2 k3
      obtain ⟨fn, tmps, assign, body, hy, hR⟩ := HY.out p _ wr hget HJ.out
      dsimp only at hy
      clear hc hs hget hst hx hps
      gi_wp2
      refine hR.mono ?_
      rintro e W' ⟨rfl, hJ'⟩
      have HJ2 : Hid _ := hJ'
      clear hJ'
      gi_wp2
      exact ⟨⟨p, (p : Int) - 1, rfl, by omega, by first | rfl | go_num, HJ2.out⟩, by simp [intOf] <;> omega⟩
end Go.Proofs.YtanmgpgiepkogaaDoor

/- What busy of package prog answers of steps in form: those that are not idle. -/
namespace Go.Proofs.YtanmgpgiepkogaaDoor
open Go.RowKit Go.Shelf Gf
set_option linter.unusedVariables false
set_option maxRecDepth 20000
set_option linter.unusedSimpArgs false
attribute [local go_sem] Oper.semAt_some
/-- what stands between two rounds, j steps being left -/
structure ByC (N : Nat) (w W : World) (sa : Option Addr) (sl sc : Nat) (ss : List Stp) (j : Nat) : Prop where
  ask : W.heap[N]? = some (.cells (visB (askN (liv (ss.drop j)))) 128 (0, 0))
  kept : ∃ a m c, W.heap[N + 1]? = some (.cells #[.slice a m c] 23 (0, 0)) ∧ m = (trimS (ss.drop j)).length ∧ W.ownsRow (N + 5) 48 4 (.slice a m c) m (stpsL (trimS (ss.drop j)).reverse)
  box : W.heap[N + 2]? = some (.cells #[.slice sa sl sc] 23 (0, 0))
  dfr : W.heap[N + 3]? = some (.deferred (some []))
  size : N + 5 ≤ W.heap.size
  bel : Below N w W
theorem ByC.put {N sl sc j : Nat} {w W : World} {sa : Option Addr} {ss : List Stp} (h : ByC N w W sa sl sc ss j) (o : Obj) : ByC N w (W.putObj (N + 4) o) sa sl sc ss j :=
  ⟨put_other9 h.ask (by omega), by obtain ⟨a, m, c, h1, h2, h3⟩ := h.kept; exact ⟨a, m, c, put_other9 h1 (by omega), h2, own_put9 h3 (by omega)⟩, put_other9 h.box (by omega), put_other9 h.dfr (by omega), by have := h.size; simpa using this, below_put9 h.bel (by omega) (by have := h.size; omega)⟩
theorem ByC.alloc {N sl sc j : Nat} {w W : World} {sa : Option Addr} {ss : List Stp} (h : ByC N w W sa sl sc ss j) (o : Obj) : ByC N w (W.alloc o) sa sl sc ss j := by
  have hb := (Below.refl W.heap.size W).alloc (Nat.le_refl _) o
  have hs := h.size
  exact ⟨heap_later h.ask hb, by obtain ⟨a, m, c, h1, h2, h3⟩ := h.kept; exact ⟨a, m, c, heap_later h1 hb, h2, own_below h3 hb⟩, heap_later h.box hb, heap_later h.dfr hb, by simp; omega, h.bel.alloc (by omega) _⟩
theorem own_lower9 {w : World} {B B' size n : Nat} {v : Value} {e : TypeId} {xs : List Value} (h : w.ownsRow B e size v n xs) (hb : B' ≤ B) : w.ownsRow B' e size v n xs :=
  ⟨h.1, h.2.imp id fun ⟨g, cap, cur, h1, h2, h3⟩ => ⟨g, cap, cur, h1, Nat.le_trans hb h2, h3⟩⟩
theorem bsy_drop {ss : List Stp} {j : Nat} {s : Stp} (h : ss[j]? = some s) : ss.drop j = s :: ss.drop (j + 1) := by
  have hp : j < ss.length := (List.getElem?_eq_some_iff.1 h).1
  rw [List.drop_eq_getElem_cons hp]
  congr 1
  exact (List.getElem?_eq_some_iff.1 h).2
theorem ask0 : visB (askN (liv [])) = #[.bool false, .bool false, .bool false, .bool false, .bool false, .bool false, .bool false, .bool false, .bool false, .bool false, .bool false, .bool false, .bool false, .bool false, .bool false, .bool false, .bool false, .bool false, .bool false, .bool false, .bool false, .bool false, .bool false, .bool false, .bool false, .bool false, .bool false, .bool false, .bool false, .bool false, .bool false, .bool false, .bool false, .bool false, .bool false, .bool false, .bool false, .bool false, .bool false, .bool false, .bool false, .bool false, .bool false, .bool false, .bool false, .bool false, .bool false, .bool false, .bool false, .bool false, .bool false, .bool false, .bool false, .bool false, .bool false, .bool false, .bool false, .bool false, .bool false, .bool false, .bool false, .bool false, .bool false, .bool false] := by rfl
set_option maxRecDepth 100000 in
set_option maxHeartbeats 16000000 in
theorem busy_in (sa : Option Addr) (sl sc ni no rg : Nat) (ss : List Stp) (w : World) (hsl : sl = ss.length) (hcs : sl ≤ sc) (hs9 : sl ≤ 4096) (hrg : rg ≤ 64) (hok : ∀ s ∈ ss, OkS ni no rg s) (hS : StpW w sa ss) :
    CallsIn Fence.wide 5 Tryd.prog 47 #[.slice sa sl sc] w fun e w' => (∃ a m c, e = .returned (.slice a m c) ∧ m = (trimS ss).length ∧ w'.ownsRow (w.heap.size + 5) 48 4 (.slice a m c) m (stpsL (trimS ss))) ∧ Below w.heap.size w w' := by
  have HSL : Hid (sl = ss.length) := hsl
  have HS : Hid (StpW w sa ss) := hS
  have HOK : Hid (∀ s ∈ ss, OkS ni no rg s) := hok
  clear hsl hS hok
  refine callsIn_of_wp_marks Tryd.func47 rfl trivial ?_ rfl
  simp only [Tryd.ntmps47, List.size_toArray, List.length_cons, List.length_nil, Nat.reduceAdd, Nat.reduceSub, Array.replicate_succ, Array.replicate_zero, List.push_toArray, List.append_toArray, List.nil_append, List.cons_append]
  gi_wp2_with fail
  refine ⟨trivial, (callsIn_wide.2 (backward_F (.slice sa sl sc) sa sl sc rfl _)).mono ?_⟩
  rintro e w2 ⟨rfl, hw2⟩
  have hA := holds_new (holds_new (holds_new (holds_nil w) (visB (askN (liv []))) 128) #[.slice none 0 0] 23) #[.slice sa sl sc] 23
  have hB := ((((Below.refl _ w).alloc (Nat.le_refl _) (.cells (visB (askN (liv []))) 128)).alloc (by simp) (.cells #[.slice none 0 0] 23)).alloc (by simp; omega) (.cells #[.slice sa sl sc] 23))
  rw [ask0] at hA hB
  rw [← hw2] at hA hB
  have hsz2 : w2.heap.size = w.heap.size + 3 := by rw [hw2]; simp
  simp only [World.size_alloc] at hA ⊢
  have HA : Hid _ := hA
  have HB : Hid (Below w.heap.size w w2) := hB
  clear hA hB hw2
  gi_wp2
  refine range_enter9 (gf := 96) (lb := #[.pointer (some ⟨w.heap.size + 1 + 1, 0, none⟩)]) rfl (by omega) rfl trivial (enters_of Tryd.func96 (by kernel_rfl) rfl) ?_
  intro fn hfn R hR
  rw [hsz2]
  obtain ⟨N, hN⟩ : ∃ N, N = w.heap.size := ⟨_, rfl⟩
  rw [← hN] at HA HB hsz2 hR ⊢
  have HN : Hid (N = w.heap.size) := hN
  clear hN
  have g0 := holds_at HA.out 2 rfl
  have g1 := holds_at HA.out 1 rfl
  have g2 := holds_at HA.out 0 rfl
  rw [← ask0] at g0
  have hB9 : Below N w w2 := HB.out
  have hszN : w2.heap.size = N + 3 := hsz2
  refine (backward1_in (5 - 1) (by omega) (N + 3 + 1) (N + 1 + 1) sa sl sc ss HSL.out hcs hs9 (fun j W => ByC N w W sa sl sc ss j ∧ W.heap[N + 4]? = some (.loop R)) ?hbx ?hY _ ?h0).mono ?_
  case hbx => exact fun j W h => ⟨h.1.box, stpW_below HS.out (by rw [← HN.out]; exact h.1.bel)⟩
  case h0 =>
    have ho : ∀ {q : Nat} {o : Obj}, w2.heap[q]? = some o → ((w2.alloc (.deferred (some []))).alloc (.loop R)).heap[q]? = some o := fun {q o} h => (Below.heap_alloc _ _ _ (by simp; have := (Array.getElem?_eq_some_iff.1 h).1; omega)).trans ((Below.heap_alloc _ _ _ (Array.getElem?_eq_some_iff.1 h).1).trans h)
    have hd : ((w2.alloc (.deferred (some []))).alloc (.loop R)).heap[N + 3]? = some (.deferred (some [])) := by
      rw [← hszN]; exact (Below.heap_alloc _ _ _ (by simp)).trans (World.alloc_heap_new w2 _)
    have hl : ((w2.alloc (.deferred (some []))).alloc (.loop R)).heap[N + 4]? = some (.loop R) := by
      have := World.alloc_heap_new (w2.alloc (.deferred (some []))) (.loop R)
      rw [World.size_alloc, hszN] at this
      exact this
    refine ⟨⟨?_, ⟨none, 0, 0, ho g1, ?_, ?_⟩, ho g2, hd, by simp; omega, (hB9.alloc (by omega) _).alloc (by simp; omega) _⟩, hl⟩
    · rw [HSL.out, List.drop_length]; exact ho g0
    · rw [HSL.out, List.drop_length]; rfl
    · rw [HSL.out, List.drop_length]; exact World.ownsRow_nil _ _ _ _
  case hY =>
    rintro j ⟨op, dst, src, c⟩ W hget ⟨hp, hl⟩
    have hok := HOK.out _ (List.mem_of_getElem? hget)
    have hop : 1 ≤ op ∧ op ≤ 5 := by unfold OkS at hok; simp only at hok; omega
    have hd5 : op ≠ 5 → 0 ≤ dst ∧ dst < 64 := fun e => by unfold OkS at hok; simp only at hok; omega
    have hs45 : op = 4 ∨ op = 5 → 0 ≤ src ∧ src < 64 := fun e => by unfold OkS at hok; simp only at hok; omega
    have HDR : Hid (ss.drop j = ⟨op, dst, src, c⟩ :: ss.drop (j + 1)) := bsy_drop hget
    have hjl : (ss.drop (j + 1)).length ≤ 4096 := by rw [List.length_drop]; have := HSL.out; omega
    have hRb := congrArg Loop.body hR
    have hRa := congrArg Loop.assign hR
    have hRt := congrArg Loop.tmps hR
    have hRp := congrArg Loop.params hR
    have hRs := congrArg Loop.state hR
    have hRe := congrArg Loop.pending hR
    dsimp only at hRb hRa hRt hRp hRs hRe
    obtain ⟨Rb, hRb2⟩ : ∃ Rb : Loop, Rb = { R with state := .busy } := ⟨_, rfl⟩
    have hW1 : (W.alloc (.cells #[.int .i64 op, .int .i64 dst, .int .i64 src, .int .u8 (c.toNat : Int)] 48)).heap[N + 3 + 1]? = some (.loop R) := heap_later hl ((Below.refl _ _).alloc (Nat.le_refl _) _)
    have hYY := round_at9 (F := Fence.wide) (m := 5 - 1 - 1) (P := Tryd.prog) (l := N + 3 + 1) (args := #[.int .i64 j, .agg #[.int .i64 op, .int .i64 dst, .int .i64 src, .int .u8 (c.toNat : Int)]]) (W := W) (W1 := W.alloc (.cells #[.int .i64 op, .int .i64 dst, .int .i64 src, .int .u8 (c.toNat : Int)] 48)) (Go := fun U => ByC N w U sa sl sc ss j)
      (a1 := { tmps := #[.slice sa sl sc, undef, .slice none 0 0, .pointer (some ⟨N, 0, none⟩), .pointer (some ⟨N + 1, 0, none⟩), undef, .pointer (some ⟨W.heap.size, 0, none⟩), .slice sa sl sc, .func (.func 96) #[] #[.pointer (some ⟨N + 1 + 1, 0, none⟩)], .int .i64 j, .agg #[.int .i64 op, .int .i64 dst, .int .i64 src, .int .u8 (c.toNat : Int)], undef, undef, undef, undef, undef, undef, undef, undef, undef, undef], defers := [] })
      hRb2 trivial hl hW1 (by rw [hRp]; rfl) hRs hRe ?asg ?bod
    case asg =>
      intro K hK
      rw [hRa, hRt, hRp]
      gi_wp2
      exact hK
    case bod =>
      rw [hRb]
      have hpU := (hp.alloc (.cells #[.int .i64 op, .int .i64 dst, .int .i64 src, .int .u8 (c.toNat : Int)] 48)).put (.loop Rb)
      have hlU : ((W.alloc (.cells #[.int .i64 op, .int .i64 dst, .int .i64 src, .int .u8 (c.toNat : Int)] 48)).putObj (N + 4) (.loop Rb)).heap[N + 4]? = some (.loop Rb) := World.putObj_heap_same (Array.getElem?_eq_some_iff.1 hW1).1
      have hbU : ((W.alloc (.cells #[.int .i64 op, .int .i64 dst, .int .i64 src, .int .u8 (c.toNat : Int)] 48)).putObj (N + 4) (.loop Rb)).heap[W.heap.size]? = some (.cells #[.int .i64 op, .int .i64 dst, .int .i64 src, .int .u8 (c.toNat : Int)] 48 (0, 0)) := put_other9 (heap_alloc_last _ _) (by have := hp.size; omega)
      have hbN : N + 5 ≤ W.heap.size := hp.size
      clear hRb hRa hRt hRp hRs hRe hRb2 hR hl hW1 hp g0 g1 g2 hB9 hsz2 hszN
      show Code.wpIn _ _ _ _ _ _ ((W.alloc (.cells #[.int .i64 op, .int .i64 dst, .int .i64 src, .int .u8 (c.toNat : Int)] 48)).putObj (N + 4) (.loop Rb))
      generalize ((W.alloc (.cells #[.int .i64 op, .int .i64 dst, .int .i64 src, .int .u8 (c.toNat : Int)] 48)).putObj (N + 4) (.loop Rb)) = U at *
      generalize W.heap.size = bx at *
      have HPU : Hid _ := hpU
      have HLU : Hid _ := hlU
      have HBU : Hid _ := hbU
      have b0 := cellAt hbU 0 _ rfl
      have b1 := cellAt hbU 1 _ rfl
      have b2 := cellAt hbU 2 _ rfl
      have b3 := cellAt hbU 3 _ rfl
      have HIF : Hid _ := idle_F N (liv (ss.drop (j + 1))) op dst src c U hop hd5 hs45 hpU.ask
      clear hpU hlU hbU hop hd5 hs45 hok hget
      gi_wp2_with fail
      refine ⟨trivial, CallsIn.inRound _ ((callsIn_wide.2 HIF.out).mono ?_)⟩
      rintro e w4 ⟨rfl, hask4, hg4⟩
      obtain ⟨b, hb⟩ : ∃ b, b = bsyS ⟨op, dst, src, c⟩ (liv (ss.drop (j + 1))) := ⟨_, rfl⟩
      rw [← hb] at hask4 ⊢
      have HBB : Hid (b = bsyS ⟨op, dst, src, c⟩ (liv (ss.drop (j + 1)))) := hb
      have hkeep : ∀ {q : Nat} {o : Obj}, q ≠ N → U.heap[q]? = some o → w4.heap[q]? = some o := fun {q o} hq hu => (hg4.block q (Array.getElem?_eq_some_iff.1 hu).1 (by simpa using hq)).trans hu
      obtain ⟨a, m, cp, k1, k2, k3⟩ := HPU.out.kept
      have hown4 : w4.ownsRow (N + 5) 48 4 (.slice a m cp) m (stpsL (trimS (ss.drop (j + 1))).reverse) := ⟨k3.1, k3.2.imp id fun ⟨g, cap, cur, q1, q2, q3, q4⟩ => ⟨g, cap, cur, q1, q2, hkeep (by omega) q3, q4⟩⟩
      have HK1 : Hid (w4.heap[N + 1]? = some (.cells #[.slice a m cp] 23 (0, 0))) := hkeep (by omega) k1
      have HK2 : Hid (w4.heap[N + 1 + 1]? = some (.cells #[.slice sa sl sc] 23 (0, 0))) := hkeep (by omega) HPU.out.box
      have HK3 : Hid (w4.heap[N + 3]? = some (.deferred (some []))) := hkeep (by omega) HPU.out.dfr
      have HK4 : Hid (w4.heap[N + 4]? = some (.loop Rb)) := hkeep (by omega) HLU.out
      have HBX : Hid (w4.heap[bx]? = some (.cells #[.int .i64 op, .int .i64 dst, .int .i64 src, .int .u8 (c.toNat : Int)] 48 (0, 0))) := hkeep (by omega) HBU.out
      have HZ4 : Hid (N + 5 ≤ w4.heap.size) := Nat.le_trans HPU.out.size hg4.size
      have HB4 : Hid (Below N w w4) := HPU.out.bel.grown hg4 (by have := HPU.out.size; omega) (fun k e => by cases e; exact Nat.le_refl _)
      have HASK : Hid _ := hask4
      have HM : Hid (m = (trimS (ss.drop (j + 1))).length) := k2
      have HOW : Hid (w4.ownsRow (N + 5) 48 4 (.slice a m cp) m (stpsL (trimS (ss.drop (j + 1))).reverse)) := hown4
      have hm9 : m ≤ 4096 := by rw [k2]; exact Nat.le_trans (trim_len _) hjl
      clear hask4 hg4 hb hkeep k1 k2 k3 hown4 b0 b1 b2 b3 hjl
      cases b
      · have HT : Hid (trimS (ss.drop j) = trimS (ss.drop (j + 1)) ∧ liv (ss.drop j) = liv (ss.drop (j + 1))) := by
          rw [HDR.out, trimS, liv, ← HBB.out]; exact ⟨rfl, rfl⟩
        gi_wp2
        refine ⟨HK4.out, ⟨?_, ⟨a, m, cp, HK1.out, ?_, ?_⟩, HK2.out, HK3.out, HZ4.out, HB4.out⟩⟩
        · rw [HT.out.2]; exact HASK.out
        · rw [HT.out.1]; exact HM.out
        · rw [HT.out.1]; exact HOW.out
      · have HT : Hid (trimS (ss.drop j) = ⟨op, dst, src, c⟩ :: trimS (ss.drop (j + 1)) ∧ liv (ss.drop j) = aftS ⟨op, dst, src, c⟩ (liv (ss.drop (j + 1)))) := by
          rw [HDR.out, trimS, liv, ← HBB.out]; exact ⟨rfl, rfl⟩
        have c1 := cellAt HK1.out 0 _ rfl
        have b0 := cellAt HBX.out 0 _ rfl
        have b1 := cellAt HBX.out 1 _ rfl
        have b2 := cellAt HBX.out 2 _ rfl
        have b3 := cellAt HBX.out 3 _ rfl
        have hx5 := heap_alloc_last w4 (.cells #[.int .i64 op, .int .i64 dst, .int .i64 src, .int .u8 (c.toNat : Int)] 48)
        have hst5 : StpW (w4.alloc (.cells #[.int .i64 op, .int .i64 dst, .int .i64 src, .int .u8 (c.toNat : Int)] 48)) (some ⟨w4.heap.size, 0, none⟩) [⟨op, dst, src, c⟩] := stpW_cells (o := 0) hx5 fun q hq => by rw [Nat.zero_add, ← List.getElem?_toArray]; rfl
        have hbel5 := (Below.refl w4.heap.size w4).alloc (Nat.le_refl _) (.cells #[.int .i64 op, .int .i64 dst, .int .i64 src, .int .u8 (c.toNat : Int)] 48)
        have ho5 := own_below HOW.out hbel5
        obtain ⟨g6, cp6, w6, hrun, ho6, hg6, hor6, hlt6⟩ := appendT (c := 1) 23 ho5 hst5 (show 1 = ([⟨op, dst, src, c⟩] : List Stp).length from rfl) (by omega) (by omega) (by have := HZ4.out; simp; omega)
        have keep6 : ∀ {q : Nat} {o : Obj}, q < N + 5 → w4.heap[q]? = some o → w6.heap[q]? = some o := fun {q o} hq hu => (hg6.block q (by simp; have := HZ4.out; omega) (fun e => by have := (ho5.lt q e.symm).1; omega)).trans (heap_later hu hbel5)
        have hb6 : Below N w w6 := below_own (HB4.out.alloc (by have := HZ4.out; omega) _) (own_lower9 ho5 (show N ≤ N + 5 by omega)) hg6 (by have := HZ4.out; simp; omega)
        have k1 := keep6 (by omega) HK1.out
        have f1 : w6.frozen? ⟨N + 1, 0, none⟩ = false := frozen_of_row _ _ _ _ _ k1
        have c6 := cellAt k1 0 _ rfl
        have HZ6 : Hid (N + 5 ≤ w6.heap.size) := by have h1 := hg6.size; have h2 := HZ4.out; show _ ≤ _; simp at h1; omega
        have HRun : Hid _ := hrun
        have HO6 : Hid (w6.ownsRow (N + 5) 48 4 (.slice (some ⟨g6, 0, none⟩) (m + 1) cp6) (m + 1) (stpsL ((trimS (ss.drop (j + 1))).reverse ++ [⟨op, dst, src, c⟩]))) := ho6
        have HB6 : Hid _ := hb6
        have HK6 : Hid _ := k1
        have HKEEP : Hid _ := @keep6
        clear hx5 hst5 hbel5 ho5 hrun ho6 hg6 hor6 hlt6 keep6 hb6 k1
        gi_wp2_with (gi_at_builtin; refine wpListIn_append_run9 rfl _ _ 23 rfl _ _ _ _ rfl rfl HRun.out ?_)
        have hs : ∀ {q : Nat} {o : Obj}, q < N + 5 → q ≠ N + 1 → w4.heap[q]? = some o → (w6.setCell ⟨N + 1, 0, none⟩ (.slice (some ⟨g6, 0, none⟩) (m + 1) cp6)).heap[q]? = some o := fun {q o} h1 h2 h3 => one_other9 (HKEEP.out h1 h3) h2
        refine ⟨hs (by omega) (by omega) HK4.out, ⟨?_, ⟨some ⟨g6, 0, none⟩, m + 1, cp6, one_same9 HK6.out, ?_, ?_⟩, hs (by omega) (by omega) HK2.out, hs (by omega) (by omega) HK3.out, by simpa using HZ6.out, HB6.out.setCell (p := ⟨N + 1, 0, none⟩) (by show N ≤ N + 1; omega) _⟩⟩
        · rw [HT.out.2]; exact hs (by omega) (by omega) HASK.out
        · rw [HT.out.1, List.length_cons, HM.out]
        · rw [HT.out.1, List.reverse_cons]
          exact ⟨HO6.out.1, HO6.out.2.imp id fun ⟨g, cap, cur, q1, q2, q3, q4⟩ => ⟨g, cap, cur, q1, q2, one_other9 q3 (by omega), q4⟩⟩
    obtain ⟨fn', tm', as', bd', hy, hRr⟩ := hYY
    refine ⟨fn', tm', as', bd', hy, hRr.mono ?_⟩
    rintro e W' ⟨rfl, U, hU, h1', rfl⟩
    exact ⟨rfl, h1'.put _, World.putObj_heap_same (Array.getElem?_eq_some_iff.1 hU).1⟩
  rintro e W2 ⟨⟨v, rfl⟩, hp, hl⟩
  have he := run_endLoop (P := Tryd.prog) hl (by rw [hR]; simp)
  rw [show R.pending = none by rw [hR]] at he
  have hp2 := hp.put (.loop { R with state := .exhausted })
  obtain ⟨U, hU⟩ : ∃ U, U = W2.putObj (N + 4) (.loop { R with state := .exhausted }) := ⟨_, rfl⟩
  rw [← hU] at hp2
  have he2 : (Instr.endLoop (N + 3 + 1)).run Tryd.prog W2 = .ok none U := he.trans (by rw [hU, show R.pending = none by rw [hR]])
  refine ⟨none, U, he2, ?_⟩
  clear he he2 hR hp hl hU g0 g1 g2 hB9 hsz2 hszN
  dsimp only [List.cons_append, List.nil_append]
  obtain ⟨a, m, cp, k1, k2, k3⟩ := hp2.kept
  rw [List.drop_zero] at k2 k3
  have HK1 : Hid _ := k1
  have HM : Hid (m = (trimS ss).length) := k2
  have HOW : Hid (U.ownsRow (N + 5) 48 4 (.slice a m cp) m (stpsL (trimS ss).reverse)) := k3
  have HD3 : Hid _ := hp2.dfr
  have HBB : Hid _ := hp2.bel
  have HZ : Hid _ := hp2.size
  have hm9 : m ≤ 4096 := by rw [k2]; exact Nat.le_trans (trim_len _) (by have := HSL.out; omega)
  have c1 := cellAt k1 0 _ rfl
  clear hp2 k1 k2 k3
  gi_wp2_with fail
  refine ⟨trivial, (callsIn_wide.2 (reverse_F (N + 5) m (.slice a m cp) (trimS ss).reverse U HOW.out hm9)).mono ?_⟩
  rw [List.reverse_reverse]
  rintro e w7 ⟨rfl, ho7, hg7⟩
  have keep7 : ∀ {q : Nat} {o : Obj}, q < N + 5 → U.heap[q]? = some o → w7.heap[q]? = some o := fun {q o} hq hu => (hg7.block q (Array.getElem?_eq_some_iff.1 hu).1 (fun e => by have := (HOW.out.lt q e.symm).1; omega)).trans hu
  have hk7 := keep7 (by omega) HK1.out
  have c7 := cellAt hk7 0 _ rfl
  have HO7 : Hid (w7.ownsRow (N + 5) 48 4 (.slice a m cp) m (stpsL (trimS ss))) := ho7
  have HD7 : Hid _ := keep7 (by omega) HD3.out
  have HB7 : Hid (Below N w w7) := below_own HBB.out (own_lower9 HOW.out (show N ≤ N + 5 by omega)) hg7 (by have := HZ.out; omega)
  clear ho7 hg7 keep7 hk7
  gi_wp2
  obtain rfl := HN.out
  refine ⟨by simp, .inl ⟨_, _, rfl, run_takeDeferred HD7.out, ?_⟩⟩
  exact ⟨_, results_tmp rfl _ _ _, ⟨a, m, cp, rfl, HM.out, own_put9 HO7.out (by omega)⟩, below_put9 HB7.out (by omega) (Array.getElem?_eq_some_iff.1 HD7.out).1⟩
end Go.Proofs.YtanmgpgiepkogaaDoor

/- What the document's own Copy of a program answers: the same in memory of its own. -/
namespace Go.Proofs.YtanmgpgiepkogaaDoor
open Go.RowKit Gf
set_option linter.unusedVariables false
set_option maxRecDepth 20000
set_option linter.unusedSimpArgs false
theorem grown_below9 {W X Y : World} {r : Nat} (h : W.grownBy X (some r)) (hX : Below W.heap.size W X) (hY : Below W.heap.size W Y) : W.grownBy Y (some r) :=
  ⟨hY.os, hY.tape, hY.output, hY.size, fun k hk _ => hY.block k hk⟩
theorem own_lt9 {w : World} {B n g l cap size : Nat} {e : TypeId} {xs : List Value} (ho : w.ownsRow B e size (.slice (some ⟨g, 0, none⟩) l cap) n xs) : g < w.heap.size := (ho.lt g rfl).2
theorem own_kept9 {w w' : World} {B size n g l c r : Nat} {e : TypeId} {xs : List Value} (ho : w.ownsRow B e size (.slice (some ⟨g, 0, none⟩) l c) n xs) (hg : w.grownBy w' (some r)) (hne : g ≠ r) : w'.ownsRow B e size (.slice (some ⟨g, 0, none⟩) l c) n xs :=
  ⟨ho.1, ho.2.imp id fun ⟨g', cap, cur, h1, h2, h3, h4⟩ => ⟨g', cap, cur, h1, h2, (hg.block g' (ltHeap h3) (fun e => by
    have e1 : g = g' := by cases h1; rfl
    have e2 : g' = r := Option.some.inj e
    exact hne (e1.trans e2))).trans h3, h4⟩⟩
theorem own_set9 {w : World} {B n g : Nat} {v u : Value} {xs : List Value} {e : TypeId} {size i : Nat} (ho : w.ownsRow B e size v n xs) (hg : g < B) : (w.setCell ⟨g, i, none⟩ u).ownsRow B e size v n xs :=
  ⟨ho.1, ho.2.imp id fun ⟨g', cap, cur, h1, h2, h3, h4⟩ => ⟨g', cap, cur, h1, h2, (heap_setCell_other _ _ _ _ (by show g' ≠ g; omega)).trans h3, h4⟩⟩
theorem copy_end9 {N il ol sl c1 c2 c3 g1 g2 g3 : Nat} {rg : Int} {W X Z : World} {ins outs : List Int} {ss : List Stp} (hz : N + 1 < W.heap.size) (hk : X.heap[N + 1]? = some (.cells #[.slice none 0 0, .slice none 0 0, .int .i64 0, .slice none 0 0] 25 (0, 0))) (hb : Below W.heap.size W X)
    (h1 : X.ownsRow W.heap.size 3 1 (.slice (some ⟨g1, 0, none⟩) il c1) il (ins.map (Value.int .i64))) (h2 : X.ownsRow W.heap.size 3 1 (.slice (some ⟨g2, 0, none⟩) ol c2) ol (outs.map (Value.int .i64))) (h3 : X.ownsRow W.heap.size 48 4 (.slice (some ⟨g3, 0, none⟩) sl c3) sl (stpsL ss))
    (hZ : Z = ((((X.setCell ⟨N + 1, 0, none⟩ (.slice (some ⟨g1, 0, none⟩) il c1)).setCell ⟨N + 1, 1, none⟩ (.slice (some ⟨g2, 0, none⟩) ol c2)).setCell ⟨N + 1, 2, none⟩ (.int .i64 rg)).setCell ⟨N + 1, 3, none⟩ (.slice (some ⟨g3, 0, none⟩) sl c3))) :
    Z.heap[N + 1]? = some (.cells #[.slice (some ⟨g1, 0, none⟩) il c1, .slice (some ⟨g2, 0, none⟩) ol c2, .int .i64 rg, .slice (some ⟨g3, 0, none⟩) sl c3] 25 (0, 0)) ∧ Below (N + 1) W Z ∧
      Z.ownsRow W.heap.size 3 1 (.slice (some ⟨g1, 0, none⟩) il c1) il (ins.map (Value.int .i64)) ∧ Z.ownsRow W.heap.size 3 1 (.slice (some ⟨g2, 0, none⟩) ol c2) ol (outs.map (Value.int .i64)) ∧ Z.ownsRow W.heap.size 48 4 (.slice (some ⟨g3, 0, none⟩) sl c3) sl (stpsL ss) := by
  subst hZ
  refine ⟨?_, ?_, own_set9 (own_set9 (own_set9 (own_set9 h1 hz) hz) hz) hz, own_set9 (own_set9 (own_set9 (own_set9 h2 hz) hz) hz) hz, own_set9 (own_set9 (own_set9 (own_set9 h3 hz) hz) hz) hz⟩
  · rw [heap_setCell_same _ _ _ _ _ _ (heap_setCell_same _ _ _ _ _ _ (heap_setCell_same _ _ _ _ _ _ (heap_setCell_same _ _ _ _ _ _ hk)))]
    rfl
  · exact ((((hb.mono (by omega)).setCell (by simp) _).setCell (by simp) _).setCell (by simp) _).setCell (by simp) _
set_option maxRecDepth 100000 in
set_option maxHeartbeats 16000000 in
theorem copy_F (ia oa sa : Option Addr) (il ic ol oc sl sc : Nat) (rg : Int) (ins outs : List Int) (ss : List Stp) (w : World) (hP : PrgW w ia oa sa il ic ol oc sl sc ins outs ss) (hib : ic ≤ 17592186043904) (hob : oc ≤ 17592186043904) (hsb : sc ≤ 4398046510976) :
    Calls Tryd.prog 8 #[.agg #[.slice ia il ic, .slice oa ol oc, .int .i64 rg, .slice sa sl sc]] w fun e w' => ∃ g1 c1 g2 c2 g3 c3, e = .returned (.agg #[.slice (some ⟨g1, 0, none⟩) il c1, .slice (some ⟨g2, 0, none⟩) ol c2, .int .i64 rg, .slice (some ⟨g3, 0, none⟩) sl c3]) ∧
      w'.ownsRow w.heap.size 3 1 (.slice (some ⟨g1, 0, none⟩) il c1) il (ins.map (Value.int .i64)) ∧ w'.ownsRow w.heap.size 3 1 (.slice (some ⟨g2, 0, none⟩) ol c2) ol (outs.map (Value.int .i64)) ∧ w'.ownsRow w.heap.size 48 4 (.slice (some ⟨g3, 0, none⟩) sl c3) sl (stpsL ss) ∧ Below w.heap.size w w' := by
  have b8i : il * 8 ≤ 140737488355328 := by have := hP.cil; omega
  have b8o : ol * 8 ≤ 140737488355328 := by have := hP.col; omega
  have b32 : sl * 32 ≤ 140737488355328 := by have := hP.csl; omega
  have HIL : Hid (il = ins.length) := hP.eil
  have HOL : Hid (ol = outs.length) := hP.eol
  have HSL : Hid (sl = ss.length) := hP.esl
  have hA0 := holds_new (holds_new (holds_nil w) #[.slice ia il ic, .slice oa ol oc, .int .i64 rg, .slice sa sl sc] 25) #[.slice none 0 0, .slice none 0 0, .int .i64 0, .slice none 0 0] 25
  simp only [World.size_alloc] at hA0
  have hb0 : Below w.heap.size w ((w.alloc (.cells #[.slice ia il ic, .slice oa ol oc, .int .i64 rg, .slice sa sl sc] 25)).alloc (.cells #[.slice none 0 0, .slice none 0 0, .int .i64 0, .slice none 0 0] 25)) := ((Below.refl _ w).alloc (Nat.le_refl _) _).alloc (by simp) _
  obtain ⟨W, hW⟩ : ∃ W, W = ((w.alloc (.cells #[.slice ia il ic, .slice oa ol oc, .int .i64 rg, .slice sa sl sc] 25)).alloc (.cells #[.slice none 0 0, .slice none 0 0, .int .i64 0, .slice none 0 0] 25)) := ⟨_, rfl⟩
  rw [← hW] at hA0 hb0
  have HWE : Hid _ := hW
  have HI : Hid (RowI W ia ins) := rowI_below hP.I hb0
  have HO : Hid (RowI W oa outs) := rowI_below hP.O hb0
  have HS : Hid (StpW W sa ss) := stpW_below hP.S hb0
  have hWs : w.heap.size ≤ W.heap.size := hb0.size
  obtain ⟨N, hN⟩ : ∃ N, N = w.heap.size := ⟨_, rfl⟩
  rw [← hN] at hA0 hb0 hWs
  have HRES : Hid (W.heap[N + 1]? = some (.cells #[.slice none 0 0, .slice none 0 0, .int .i64 0, .slice none 0 0] 25 (0, 0))) := holds_at hA0 0 rfl
  have HBX : Hid (∀ u, W.grownBy u (some (N + 1)) → u.heap[N]? = some (.cells #[.slice ia il ic, .slice oa ol oc, .int .i64 rg, .slice sa sl sc] 25 (0, 0))) := fun u hu => (hu.block N (ltHeap (holds_at hA0 1 rfl)) (by simp)).trans (holds_at hA0 1 rfl)
  have HBW : Hid (Below N w W) := hb0
  have hz : N + 1 < W.heap.size := ltHeap HRES.out
  have HN : Hid (N = w.heap.size) := hN
  obtain ⟨X, hX⟩ : ∃ X, X = W.drew := ⟨_, rfl⟩
  have BX : Below W.heap.size W X := by rw [hX]; exact Below.drew (Below.refl _ W)
  have GX : W.grownBy X (some (N + 1)) := by rw [hX]; exact grownBy_drew (World.grownBy.refl _ _)
  have HX : Hid _ := hX
  clear hP hA0 hb0 hW hN hX
  go_enter Tryd.func8, Tryd.ntmps8
  go_wp2
  rw [← HWE.out, ← HN.out]
  clear HWE
  go_cut [] (fun wx => ∃ g1 c1 g2 c2 g3 c3, wx.heap[N + 1]? = some (.cells #[.slice (some ⟨g1, 0, none⟩) il c1, .slice (some ⟨g2, 0, none⟩) ol c2, .int .i64 rg, .slice (some ⟨g3, 0, none⟩) sl c3] 25 (0, 0)) ∧ Below (N + 1) W wx ∧
      wx.ownsRow W.heap.size 3 1 (.slice (some ⟨g1, 0, none⟩) il c1) il (ins.map (Value.int .i64)) ∧ wx.ownsRow W.heap.size 3 1 (.slice (some ⟨g2, 0, none⟩) ol c2) ol (outs.map (Value.int .i64)) ∧ wx.ownsRow W.heap.size 48 4 (.slice (some ⟨g3, 0, none⟩) sl c3) sl (stpsL ss))
  case first =>
    refine wp_region_noPanic ?_
    refine wp_region_held_drew (S := fun u => W.grownBy u (some (N + 1))) (by kernel_rfl) ?_ (fun hHeld => ?_)
    · exact grownBy_drew (World.grownBy.refl _ _)
    rw [← HX.out] at hHeld ⊢
    clear HX
    refine wpAnyH_take (i := 1) (oi := { dst := some 4, op := Op.fieldAddr 25 (Operand.tmp 1) 0, type := 0, pos := "ref.go:179", after := #[], guard := none }) (v := ?_) rfl (by kernel_rfl) (by kernel_rfl) (by kernel_rfl) (fun _ _ _ h => h) (Or.inl ⟨by rfl, ?_⟩) hHeld ?_
    rotate_left
    · intro u hSw
      go_simp
      try with_reducible rfl
    try simp only [Act.put, List.setIfInBounds_toArray, List.set_cons_zero, List.set_cons_succ]
    refine wpAnyH_take (i := 2) (oi := { dst := some 5, op := Op.load 22 (Operand.tmp 4), type := 22, pos := "ref.go:179", after := #[{ on := 1, ground := Ground.data }], guard := none }) (v := ?_) rfl (by kernel_rfl) (by kernel_rfl) (by kernel_rfl) (fun _ _ _ h => h) (Or.inl ⟨by rfl, ?_⟩) hHeld ?_
    rotate_left
    · intro u hSw
      have k9 := cellAt (HBX.out u hSw) 0 _ rfl
      go_simp
      try with_reducible rfl
    try simp only [Act.put, List.setIfInBounds_toArray, List.set_cons_zero, List.set_cons_succ]
    refine wpAnyH_take (i := 5) (oi := { dst := some 8, op := Op.fieldAddr 25 (Operand.tmp 1) 1, type := 0, pos := "ref.go:179", after := #[], guard := none }) (v := ?_) rfl (by kernel_rfl) (by kernel_rfl) (by kernel_rfl) (fun _ _ _ h => h) (Or.inl ⟨by rfl, ?_⟩) hHeld ?_
    rotate_left
    · intro u hSw
      go_simp
      try with_reducible rfl
    try simp only [Act.put, List.setIfInBounds_toArray, List.set_cons_zero, List.set_cons_succ]
    refine wpAnyH_take (i := 6) (oi := { dst := some 9, op := Op.load 22 (Operand.tmp 8), type := 22, pos := "ref.go:179", after := #[{ on := 5, ground := Ground.data }], guard := none }) (v := ?_) rfl (by kernel_rfl) (by kernel_rfl) (by kernel_rfl) (fun _ _ _ h => h) (Or.inl ⟨by rfl, ?_⟩) hHeld ?_
    rotate_left
    · intro u hSw
      have k9 := cellAt (HBX.out u hSw) 1 _ rfl
      go_simp
      try with_reducible rfl
    try simp only [Act.put, List.setIfInBounds_toArray, List.set_cons_zero, List.set_cons_succ]
    refine wpAnyH_take (i := 8) (oi := { dst := some 11, op := Op.fieldAddr 25 (Operand.tmp 1) 2, type := 0, pos := "ref.go:179", after := #[], guard := none }) (v := ?_) rfl (by kernel_rfl) (by kernel_rfl) (by kernel_rfl) (fun _ _ _ h => h) (Or.inl ⟨by rfl, ?_⟩) hHeld ?_
    rotate_left
    · intro u hSw
      go_simp
      try with_reducible rfl
    try simp only [Act.put, List.setIfInBounds_toArray, List.set_cons_zero, List.set_cons_succ]
    refine wpAnyH_take (i := 9) (oi := { dst := some 12, op := Op.load 3 (Operand.tmp 11), type := 3, pos := "ref.go:179", after := #[{ on := 8, ground := Ground.data }], guard := none }) (v := ?_) rfl (by kernel_rfl) (by kernel_rfl) (by kernel_rfl) (fun _ _ _ h => h) (Or.inl ⟨by rfl, ?_⟩) hHeld ?_
    rotate_left
    · intro u hSw
      have k9 := cellAt (HBX.out u hSw) 2 _ rfl
      go_simp
      try with_reducible rfl
    try simp only [Act.put, List.setIfInBounds_toArray, List.set_cons_zero, List.set_cons_succ]
    refine wpAnyH_take (i := 11) (oi := { dst := some 14, op := Op.fieldAddr 25 (Operand.tmp 1) 3, type := 0, pos := "ref.go:179", after := #[], guard := none }) (v := ?_) rfl (by kernel_rfl) (by kernel_rfl) (by kernel_rfl) (fun _ _ _ h => h) (Or.inl ⟨by rfl, ?_⟩) hHeld ?_
    rotate_left
    · intro u hSw
      go_simp
      try with_reducible rfl
    try simp only [Act.put, List.setIfInBounds_toArray, List.set_cons_zero, List.set_cons_succ]
    refine wpAnyH_take (i := 12) (oi := { dst := some 15, op := Op.load 23 (Operand.tmp 14), type := 23, pos := "ref.go:179", after := #[{ on := 11, ground := Ground.data }], guard := none }) (v := ?_) rfl (by kernel_rfl) (by kernel_rfl) (by kernel_rfl) (fun _ _ _ h => h) (Or.inl ⟨by rfl, ?_⟩) hHeld ?_
    rotate_left
    · intro u hSw
      have k9 := cellAt (HBX.out u hSw) 3 _ rfl
      go_simp
      try with_reducible rfl
    try simp only [Act.put, List.setIfInBounds_toArray, List.set_cons_zero, List.set_cons_succ]
    refine wpAnyH_ready (rs := [0, 4, 10]) (by kernel_rfl) (by simp) ?_
    refine (AllReadyH.cons (o := { dst := some 3, op := Op.buildSlice 22 0 #[], type := 22, pos := "ref.go:179", after := #[], guard := none }) rfl (fun K hK => ?_) (AllReadyH.cons (o := { dst := some 7, op := Op.buildSlice 22 0 #[], type := 22, pos := "ref.go:179", after := #[], guard := none }) rfl (fun K hK => ?_) (AllReadyH.cons (o := { dst := some 13, op := Op.buildSlice 23 0 #[], type := 23, pos := "ref.go:179", after := #[], guard := none }) rfl (fun K hK => ?_) AllReadyH.nil)))
    · obtain ⟨X0, hX0⟩ : ∃ Z9 : World, Z9 = X.alloc (.cells #[] 3) := ⟨_, rfl⟩
      have bX0 : Below X.heap.size X X0 := by rw [hX0]; exact (Below.refl _ _).alloc (Nat.le_refl _) _
      have BX0 : Below W.heap.size W X0 := BX.trans (bX0.mono BX.size)
      have gX0 : W.grownBy X0 (some (N + 1)) := grown_below GX bX0
      have eX0 : X0.ownsRow W.heap.size 3 1 (.slice (some ⟨X.heap.size, 0, none⟩) 0 0) 0 [] := own_empty (by rw [hX0]; exact heap_alloc_last _ _) BX.size
      have lX0 : X.heap.size < X0.heap.size := by rw [hX0]; simp
      have HX0 : Hid (X0 = X.alloc (.cells #[] 3)) := hX0
      clear hX0
      go_simp
      rw [← HX0.out]
      refine hK.out _ _ ?_ (fun hHeld => ?_)
      · exact gX0
      clear hK K
      try simp only [Act.put, List.setIfInBounds_toArray, List.set_cons_zero, List.set_cons_succ]
      refine wpAnyH_ready (rs := [3, 4, 10]) (by kernel_rfl) (by simp) ?_
      refine (AllReadyH.cons (o := { dst := some 6, op := Op.call { callee := Callee.builtin Builtin.append, args := #[Operand.tmp 3, Operand.tmp 5], argTypes := #[22, 22] }, type := 22, pos := "ref.go:179", after := #[{ on := 0, ground := Ground.data }, { on := 2, ground := Ground.data }], guard := none }) rfl (fun K hK => ?_) (AllReadyH.cons (o := { dst := some 7, op := Op.buildSlice 22 0 #[], type := 22, pos := "ref.go:179", after := #[], guard := none }) rfl (fun K hK => ?_) (AllReadyH.cons (o := { dst := some 13, op := Op.buildSlice 23 0 #[], type := 23, pos := "ref.go:179", after := #[], guard := none }) rfl (fun K hK => ?_) AllReadyH.nil)))
      · obtain ⟨rX1, pX1, X1, aX1, oX1, wX1, vX1⟩ := copyI (ca := ic) 22 eX0 HIL.out b8i (rowI_below HI.out BX0) BX0.size
        have BX1 : Below W.heap.size W X1 := below_own BX0 eX0 wX1 BX0.size
        have gX1 : W.grownBy X1 (some (N + 1)) := grown_below9 gX0 BX0 BX1
        have lX1 : rX1 < X1.heap.size := own_lt9 oX1
        refine wanted_append_run rfl _ _ 22 rfl _ _ _ _ rfl rfl aX1 ?_
        refine hK.out _ _ ?_ (fun hHeld => ?_)
        · exact gX1
        clear hK K
        try simp only [Act.put, List.setIfInBounds_toArray, List.set_cons_zero, List.set_cons_succ]
        refine wpAnyH_ready (rs := [4, 10]) (by kernel_rfl) (by simp) ?_
        refine (AllReadyH.cons (o := { dst := some 7, op := Op.buildSlice 22 0 #[], type := 22, pos := "ref.go:179", after := #[], guard := none }) rfl (fun K hK => ?_) (AllReadyH.cons (o := { dst := some 13, op := Op.buildSlice 23 0 #[], type := 23, pos := "ref.go:179", after := #[], guard := none }) rfl (fun K hK => ?_) AllReadyH.nil))
        · obtain ⟨X2, hX2⟩ : ∃ Z9 : World, Z9 = X1.alloc (.cells #[] 3) := ⟨_, rfl⟩
          have bX2 : Below X1.heap.size X1 X2 := by rw [hX2]; exact (Below.refl _ _).alloc (Nat.le_refl _) _
          have BX2 : Below W.heap.size W X2 := BX1.trans (bX2.mono BX1.size)
          have gX2 : W.grownBy X2 (some (N + 1)) := grown_below gX1 bX2
          have eX2 : X2.ownsRow W.heap.size 3 1 (.slice (some ⟨X1.heap.size, 0, none⟩) 0 0) 0 [] := own_empty (by rw [hX2]; exact heap_alloc_last _ _) BX1.size
          have lX2 : X1.heap.size < X2.heap.size := by rw [hX2]; simp
          have oX1X2 := own_below oX1 bX2
          have lX1X2 := Nat.lt_of_lt_of_le lX1 bX2.size
          have n21X2 : rX1 ≠ X1.heap.size := Nat.ne_of_lt lX1
          have HX2 : Hid (X2 = X1.alloc (.cells #[] 3)) := hX2
          clear hX2
          go_simp
          rw [← HX2.out]
          refine hK.out _ _ ?_ (fun hHeld => ?_)
          · exact gX2
          clear hK K
          try simp only [Act.put, List.setIfInBounds_toArray, List.set_cons_zero, List.set_cons_succ]
          refine wpAnyH_ready (rs := [7, 10]) (by kernel_rfl) (by simp) ?_
          refine (AllReadyH.cons (o := { dst := some 10, op := Op.call { callee := Callee.builtin Builtin.append, args := #[Operand.tmp 7, Operand.tmp 9], argTypes := #[22, 22] }, type := 22, pos := "ref.go:179", after := #[{ on := 4, ground := Ground.data }, { on := 6, ground := Ground.data }, { on := 3, ground := Ground.chain }], guard := none }) rfl (fun K hK => ?_) (AllReadyH.cons (o := { dst := some 13, op := Op.buildSlice 23 0 #[], type := 23, pos := "ref.go:179", after := #[], guard := none }) rfl (fun K hK => ?_) AllReadyH.nil))
          · obtain ⟨rX3, pX3, X3, aX3, oX3, wX3, vX3⟩ := copyI (ca := oc) 22 eX2 HOL.out b8o (rowI_below HO.out BX2) BX2.size
            have BX3 : Below W.heap.size W X3 := below_own BX2 eX2 wX3 BX2.size
            have gX3 : W.grownBy X3 (some (N + 1)) := grown_below9 gX2 BX2 BX3
            have lX3 : rX3 < X3.heap.size := own_lt9 oX3
            have oX1X2X3 := own_kept9 oX1X2 wX3 n21X2
            have lX1X2X3 := Nat.lt_of_lt_of_le lX1X2 wX3.size
            have m21X3 : rX1 ≠ rX3 := by rcases vX3 with h | h <;> rw [h]; exact n21X2; exact Nat.ne_of_lt lX1X2
            refine wanted_append_run rfl _ _ 22 rfl _ _ _ _ rfl rfl aX3 ?_
            refine hK.out _ _ ?_ (fun hHeld => ?_)
            · exact gX3
            clear hK K
            try simp only [Act.put, List.setIfInBounds_toArray, List.set_cons_zero, List.set_cons_succ]
            refine wpAnyH_ready (rs := [10]) (by kernel_rfl) (by simp) ?_
            refine (AllReadyH.cons (o := { dst := some 13, op := Op.buildSlice 23 0 #[], type := 23, pos := "ref.go:179", after := #[], guard := none }) rfl (fun K hK => ?_) AllReadyH.nil)
            obtain ⟨X4, hX4⟩ : ∃ Z9 : World, Z9 = X3.alloc (.cells #[] 48) := ⟨_, rfl⟩
            have bX4 : Below X3.heap.size X3 X4 := by rw [hX4]; exact (Below.refl _ _).alloc (Nat.le_refl _) _
            have BX4 : Below W.heap.size W X4 := BX3.trans (bX4.mono BX3.size)
            have gX4 : W.grownBy X4 (some (N + 1)) := grown_below gX3 bX4
            have eX4 : X4.ownsRow W.heap.size 48 4 (.slice (some ⟨X3.heap.size, 0, none⟩) 0 0) 0 [] := own_empty (by rw [hX4]; exact heap_alloc_last _ _) BX3.size
            have lX4 : X3.heap.size < X4.heap.size := by rw [hX4]; simp
            have oX1X2X3X4 := own_below oX1X2X3 bX4
            have lX1X2X3X4 := Nat.lt_of_lt_of_le lX1X2X3 bX4.size
            have oX3X4 := own_below oX3 bX4
            have lX3X4 := Nat.lt_of_lt_of_le lX3 bX4.size
            have n31X4 : rX1 ≠ X3.heap.size := Nat.ne_of_lt lX1X2X3
            have n32X4 : rX3 ≠ X3.heap.size := Nat.ne_of_lt lX3
            have HX4 : Hid (X4 = X3.alloc (.cells #[] 48)) := hX4
            clear hX4
            go_simp
            rw [← HX4.out]
            refine hK.out _ _ ?_ (fun hHeld => ?_)
            · exact gX4
            clear hK K
            try simp only [Act.put, List.setIfInBounds_toArray, List.set_cons_zero, List.set_cons_succ]
            refine wpAnyH_ready (rs := [13]) (by kernel_rfl) (by simp) ?_
            refine (AllReadyH.cons (o := { dst := some 16, op := Op.call { callee := Callee.builtin Builtin.append, args := #[Operand.tmp 13, Operand.tmp 15], argTypes := #[23, 23] }, type := 23, pos := "ref.go:179", after := #[{ on := 10, ground := Ground.data }, { on := 12, ground := Ground.data }, { on := 7, ground := Ground.chain }], guard := none }) rfl (fun K hK => ?_) AllReadyH.nil)
            obtain ⟨rX5, pX5, X5, aX5, oX5, wX5, vX5⟩ := copyT (ca := sc) 23 eX4 HSL.out b32 (stpW_below HS.out BX4) BX4.size
            have BX5 : Below W.heap.size W X5 := below_own BX4 eX4 wX5 BX4.size
            have gX5 : W.grownBy X5 (some (N + 1)) := grown_below9 gX4 BX4 BX5
            have lX5 : rX5 < X5.heap.size := own_lt9 oX5
            have oX1X2X3X4X5 := own_kept9 oX1X2X3X4 wX5 n31X4
            have lX1X2X3X4X5 := Nat.lt_of_lt_of_le lX1X2X3X4 wX5.size
            have m31X5 : rX1 ≠ rX5 := by rcases vX5 with h | h <;> rw [h]; exact n31X4; exact Nat.ne_of_lt lX1X2X3X4
            have oX3X4X5 := own_kept9 oX3X4 wX5 n32X4
            have lX3X4X5 := Nat.lt_of_lt_of_le lX3X4 wX5.size
            have m32X5 : rX3 ≠ rX5 := by rcases vX5 with h | h <;> rw [h]; exact n32X4; exact Nat.ne_of_lt lX3X4
            refine wanted_append_run rfl _ _ 23 rfl _ _ _ _ rfl rfl aX5 ?_
            refine hK.out _ _ ?_ (fun hHeld => ?_)
            · exact gX5
            clear hK K
            try simp only [Act.put, List.setIfInBounds_toArray, List.set_cons_zero, List.set_cons_succ]
            refine wpAnyH_take (i := 14) (oi := { dst := some 17, op := Op.build 25 #[(0, Operand.tmp 6), (1, Operand.tmp 10), (2, Operand.tmp 12), (3, Operand.tmp 16)], type := 25, pos := "ref.go:179", after := #[{ on := 3, ground := Ground.data }, { on := 7, ground := Ground.data }, { on := 9, ground := Ground.data }, { on := 13, ground := Ground.data }], guard := none }) (v := ?_) rfl (by kernel_rfl) (by kernel_rfl) (by kernel_rfl) (fun _ _ _ h => h) (Or.inl ⟨by rfl, ?_⟩) hHeld ?_
            rotate_left
            · intro u hSw
              go_simp
              try with_reducible rfl
            try simp only [Act.put, List.setIfInBounds_toArray, List.set_cons_zero, List.set_cons_succ]
            refine wpAnyH_ready (rs := [15]) (by kernel_rfl) (by simp) ?_
            refine (AllReadyH.cons (o := { dst := none, op := Op.store 25 (Operand.tmp 2) (Operand.tmp 17), type := 0, pos := "ref.go:179", after := #[{ on := 14, ground := Ground.data }, { on := 13, ground := Ground.chain }, { on := 0, ground := Ground.phase }, { on := 1, ground := Ground.phase }, { on := 2, ground := Ground.phase }, { on := 3, ground := Ground.phase }, { on := 4, ground := Ground.phase }, { on := 5, ground := Ground.phase }, { on := 6, ground := Ground.phase }, { on := 7, ground := Ground.phase }, { on := 8, ground := Ground.phase }, { on := 9, ground := Ground.phase }, { on := 10, ground := Ground.phase }, { on := 11, ground := Ground.phase }, { on := 12, ground := Ground.phase }, { on := 13, ground := Ground.phase }, { on := 14, ground := Ground.phase }], guard := none }) rfl (fun K hK => ?_) AllReadyH.nil)
            have hk3 := heap_later HRES.out BX5
            have d0 := cellAt hk3 0 _ rfl
            have d1 := cellAt hk3 1 _ rfl
            have d2 := cellAt hk3 2 _ rfl
            have d3 := cellAt hk3 3 _ rfl
            have e0 : X5.frozen? ⟨N + 1, 0, none⟩ = false := frozen_of_row _ _ _ _ _ hk3
            have e1 : X5.frozen? ⟨N + 1, 1, none⟩ = false := frozen_of_row _ _ _ _ _ hk3
            have e2 : X5.frozen? ⟨N + 1, 2, none⟩ = false := frozen_of_row _ _ _ _ _ hk3
            have e3 : X5.frozen? ⟨N + 1, 3, none⟩ = false := frozen_of_row _ _ _ _ _ hk3
            go_simp
            refine hK.out _ _ ?_ (fun hHeld => ?_)
            · exact grownBy_setCell (grownBy_setCell (grownBy_setCell (grownBy_setCell gX5 _) _) _) _
            clear hK K
            try simp only [Act.put, List.setIfInBounds_toArray, List.set_cons_zero, List.set_cons_succ]
            refine wpAnyH_done (by kernel_rfl) ?_ _
            refine NoPanic.normal ?_
            obtain ⟨Z, hZ⟩ : ∃ Z, Z = ((((X5.setCell ⟨N + 1, 0, none⟩ (.slice (some ⟨rX1, 0, none⟩) il pX1)).setCell ⟨N + 1, 1, none⟩ (.slice (some ⟨rX3, 0, none⟩) ol pX3)).setCell ⟨N + 1, 2, none⟩ (.int .i64 rg)).setCell ⟨N + 1, 3, none⟩ (.slice (some ⟨rX5, 0, none⟩) sl pX5)) := ⟨_, rfl⟩
            have hfin := copy_end9 hz hk3 BX5 oX1X2X3X4X5 oX3X4X5 oX5 hZ
            rw [← hZ]
            go_wp2
            go_meet
            exact ⟨_, _, _, _, _, _, hfin⟩
          · obtain ⟨X3, hX3⟩ : ∃ Z9 : World, Z9 = X2.alloc (.cells #[] 48) := ⟨_, rfl⟩
            have bX3 : Below X2.heap.size X2 X3 := by rw [hX3]; exact (Below.refl _ _).alloc (Nat.le_refl _) _
            have BX3 : Below W.heap.size W X3 := BX2.trans (bX3.mono BX2.size)
            have gX3 : W.grownBy X3 (some (N + 1)) := grown_below gX2 bX3
            have eX3 : X3.ownsRow W.heap.size 48 4 (.slice (some ⟨X2.heap.size, 0, none⟩) 0 0) 0 [] := own_empty (by rw [hX3]; exact heap_alloc_last _ _) BX2.size
            have lX3 : X2.heap.size < X3.heap.size := by rw [hX3]; simp
            have oX1X2X3 := own_below oX1X2 bX3
            have lX1X2X3 := Nat.lt_of_lt_of_le lX1X2 bX3.size
            have eX2X3 := own_below eX2 bX3
            have lX2X3 := Nat.lt_of_lt_of_le lX2 bX3.size
            have n31X3 : rX1 ≠ X2.heap.size := Nat.ne_of_lt lX1X2
            have n32X3 : X1.heap.size ≠ X2.heap.size := Nat.ne_of_lt lX2
            have HX3 : Hid (X3 = X2.alloc (.cells #[] 48)) := hX3
            clear hX3
            go_simp
            rw [← HX3.out]
            refine hK.out _ _ ?_ (fun hHeld => ?_)
            · exact gX3
            clear hK K
            try simp only [Act.put, List.setIfInBounds_toArray, List.set_cons_zero, List.set_cons_succ]
            refine wpAnyH_ready (rs := [7]) (by kernel_rfl) (by simp) ?_
            refine (AllReadyH.cons (o := { dst := some 10, op := Op.call { callee := Callee.builtin Builtin.append, args := #[Operand.tmp 7, Operand.tmp 9], argTypes := #[22, 22] }, type := 22, pos := "ref.go:179", after := #[{ on := 4, ground := Ground.data }, { on := 6, ground := Ground.data }, { on := 3, ground := Ground.chain }], guard := none }) rfl (fun K hK => ?_) AllReadyH.nil)
            obtain ⟨rX4, pX4, X4, aX4, oX4, wX4, vX4⟩ := copyI (ca := oc) 22 eX2X3 HOL.out b8o (rowI_below HO.out BX3) BX3.size
            have BX4 : Below W.heap.size W X4 := below_own BX3 eX2X3 wX4 BX3.size
            have gX4 : W.grownBy X4 (some (N + 1)) := grown_below9 gX3 BX3 BX4
            have lX4 : rX4 < X4.heap.size := own_lt9 oX4
            have oX1X2X3X4 := own_kept9 oX1X2X3 wX4 n21X2
            have lX1X2X3X4 := Nat.lt_of_lt_of_le lX1X2X3 wX4.size
            have m21X4 : rX1 ≠ rX4 := by rcases vX4 with h | h <;> rw [h]; exact n21X2; exact Nat.ne_of_lt lX1X2X3
            have eX3X4 := own_kept9 eX3 wX4 n32X3.symm
            have lX3X4 := Nat.lt_of_lt_of_le lX3 wX4.size
            have m23X4 : X2.heap.size ≠ rX4 := by rcases vX4 with h | h <;> rw [h]; exact n32X3.symm; exact Nat.ne_of_lt lX3
            refine wanted_append_run rfl _ _ 22 rfl _ _ _ _ rfl rfl aX4 ?_
            refine hK.out _ _ ?_ (fun hHeld => ?_)
            · exact gX4
            clear hK K
            try simp only [Act.put, List.setIfInBounds_toArray, List.set_cons_zero, List.set_cons_succ]
            refine wpAnyH_ready (rs := [13]) (by kernel_rfl) (by simp) ?_
            refine (AllReadyH.cons (o := { dst := some 16, op := Op.call { callee := Callee.builtin Builtin.append, args := #[Operand.tmp 13, Operand.tmp 15], argTypes := #[23, 23] }, type := 23, pos := "ref.go:179", after := #[{ on := 10, ground := Ground.data }, { on := 12, ground := Ground.data }, { on := 7, ground := Ground.chain }], guard := none }) rfl (fun K hK => ?_) AllReadyH.nil)
            obtain ⟨rX5, pX5, X5, aX5, oX5, wX5, vX5⟩ := copyT (ca := sc) 23 eX3X4 HSL.out b32 (stpW_below HS.out BX4) BX4.size
            have BX5 : Below W.heap.size W X5 := below_own BX4 eX3X4 wX5 BX4.size
            have gX5 : W.grownBy X5 (some (N + 1)) := grown_below9 gX4 BX4 BX5
            have lX5 : rX5 < X5.heap.size := own_lt9 oX5
            have oX1X2X3X4X5 := own_kept9 oX1X2X3X4 wX5 n31X3
            have lX1X2X3X4X5 := Nat.lt_of_lt_of_le lX1X2X3X4 wX5.size
            have m31X5 : rX1 ≠ rX5 := by rcases vX5 with h | h <;> rw [h]; exact n31X3; exact Nat.ne_of_lt lX1X2X3X4
            have oX4X5 := own_kept9 oX4 wX5 m23X4.symm
            have lX4X5 := Nat.lt_of_lt_of_le lX4 wX5.size
            have m32X5 : rX4 ≠ rX5 := by rcases vX5 with h | h <;> rw [h]; exact m23X4.symm; exact Nat.ne_of_lt lX4
            refine wanted_append_run rfl _ _ 23 rfl _ _ _ _ rfl rfl aX5 ?_
            refine hK.out _ _ ?_ (fun hHeld => ?_)
            · exact gX5
            clear hK K
            try simp only [Act.put, List.setIfInBounds_toArray, List.set_cons_zero, List.set_cons_succ]
            refine wpAnyH_take (i := 14) (oi := { dst := some 17, op := Op.build 25 #[(0, Operand.tmp 6), (1, Operand.tmp 10), (2, Operand.tmp 12), (3, Operand.tmp 16)], type := 25, pos := "ref.go:179", after := #[{ on := 3, ground := Ground.data }, { on := 7, ground := Ground.data }, { on := 9, ground := Ground.data }, { on := 13, ground := Ground.data }], guard := none }) (v := ?_) rfl (by kernel_rfl) (by kernel_rfl) (by kernel_rfl) (fun _ _ _ h => h) (Or.inl ⟨by rfl, ?_⟩) hHeld ?_
            rotate_left
            · intro u hSw
              go_simp
              try with_reducible rfl
            try simp only [Act.put, List.setIfInBounds_toArray, List.set_cons_zero, List.set_cons_succ]
            refine wpAnyH_ready (rs := [15]) (by kernel_rfl) (by simp) ?_
            refine (AllReadyH.cons (o := { dst := none, op := Op.store 25 (Operand.tmp 2) (Operand.tmp 17), type := 0, pos := "ref.go:179", after := #[{ on := 14, ground := Ground.data }, { on := 13, ground := Ground.chain }, { on := 0, ground := Ground.phase }, { on := 1, ground := Ground.phase }, { on := 2, ground := Ground.phase }, { on := 3, ground := Ground.phase }, { on := 4, ground := Ground.phase }, { on := 5, ground := Ground.phase }, { on := 6, ground := Ground.phase }, { on := 7, ground := Ground.phase }, { on := 8, ground := Ground.phase }, { on := 9, ground := Ground.phase }, { on := 10, ground := Ground.phase }, { on := 11, ground := Ground.phase }, { on := 12, ground := Ground.phase }, { on := 13, ground := Ground.phase }, { on := 14, ground := Ground.phase }], guard := none }) rfl (fun K hK => ?_) AllReadyH.nil)
            have hk3 := heap_later HRES.out BX5
            have d0 := cellAt hk3 0 _ rfl
            have d1 := cellAt hk3 1 _ rfl
            have d2 := cellAt hk3 2 _ rfl
            have d3 := cellAt hk3 3 _ rfl
            have e0 : X5.frozen? ⟨N + 1, 0, none⟩ = false := frozen_of_row _ _ _ _ _ hk3
            have e1 : X5.frozen? ⟨N + 1, 1, none⟩ = false := frozen_of_row _ _ _ _ _ hk3
            have e2 : X5.frozen? ⟨N + 1, 2, none⟩ = false := frozen_of_row _ _ _ _ _ hk3
            have e3 : X5.frozen? ⟨N + 1, 3, none⟩ = false := frozen_of_row _ _ _ _ _ hk3
            go_simp
            refine hK.out _ _ ?_ (fun hHeld => ?_)
            · exact grownBy_setCell (grownBy_setCell (grownBy_setCell (grownBy_setCell gX5 _) _) _) _
            clear hK K
            try simp only [Act.put, List.setIfInBounds_toArray, List.set_cons_zero, List.set_cons_succ]
            refine wpAnyH_done (by kernel_rfl) ?_ _
            refine NoPanic.normal ?_
            obtain ⟨Z, hZ⟩ : ∃ Z, Z = ((((X5.setCell ⟨N + 1, 0, none⟩ (.slice (some ⟨rX1, 0, none⟩) il pX1)).setCell ⟨N + 1, 1, none⟩ (.slice (some ⟨rX4, 0, none⟩) ol pX4)).setCell ⟨N + 1, 2, none⟩ (.int .i64 rg)).setCell ⟨N + 1, 3, none⟩ (.slice (some ⟨rX5, 0, none⟩) sl pX5)) := ⟨_, rfl⟩
            have hfin := copy_end9 hz hk3 BX5 oX1X2X3X4X5 oX4X5 oX5 hZ
            rw [← hZ]
            go_wp2
            go_meet
            exact ⟨_, _, _, _, _, _, hfin⟩
        · obtain ⟨X2, hX2⟩ : ∃ Z9 : World, Z9 = X1.alloc (.cells #[] 48) := ⟨_, rfl⟩
          have bX2 : Below X1.heap.size X1 X2 := by rw [hX2]; exact (Below.refl _ _).alloc (Nat.le_refl _) _
          have BX2 : Below W.heap.size W X2 := BX1.trans (bX2.mono BX1.size)
          have gX2 : W.grownBy X2 (some (N + 1)) := grown_below gX1 bX2
          have eX2 : X2.ownsRow W.heap.size 48 4 (.slice (some ⟨X1.heap.size, 0, none⟩) 0 0) 0 [] := own_empty (by rw [hX2]; exact heap_alloc_last _ _) BX1.size
          have lX2 : X1.heap.size < X2.heap.size := by rw [hX2]; simp
          have oX1X2 := own_below oX1 bX2
          have lX1X2 := Nat.lt_of_lt_of_le lX1 bX2.size
          have n31X2 : rX1 ≠ X1.heap.size := Nat.ne_of_lt lX1
          have HX2 : Hid (X2 = X1.alloc (.cells #[] 48)) := hX2
          clear hX2
          go_simp
          rw [← HX2.out]
          refine hK.out _ _ ?_ (fun hHeld => ?_)
          · exact gX2
          clear hK K
          try simp only [Act.put, List.setIfInBounds_toArray, List.set_cons_zero, List.set_cons_succ]
          refine wpAnyH_ready (rs := [4]) (by kernel_rfl) (by simp) ?_
          refine (AllReadyH.cons (o := { dst := some 7, op := Op.buildSlice 22 0 #[], type := 22, pos := "ref.go:179", after := #[], guard := none }) rfl (fun K hK => ?_) AllReadyH.nil)
          obtain ⟨X3, hX3⟩ : ∃ Z9 : World, Z9 = X2.alloc (.cells #[] 3) := ⟨_, rfl⟩
          have bX3 : Below X2.heap.size X2 X3 := by rw [hX3]; exact (Below.refl _ _).alloc (Nat.le_refl _) _
          have BX3 : Below W.heap.size W X3 := BX2.trans (bX3.mono BX2.size)
          have gX3 : W.grownBy X3 (some (N + 1)) := grown_below gX2 bX3
          have eX3 : X3.ownsRow W.heap.size 3 1 (.slice (some ⟨X2.heap.size, 0, none⟩) 0 0) 0 [] := own_empty (by rw [hX3]; exact heap_alloc_last _ _) BX2.size
          have lX3 : X2.heap.size < X3.heap.size := by rw [hX3]; simp
          have oX1X2X3 := own_below oX1X2 bX3
          have lX1X2X3 := Nat.lt_of_lt_of_le lX1X2 bX3.size
          have eX2X3 := own_below eX2 bX3
          have lX2X3 := Nat.lt_of_lt_of_le lX2 bX3.size
          have n21X3 : rX1 ≠ X2.heap.size := Nat.ne_of_lt lX1X2
          have n23X3 : X1.heap.size ≠ X2.heap.size := Nat.ne_of_lt lX2
          have HX3 : Hid (X3 = X2.alloc (.cells #[] 3)) := hX3
          clear hX3
          go_simp
          rw [← HX3.out]
          refine hK.out _ _ ?_ (fun hHeld => ?_)
          · exact gX3
          clear hK K
          try simp only [Act.put, List.setIfInBounds_toArray, List.set_cons_zero, List.set_cons_succ]
          refine wpAnyH_ready (rs := [7]) (by kernel_rfl) (by simp) ?_
          refine (AllReadyH.cons (o := { dst := some 10, op := Op.call { callee := Callee.builtin Builtin.append, args := #[Operand.tmp 7, Operand.tmp 9], argTypes := #[22, 22] }, type := 22, pos := "ref.go:179", after := #[{ on := 4, ground := Ground.data }, { on := 6, ground := Ground.data }, { on := 3, ground := Ground.chain }], guard := none }) rfl (fun K hK => ?_) AllReadyH.nil)
          obtain ⟨rX4, pX4, X4, aX4, oX4, wX4, vX4⟩ := copyI (ca := oc) 22 eX3 HOL.out b8o (rowI_below HO.out BX3) BX3.size
          have BX4 : Below W.heap.size W X4 := below_own BX3 eX3 wX4 BX3.size
          have gX4 : W.grownBy X4 (some (N + 1)) := grown_below9 gX3 BX3 BX4
          have lX4 : rX4 < X4.heap.size := own_lt9 oX4
          have oX1X2X3X4 := own_kept9 oX1X2X3 wX4 n21X3
          have lX1X2X3X4 := Nat.lt_of_lt_of_le lX1X2X3 wX4.size
          have m21X4 : rX1 ≠ rX4 := by rcases vX4 with h | h <;> rw [h]; exact n21X3; exact Nat.ne_of_lt lX1X2X3
          have eX2X3X4 := own_kept9 eX2X3 wX4 n23X3
          have lX2X3X4 := Nat.lt_of_lt_of_le lX2X3 wX4.size
          have m23X4 : X1.heap.size ≠ rX4 := by rcases vX4 with h | h <;> rw [h]; exact n23X3; exact Nat.ne_of_lt lX2X3
          refine wanted_append_run rfl _ _ 22 rfl _ _ _ _ rfl rfl aX4 ?_
          refine hK.out _ _ ?_ (fun hHeld => ?_)
          · exact gX4
          clear hK K
          try simp only [Act.put, List.setIfInBounds_toArray, List.set_cons_zero, List.set_cons_succ]
          refine wpAnyH_ready (rs := [13]) (by kernel_rfl) (by simp) ?_
          refine (AllReadyH.cons (o := { dst := some 16, op := Op.call { callee := Callee.builtin Builtin.append, args := #[Operand.tmp 13, Operand.tmp 15], argTypes := #[23, 23] }, type := 23, pos := "ref.go:179", after := #[{ on := 10, ground := Ground.data }, { on := 12, ground := Ground.data }, { on := 7, ground := Ground.chain }], guard := none }) rfl (fun K hK => ?_) AllReadyH.nil)
          obtain ⟨rX5, pX5, X5, aX5, oX5, wX5, vX5⟩ := copyT (ca := sc) 23 eX2X3X4 HSL.out b32 (stpW_below HS.out BX4) BX4.size
          have BX5 : Below W.heap.size W X5 := below_own BX4 eX2X3X4 wX5 BX4.size
          have gX5 : W.grownBy X5 (some (N + 1)) := grown_below9 gX4 BX4 BX5
          have lX5 : rX5 < X5.heap.size := own_lt9 oX5
          have oX1X2X3X4X5 := own_kept9 oX1X2X3X4 wX5 n31X2
          have lX1X2X3X4X5 := Nat.lt_of_lt_of_le lX1X2X3X4 wX5.size
          have m31X5 : rX1 ≠ rX5 := by rcases vX5 with h | h <;> rw [h]; exact n31X2; exact Nat.ne_of_lt lX1X2X3X4
          have oX4X5 := own_kept9 oX4 wX5 m23X4.symm
          have lX4X5 := Nat.lt_of_lt_of_le lX4 wX5.size
          have m32X5 : rX4 ≠ rX5 := by rcases vX5 with h | h <;> rw [h]; exact m23X4.symm; exact Nat.ne_of_lt lX4
          refine wanted_append_run rfl _ _ 23 rfl _ _ _ _ rfl rfl aX5 ?_
          refine hK.out _ _ ?_ (fun hHeld => ?_)
          · exact gX5
          clear hK K
          try simp only [Act.put, List.setIfInBounds_toArray, List.set_cons_zero, List.set_cons_succ]
          refine wpAnyH_take (i := 14) (oi := { dst := some 17, op := Op.build 25 #[(0, Operand.tmp 6), (1, Operand.tmp 10), (2, Operand.tmp 12), (3, Operand.tmp 16)], type := 25, pos := "ref.go:179", after := #[{ on := 3, ground := Ground.data }, { on := 7, ground := Ground.data }, { on := 9, ground := Ground.data }, { on := 13, ground := Ground.data }], guard := none }) (v := ?_) rfl (by kernel_rfl) (by kernel_rfl) (by kernel_rfl) (fun _ _ _ h => h) (Or.inl ⟨by rfl, ?_⟩) hHeld ?_
          rotate_left
          · intro u hSw
            go_simp
            try with_reducible rfl
          try simp only [Act.put, List.setIfInBounds_toArray, List.set_cons_zero, List.set_cons_succ]
          refine wpAnyH_ready (rs := [15]) (by kernel_rfl) (by simp) ?_
          refine (AllReadyH.cons (o := { dst := none, op := Op.store 25 (Operand.tmp 2) (Operand.tmp 17), type := 0, pos := "ref.go:179", after := #[{ on := 14, ground := Ground.data }, { on := 13, ground := Ground.chain }, { on := 0, ground := Ground.phase }, { on := 1, ground := Ground.phase }, { on := 2, ground := Ground.phase }, { on := 3, ground := Ground.phase }, { on := 4, ground := Ground.phase }, { on := 5, ground := Ground.phase }, { on := 6, ground := Ground.phase }, { on := 7, ground := Ground.phase }, { on := 8, ground := Ground.phase }, { on := 9, ground := Ground.phase }, { on := 10, ground := Ground.phase }, { on := 11, ground := Ground.phase }, { on := 12, ground := Ground.phase }, { on := 13, ground := Ground.phase }, { on := 14, ground := Ground.phase }], guard := none }) rfl (fun K hK => ?_) AllReadyH.nil)
          have hk3 := heap_later HRES.out BX5
          have d0 := cellAt hk3 0 _ rfl
          have d1 := cellAt hk3 1 _ rfl
          have d2 := cellAt hk3 2 _ rfl
          have d3 := cellAt hk3 3 _ rfl
          have e0 : X5.frozen? ⟨N + 1, 0, none⟩ = false := frozen_of_row _ _ _ _ _ hk3
          have e1 : X5.frozen? ⟨N + 1, 1, none⟩ = false := frozen_of_row _ _ _ _ _ hk3
          have e2 : X5.frozen? ⟨N + 1, 2, none⟩ = false := frozen_of_row _ _ _ _ _ hk3
          have e3 : X5.frozen? ⟨N + 1, 3, none⟩ = false := frozen_of_row _ _ _ _ _ hk3
          go_simp
          refine hK.out _ _ ?_ (fun hHeld => ?_)
          · exact grownBy_setCell (grownBy_setCell (grownBy_setCell (grownBy_setCell gX5 _) _) _) _
          clear hK K
          try simp only [Act.put, List.setIfInBounds_toArray, List.set_cons_zero, List.set_cons_succ]
          refine wpAnyH_done (by kernel_rfl) ?_ _
          refine NoPanic.normal ?_
          obtain ⟨Z, hZ⟩ : ∃ Z, Z = ((((X5.setCell ⟨N + 1, 0, none⟩ (.slice (some ⟨rX1, 0, none⟩) il pX1)).setCell ⟨N + 1, 1, none⟩ (.slice (some ⟨rX4, 0, none⟩) ol pX4)).setCell ⟨N + 1, 2, none⟩ (.int .i64 rg)).setCell ⟨N + 1, 3, none⟩ (.slice (some ⟨rX5, 0, none⟩) sl pX5)) := ⟨_, rfl⟩
          have hfin := copy_end9 hz hk3 BX5 oX1X2X3X4X5 oX4X5 oX5 hZ
          rw [← hZ]
          go_wp2
          go_meet
          exact ⟨_, _, _, _, _, _, hfin⟩
      · obtain ⟨X1, hX1⟩ : ∃ Z9 : World, Z9 = X0.alloc (.cells #[] 3) := ⟨_, rfl⟩
        have bX1 : Below X0.heap.size X0 X1 := by rw [hX1]; exact (Below.refl _ _).alloc (Nat.le_refl _) _
        have BX1 : Below W.heap.size W X1 := BX0.trans (bX1.mono BX0.size)
        have gX1 : W.grownBy X1 (some (N + 1)) := grown_below gX0 bX1
        have eX1 : X1.ownsRow W.heap.size 3 1 (.slice (some ⟨X0.heap.size, 0, none⟩) 0 0) 0 [] := own_empty (by rw [hX1]; exact heap_alloc_last _ _) BX0.size
        have lX1 : X0.heap.size < X1.heap.size := by rw [hX1]; simp
        have eX0X1 := own_below eX0 bX1
        have lX0X1 := Nat.lt_of_lt_of_le lX0 bX1.size
        have n21X1 : X.heap.size ≠ X0.heap.size := Nat.ne_of_lt lX0
        have HX1 : Hid (X1 = X0.alloc (.cells #[] 3)) := hX1
        clear hX1
        go_simp
        rw [← HX1.out]
        refine hK.out _ _ ?_ (fun hHeld => ?_)
        · exact gX1
        clear hK K
        try simp only [Act.put, List.setIfInBounds_toArray, List.set_cons_zero, List.set_cons_succ]
        refine wpAnyH_ready (rs := [3, 10]) (by kernel_rfl) (by simp) ?_
        refine (AllReadyH.cons (o := { dst := some 6, op := Op.call { callee := Callee.builtin Builtin.append, args := #[Operand.tmp 3, Operand.tmp 5], argTypes := #[22, 22] }, type := 22, pos := "ref.go:179", after := #[{ on := 0, ground := Ground.data }, { on := 2, ground := Ground.data }], guard := none }) rfl (fun K hK => ?_) (AllReadyH.cons (o := { dst := some 13, op := Op.buildSlice 23 0 #[], type := 23, pos := "ref.go:179", after := #[], guard := none }) rfl (fun K hK => ?_) AllReadyH.nil))
        · obtain ⟨rX2, pX2, X2, aX2, oX2, wX2, vX2⟩ := copyI (ca := ic) 22 eX0X1 HIL.out b8i (rowI_below HI.out BX1) BX1.size
          have BX2 : Below W.heap.size W X2 := below_own BX1 eX0X1 wX2 BX1.size
          have gX2 : W.grownBy X2 (some (N + 1)) := grown_below9 gX1 BX1 BX2
          have lX2 : rX2 < X2.heap.size := own_lt9 oX2
          have eX1X2 := own_kept9 eX1 wX2 n21X1.symm
          have lX1X2 := Nat.lt_of_lt_of_le lX1 wX2.size
          have m12X2 : X0.heap.size ≠ rX2 := by rcases vX2 with h | h <;> rw [h]; exact n21X1.symm; exact Nat.ne_of_lt lX1
          refine wanted_append_run rfl _ _ 22 rfl _ _ _ _ rfl rfl aX2 ?_
          refine hK.out _ _ ?_ (fun hHeld => ?_)
          · exact gX2
          clear hK K
          try simp only [Act.put, List.setIfInBounds_toArray, List.set_cons_zero, List.set_cons_succ]
          refine wpAnyH_ready (rs := [7, 10]) (by kernel_rfl) (by simp) ?_
          refine (AllReadyH.cons (o := { dst := some 10, op := Op.call { callee := Callee.builtin Builtin.append, args := #[Operand.tmp 7, Operand.tmp 9], argTypes := #[22, 22] }, type := 22, pos := "ref.go:179", after := #[{ on := 4, ground := Ground.data }, { on := 6, ground := Ground.data }, { on := 3, ground := Ground.chain }], guard := none }) rfl (fun K hK => ?_) (AllReadyH.cons (o := { dst := some 13, op := Op.buildSlice 23 0 #[], type := 23, pos := "ref.go:179", after := #[], guard := none }) rfl (fun K hK => ?_) AllReadyH.nil))
          · obtain ⟨rX3, pX3, X3, aX3, oX3, wX3, vX3⟩ := copyI (ca := oc) 22 eX1X2 HOL.out b8o (rowI_below HO.out BX2) BX2.size
            have BX3 : Below W.heap.size W X3 := below_own BX2 eX1X2 wX3 BX2.size
            have gX3 : W.grownBy X3 (some (N + 1)) := grown_below9 gX2 BX2 BX3
            have lX3 : rX3 < X3.heap.size := own_lt9 oX3
            have oX2X3 := own_kept9 oX2 wX3 m12X2.symm
            have lX2X3 := Nat.lt_of_lt_of_le lX2 wX3.size
            have m21X3 : rX2 ≠ rX3 := by rcases vX3 with h | h <;> rw [h]; exact m12X2.symm; exact Nat.ne_of_lt lX2
            refine wanted_append_run rfl _ _ 22 rfl _ _ _ _ rfl rfl aX3 ?_
            refine hK.out _ _ ?_ (fun hHeld => ?_)
            · exact gX3
            clear hK K
            try simp only [Act.put, List.setIfInBounds_toArray, List.set_cons_zero, List.set_cons_succ]
            refine wpAnyH_ready (rs := [10]) (by kernel_rfl) (by simp) ?_
            refine (AllReadyH.cons (o := { dst := some 13, op := Op.buildSlice 23 0 #[], type := 23, pos := "ref.go:179", after := #[], guard := none }) rfl (fun K hK => ?_) AllReadyH.nil)
            obtain ⟨X4, hX4⟩ : ∃ Z9 : World, Z9 = X3.alloc (.cells #[] 48) := ⟨_, rfl⟩
            have bX4 : Below X3.heap.size X3 X4 := by rw [hX4]; exact (Below.refl _ _).alloc (Nat.le_refl _) _
            have BX4 : Below W.heap.size W X4 := BX3.trans (bX4.mono BX3.size)
            have gX4 : W.grownBy X4 (some (N + 1)) := grown_below gX3 bX4
            have eX4 : X4.ownsRow W.heap.size 48 4 (.slice (some ⟨X3.heap.size, 0, none⟩) 0 0) 0 [] := own_empty (by rw [hX4]; exact heap_alloc_last _ _) BX3.size
            have lX4 : X3.heap.size < X4.heap.size := by rw [hX4]; simp
            have oX2X3X4 := own_below oX2X3 bX4
            have lX2X3X4 := Nat.lt_of_lt_of_le lX2X3 bX4.size
            have oX3X4 := own_below oX3 bX4
            have lX3X4 := Nat.lt_of_lt_of_le lX3 bX4.size
            have n31X4 : rX2 ≠ X3.heap.size := Nat.ne_of_lt lX2X3
            have n32X4 : rX3 ≠ X3.heap.size := Nat.ne_of_lt lX3
            have HX4 : Hid (X4 = X3.alloc (.cells #[] 48)) := hX4
            clear hX4
            go_simp
            rw [← HX4.out]
            refine hK.out _ _ ?_ (fun hHeld => ?_)
            · exact gX4
            clear hK K
            try simp only [Act.put, List.setIfInBounds_toArray, List.set_cons_zero, List.set_cons_succ]
            refine wpAnyH_ready (rs := [13]) (by kernel_rfl) (by simp) ?_
            refine (AllReadyH.cons (o := { dst := some 16, op := Op.call { callee := Callee.builtin Builtin.append, args := #[Operand.tmp 13, Operand.tmp 15], argTypes := #[23, 23] }, type := 23, pos := "ref.go:179", after := #[{ on := 10, ground := Ground.data }, { on := 12, ground := Ground.data }, { on := 7, ground := Ground.chain }], guard := none }) rfl (fun K hK => ?_) AllReadyH.nil)
            obtain ⟨rX5, pX5, X5, aX5, oX5, wX5, vX5⟩ := copyT (ca := sc) 23 eX4 HSL.out b32 (stpW_below HS.out BX4) BX4.size
            have BX5 : Below W.heap.size W X5 := below_own BX4 eX4 wX5 BX4.size
            have gX5 : W.grownBy X5 (some (N + 1)) := grown_below9 gX4 BX4 BX5
            have lX5 : rX5 < X5.heap.size := own_lt9 oX5
            have oX2X3X4X5 := own_kept9 oX2X3X4 wX5 n31X4
            have lX2X3X4X5 := Nat.lt_of_lt_of_le lX2X3X4 wX5.size
            have m31X5 : rX2 ≠ rX5 := by rcases vX5 with h | h <;> rw [h]; exact n31X4; exact Nat.ne_of_lt lX2X3X4
            have oX3X4X5 := own_kept9 oX3X4 wX5 n32X4
            have lX3X4X5 := Nat.lt_of_lt_of_le lX3X4 wX5.size
            have m32X5 : rX3 ≠ rX5 := by rcases vX5 with h | h <;> rw [h]; exact n32X4; exact Nat.ne_of_lt lX3X4
            refine wanted_append_run rfl _ _ 23 rfl _ _ _ _ rfl rfl aX5 ?_
            refine hK.out _ _ ?_ (fun hHeld => ?_)
            · exact gX5
            clear hK K
            try simp only [Act.put, List.setIfInBounds_toArray, List.set_cons_zero, List.set_cons_succ]
            refine wpAnyH_take (i := 14) (oi := { dst := some 17, op := Op.build 25 #[(0, Operand.tmp 6), (1, Operand.tmp 10), (2, Operand.tmp 12), (3, Operand.tmp 16)], type := 25, pos := "ref.go:179", after := #[{ on := 3, ground := Ground.data }, { on := 7, ground := Ground.data }, { on := 9, ground := Ground.data }, { on := 13, ground := Ground.data }], guard := none }) (v := ?_) rfl (by kernel_rfl) (by kernel_rfl) (by kernel_rfl) (fun _ _ _ h => h) (Or.inl ⟨by rfl, ?_⟩) hHeld ?_
            rotate_left
            · intro u hSw
              go_simp
              try with_reducible rfl
            try simp only [Act.put, List.setIfInBounds_toArray, List.set_cons_zero, List.set_cons_succ]
            refine wpAnyH_ready (rs := [15]) (by kernel_rfl) (by simp) ?_
            refine (AllReadyH.cons (o := { dst := none, op := Op.store 25 (Operand.tmp 2) (Operand.tmp 17), type := 0, pos := "ref.go:179", after := #[{ on := 14, ground := Ground.data }, { on := 13, ground := Ground.chain }, { on := 0, ground := Ground.phase }, { on := 1, ground := Ground.phase }, { on := 2, ground := Ground.phase }, { on := 3, ground := Ground.phase }, { on := 4, ground := Ground.phase }, { on := 5, ground := Ground.phase }, { on := 6, ground := Ground.phase }, { on := 7, ground := Ground.phase }, { on := 8, ground := Ground.phase }, { on := 9, ground := Ground.phase }, { on := 10, ground := Ground.phase }, { on := 11, ground := Ground.phase }, { on := 12, ground := Ground.phase }, { on := 13, ground := Ground.phase }, { on := 14, ground := Ground.phase }], guard := none }) rfl (fun K hK => ?_) AllReadyH.nil)
            have hk3 := heap_later HRES.out BX5
            have d0 := cellAt hk3 0 _ rfl
            have d1 := cellAt hk3 1 _ rfl
            have d2 := cellAt hk3 2 _ rfl
            have d3 := cellAt hk3 3 _ rfl
            have e0 : X5.frozen? ⟨N + 1, 0, none⟩ = false := frozen_of_row _ _ _ _ _ hk3
            have e1 : X5.frozen? ⟨N + 1, 1, none⟩ = false := frozen_of_row _ _ _ _ _ hk3
            have e2 : X5.frozen? ⟨N + 1, 2, none⟩ = false := frozen_of_row _ _ _ _ _ hk3
            have e3 : X5.frozen? ⟨N + 1, 3, none⟩ = false := frozen_of_row _ _ _ _ _ hk3
            go_simp
            refine hK.out _ _ ?_ (fun hHeld => ?_)
            · exact grownBy_setCell (grownBy_setCell (grownBy_setCell (grownBy_setCell gX5 _) _) _) _
            clear hK K
            try simp only [Act.put, List.setIfInBounds_toArray, List.set_cons_zero, List.set_cons_succ]
            refine wpAnyH_done (by kernel_rfl) ?_ _
            refine NoPanic.normal ?_
            obtain ⟨Z, hZ⟩ : ∃ Z, Z = ((((X5.setCell ⟨N + 1, 0, none⟩ (.slice (some ⟨rX2, 0, none⟩) il pX2)).setCell ⟨N + 1, 1, none⟩ (.slice (some ⟨rX3, 0, none⟩) ol pX3)).setCell ⟨N + 1, 2, none⟩ (.int .i64 rg)).setCell ⟨N + 1, 3, none⟩ (.slice (some ⟨rX5, 0, none⟩) sl pX5)) := ⟨_, rfl⟩
            have hfin := copy_end9 hz hk3 BX5 oX2X3X4X5 oX3X4X5 oX5 hZ
            rw [← hZ]
            go_wp2
            go_meet
            exact ⟨_, _, _, _, _, _, hfin⟩
          · obtain ⟨X3, hX3⟩ : ∃ Z9 : World, Z9 = X2.alloc (.cells #[] 48) := ⟨_, rfl⟩
            have bX3 : Below X2.heap.size X2 X3 := by rw [hX3]; exact (Below.refl _ _).alloc (Nat.le_refl _) _
            have BX3 : Below W.heap.size W X3 := BX2.trans (bX3.mono BX2.size)
            have gX3 : W.grownBy X3 (some (N + 1)) := grown_below gX2 bX3
            have eX3 : X3.ownsRow W.heap.size 48 4 (.slice (some ⟨X2.heap.size, 0, none⟩) 0 0) 0 [] := own_empty (by rw [hX3]; exact heap_alloc_last _ _) BX2.size
            have lX3 : X2.heap.size < X3.heap.size := by rw [hX3]; simp
            have eX1X2X3 := own_below eX1X2 bX3
            have lX1X2X3 := Nat.lt_of_lt_of_le lX1X2 bX3.size
            have oX2X3 := own_below oX2 bX3
            have lX2X3 := Nat.lt_of_lt_of_le lX2 bX3.size
            have n32X3 : X0.heap.size ≠ X2.heap.size := Nat.ne_of_lt lX1X2
            have n31X3 : rX2 ≠ X2.heap.size := Nat.ne_of_lt lX2
            have HX3 : Hid (X3 = X2.alloc (.cells #[] 48)) := hX3
            clear hX3
            go_simp
            rw [← HX3.out]
            refine hK.out _ _ ?_ (fun hHeld => ?_)
            · exact gX3
            clear hK K
            try simp only [Act.put, List.setIfInBounds_toArray, List.set_cons_zero, List.set_cons_succ]
            refine wpAnyH_ready (rs := [7]) (by kernel_rfl) (by simp) ?_
            refine (AllReadyH.cons (o := { dst := some 10, op := Op.call { callee := Callee.builtin Builtin.append, args := #[Operand.tmp 7, Operand.tmp 9], argTypes := #[22, 22] }, type := 22, pos := "ref.go:179", after := #[{ on := 4, ground := Ground.data }, { on := 6, ground := Ground.data }, { on := 3, ground := Ground.chain }], guard := none }) rfl (fun K hK => ?_) AllReadyH.nil)
            obtain ⟨rX4, pX4, X4, aX4, oX4, wX4, vX4⟩ := copyI (ca := oc) 22 eX1X2X3 HOL.out b8o (rowI_below HO.out BX3) BX3.size
            have BX4 : Below W.heap.size W X4 := below_own BX3 eX1X2X3 wX4 BX3.size
            have gX4 : W.grownBy X4 (some (N + 1)) := grown_below9 gX3 BX3 BX4
            have lX4 : rX4 < X4.heap.size := own_lt9 oX4
            have oX2X3X4 := own_kept9 oX2X3 wX4 m12X2.symm
            have lX2X3X4 := Nat.lt_of_lt_of_le lX2X3 wX4.size
            have m21X4 : rX2 ≠ rX4 := by rcases vX4 with h | h <;> rw [h]; exact m12X2.symm; exact Nat.ne_of_lt lX2X3
            have eX3X4 := own_kept9 eX3 wX4 n32X3.symm
            have lX3X4 := Nat.lt_of_lt_of_le lX3 wX4.size
            have m23X4 : X2.heap.size ≠ rX4 := by rcases vX4 with h | h <;> rw [h]; exact n32X3.symm; exact Nat.ne_of_lt lX3
            refine wanted_append_run rfl _ _ 22 rfl _ _ _ _ rfl rfl aX4 ?_
            refine hK.out _ _ ?_ (fun hHeld => ?_)
            · exact gX4
            clear hK K
            try simp only [Act.put, List.setIfInBounds_toArray, List.set_cons_zero, List.set_cons_succ]
            refine wpAnyH_ready (rs := [13]) (by kernel_rfl) (by simp) ?_
            refine (AllReadyH.cons (o := { dst := some 16, op := Op.call { callee := Callee.builtin Builtin.append, args := #[Operand.tmp 13, Operand.tmp 15], argTypes := #[23, 23] }, type := 23, pos := "ref.go:179", after := #[{ on := 10, ground := Ground.data }, { on := 12, ground := Ground.data }, { on := 7, ground := Ground.chain }], guard := none }) rfl (fun K hK => ?_) AllReadyH.nil)
            obtain ⟨rX5, pX5, X5, aX5, oX5, wX5, vX5⟩ := copyT (ca := sc) 23 eX3X4 HSL.out b32 (stpW_below HS.out BX4) BX4.size
            have BX5 : Below W.heap.size W X5 := below_own BX4 eX3X4 wX5 BX4.size
            have gX5 : W.grownBy X5 (some (N + 1)) := grown_below9 gX4 BX4 BX5
            have lX5 : rX5 < X5.heap.size := own_lt9 oX5
            have oX2X3X4X5 := own_kept9 oX2X3X4 wX5 n31X3
            have lX2X3X4X5 := Nat.lt_of_lt_of_le lX2X3X4 wX5.size
            have m31X5 : rX2 ≠ rX5 := by rcases vX5 with h | h <;> rw [h]; exact n31X3; exact Nat.ne_of_lt lX2X3X4
            have oX4X5 := own_kept9 oX4 wX5 m23X4.symm
            have lX4X5 := Nat.lt_of_lt_of_le lX4 wX5.size
            have m32X5 : rX4 ≠ rX5 := by rcases vX5 with h | h <;> rw [h]; exact m23X4.symm; exact Nat.ne_of_lt lX4
            refine wanted_append_run rfl _ _ 23 rfl _ _ _ _ rfl rfl aX5 ?_
            refine hK.out _ _ ?_ (fun hHeld => ?_)
            · exact gX5
            clear hK K
            try simp only [Act.put, List.setIfInBounds_toArray, List.set_cons_zero, List.set_cons_succ]
            refine wpAnyH_take (i := 14) (oi := { dst := some 17, op := Op.build 25 #[(0, Operand.tmp 6), (1, Operand.tmp 10), (2, Operand.tmp 12), (3, Operand.tmp 16)], type := 25, pos := "ref.go:179", after := #[{ on := 3, ground := Ground.data }, { on := 7, ground := Ground.data }, { on := 9, ground := Ground.data }, { on := 13, ground := Ground.data }], guard := none }) (v := ?_) rfl (by kernel_rfl) (by kernel_rfl) (by kernel_rfl) (fun _ _ _ h => h) (Or.inl ⟨by rfl, ?_⟩) hHeld ?_
            rotate_left
            · intro u hSw
              go_simp
              try with_reducible rfl
            try simp only [Act.put, List.setIfInBounds_toArray, List.set_cons_zero, List.set_cons_succ]
            refine wpAnyH_ready (rs := [15]) (by kernel_rfl) (by simp) ?_
            refine (AllReadyH.cons (o := { dst := none, op := Op.store 25 (Operand.tmp 2) (Operand.tmp 17), type := 0, pos := "ref.go:179", after := #[{ on := 14, ground := Ground.data }, { on := 13, ground := Ground.chain }, { on := 0, ground := Ground.phase }, { on := 1, ground := Ground.phase }, { on := 2, ground := Ground.phase }, { on := 3, ground := Ground.phase }, { on := 4, ground := Ground.phase }, { on := 5, ground := Ground.phase }, { on := 6, ground := Ground.phase }, { on := 7, ground := Ground.phase }, { on := 8, ground := Ground.phase }, { on := 9, ground := Ground.phase }, { on := 10, ground := Ground.phase }, { on := 11, ground := Ground.phase }, { on := 12, ground := Ground.phase }, { on := 13, ground := Ground.phase }, { on := 14, ground := Ground.phase }], guard := none }) rfl (fun K hK => ?_) AllReadyH.nil)
            have hk3 := heap_later HRES.out BX5
            have d0 := cellAt hk3 0 _ rfl
            have d1 := cellAt hk3 1 _ rfl
            have d2 := cellAt hk3 2 _ rfl
            have d3 := cellAt hk3 3 _ rfl
            have e0 : X5.frozen? ⟨N + 1, 0, none⟩ = false := frozen_of_row _ _ _ _ _ hk3
            have e1 : X5.frozen? ⟨N + 1, 1, none⟩ = false := frozen_of_row _ _ _ _ _ hk3
            have e2 : X5.frozen? ⟨N + 1, 2, none⟩ = false := frozen_of_row _ _ _ _ _ hk3
            have e3 : X5.frozen? ⟨N + 1, 3, none⟩ = false := frozen_of_row _ _ _ _ _ hk3
            go_simp
            refine hK.out _ _ ?_ (fun hHeld => ?_)
            · exact grownBy_setCell (grownBy_setCell (grownBy_setCell (grownBy_setCell gX5 _) _) _) _
            clear hK K
            try simp only [Act.put, List.setIfInBounds_toArray, List.set_cons_zero, List.set_cons_succ]
            refine wpAnyH_done (by kernel_rfl) ?_ _
            refine NoPanic.normal ?_
            obtain ⟨Z, hZ⟩ : ∃ Z, Z = ((((X5.setCell ⟨N + 1, 0, none⟩ (.slice (some ⟨rX2, 0, none⟩) il pX2)).setCell ⟨N + 1, 1, none⟩ (.slice (some ⟨rX4, 0, none⟩) ol pX4)).setCell ⟨N + 1, 2, none⟩ (.int .i64 rg)).setCell ⟨N + 1, 3, none⟩ (.slice (some ⟨rX5, 0, none⟩) sl pX5)) := ⟨_, rfl⟩
            have hfin := copy_end9 hz hk3 BX5 oX2X3X4X5 oX4X5 oX5 hZ
            rw [← hZ]
            go_wp2
            go_meet
            exact ⟨_, _, _, _, _, _, hfin⟩
        · obtain ⟨X2, hX2⟩ : ∃ Z9 : World, Z9 = X1.alloc (.cells #[] 48) := ⟨_, rfl⟩
          have bX2 : Below X1.heap.size X1 X2 := by rw [hX2]; exact (Below.refl _ _).alloc (Nat.le_refl _) _
          have BX2 : Below W.heap.size W X2 := BX1.trans (bX2.mono BX1.size)
          have gX2 : W.grownBy X2 (some (N + 1)) := grown_below gX1 bX2
          have eX2 : X2.ownsRow W.heap.size 48 4 (.slice (some ⟨X1.heap.size, 0, none⟩) 0 0) 0 [] := own_empty (by rw [hX2]; exact heap_alloc_last _ _) BX1.size
          have lX2 : X1.heap.size < X2.heap.size := by rw [hX2]; simp
          have eX0X1X2 := own_below eX0X1 bX2
          have lX0X1X2 := Nat.lt_of_lt_of_le lX0X1 bX2.size
          have eX1X2 := own_below eX1 bX2
          have lX1X2 := Nat.lt_of_lt_of_le lX1 bX2.size
          have n31X2 : X.heap.size ≠ X1.heap.size := Nat.ne_of_lt lX0X1
          have n32X2 : X0.heap.size ≠ X1.heap.size := Nat.ne_of_lt lX1
          have HX2 : Hid (X2 = X1.alloc (.cells #[] 48)) := hX2
          clear hX2
          go_simp
          rw [← HX2.out]
          refine hK.out _ _ ?_ (fun hHeld => ?_)
          · exact gX2
          clear hK K
          try simp only [Act.put, List.setIfInBounds_toArray, List.set_cons_zero, List.set_cons_succ]
          refine wpAnyH_ready (rs := [3]) (by kernel_rfl) (by simp) ?_
          refine (AllReadyH.cons (o := { dst := some 6, op := Op.call { callee := Callee.builtin Builtin.append, args := #[Operand.tmp 3, Operand.tmp 5], argTypes := #[22, 22] }, type := 22, pos := "ref.go:179", after := #[{ on := 0, ground := Ground.data }, { on := 2, ground := Ground.data }], guard := none }) rfl (fun K hK => ?_) AllReadyH.nil)
          obtain ⟨rX3, pX3, X3, aX3, oX3, wX3, vX3⟩ := copyI (ca := ic) 22 eX0X1X2 HIL.out b8i (rowI_below HI.out BX2) BX2.size
          have BX3 : Below W.heap.size W X3 := below_own BX2 eX0X1X2 wX3 BX2.size
          have gX3 : W.grownBy X3 (some (N + 1)) := grown_below9 gX2 BX2 BX3
          have lX3 : rX3 < X3.heap.size := own_lt9 oX3
          have eX1X2X3 := own_kept9 eX1X2 wX3 n21X1.symm
          have lX1X2X3 := Nat.lt_of_lt_of_le lX1X2 wX3.size
          have m12X3 : X0.heap.size ≠ rX3 := by rcases vX3 with h | h <;> rw [h]; exact n21X1.symm; exact Nat.ne_of_lt lX1X2
          have eX2X3 := own_kept9 eX2 wX3 n31X2.symm
          have lX2X3 := Nat.lt_of_lt_of_le lX2 wX3.size
          have m13X3 : X1.heap.size ≠ rX3 := by rcases vX3 with h | h <;> rw [h]; exact n31X2.symm; exact Nat.ne_of_lt lX2
          refine wanted_append_run rfl _ _ 22 rfl _ _ _ _ rfl rfl aX3 ?_
          refine hK.out _ _ ?_ (fun hHeld => ?_)
          · exact gX3
          clear hK K
          try simp only [Act.put, List.setIfInBounds_toArray, List.set_cons_zero, List.set_cons_succ]
          refine wpAnyH_ready (rs := [7]) (by kernel_rfl) (by simp) ?_
          refine (AllReadyH.cons (o := { dst := some 10, op := Op.call { callee := Callee.builtin Builtin.append, args := #[Operand.tmp 7, Operand.tmp 9], argTypes := #[22, 22] }, type := 22, pos := "ref.go:179", after := #[{ on := 4, ground := Ground.data }, { on := 6, ground := Ground.data }, { on := 3, ground := Ground.chain }], guard := none }) rfl (fun K hK => ?_) AllReadyH.nil)
          obtain ⟨rX4, pX4, X4, aX4, oX4, wX4, vX4⟩ := copyI (ca := oc) 22 eX1X2X3 HOL.out b8o (rowI_below HO.out BX3) BX3.size
          have BX4 : Below W.heap.size W X4 := below_own BX3 eX1X2X3 wX4 BX3.size
          have gX4 : W.grownBy X4 (some (N + 1)) := grown_below9 gX3 BX3 BX4
          have lX4 : rX4 < X4.heap.size := own_lt9 oX4
          have eX2X3X4 := own_kept9 eX2X3 wX4 n32X2.symm
          have lX2X3X4 := Nat.lt_of_lt_of_le lX2X3 wX4.size
          have m23X4 : X1.heap.size ≠ rX4 := by rcases vX4 with h | h <;> rw [h]; exact n32X2.symm; exact Nat.ne_of_lt lX2X3
          have oX3X4 := own_kept9 oX3 wX4 m12X3.symm
          have lX3X4 := Nat.lt_of_lt_of_le lX3 wX4.size
          have m21X4 : rX3 ≠ rX4 := by rcases vX4 with h | h <;> rw [h]; exact m12X3.symm; exact Nat.ne_of_lt lX3
          refine wanted_append_run rfl _ _ 22 rfl _ _ _ _ rfl rfl aX4 ?_
          refine hK.out _ _ ?_ (fun hHeld => ?_)
          · exact gX4
          clear hK K
          try simp only [Act.put, List.setIfInBounds_toArray, List.set_cons_zero, List.set_cons_succ]
          refine wpAnyH_ready (rs := [13]) (by kernel_rfl) (by simp) ?_
          refine (AllReadyH.cons (o := { dst := some 16, op := Op.call { callee := Callee.builtin Builtin.append, args := #[Operand.tmp 13, Operand.tmp 15], argTypes := #[23, 23] }, type := 23, pos := "ref.go:179", after := #[{ on := 10, ground := Ground.data }, { on := 12, ground := Ground.data }, { on := 7, ground := Ground.chain }], guard := none }) rfl (fun K hK => ?_) AllReadyH.nil)
          obtain ⟨rX5, pX5, X5, aX5, oX5, wX5, vX5⟩ := copyT (ca := sc) 23 eX2X3X4 HSL.out b32 (stpW_below HS.out BX4) BX4.size
          have BX5 : Below W.heap.size W X5 := below_own BX4 eX2X3X4 wX5 BX4.size
          have gX5 : W.grownBy X5 (some (N + 1)) := grown_below9 gX4 BX4 BX5
          have lX5 : rX5 < X5.heap.size := own_lt9 oX5
          have oX3X4X5 := own_kept9 oX3X4 wX5 m13X3.symm
          have lX3X4X5 := Nat.lt_of_lt_of_le lX3X4 wX5.size
          have m31X5 : rX3 ≠ rX5 := by rcases vX5 with h | h <;> rw [h]; exact m13X3.symm; exact Nat.ne_of_lt lX3X4
          have oX4X5 := own_kept9 oX4 wX5 m23X4.symm
          have lX4X5 := Nat.lt_of_lt_of_le lX4 wX5.size
          have m32X5 : rX4 ≠ rX5 := by rcases vX5 with h | h <;> rw [h]; exact m23X4.symm; exact Nat.ne_of_lt lX4
          refine wanted_append_run rfl _ _ 23 rfl _ _ _ _ rfl rfl aX5 ?_
          refine hK.out _ _ ?_ (fun hHeld => ?_)
          · exact gX5
          clear hK K
          try simp only [Act.put, List.setIfInBounds_toArray, List.set_cons_zero, List.set_cons_succ]
          refine wpAnyH_take (i := 14) (oi := { dst := some 17, op := Op.build 25 #[(0, Operand.tmp 6), (1, Operand.tmp 10), (2, Operand.tmp 12), (3, Operand.tmp 16)], type := 25, pos := "ref.go:179", after := #[{ on := 3, ground := Ground.data }, { on := 7, ground := Ground.data }, { on := 9, ground := Ground.data }, { on := 13, ground := Ground.data }], guard := none }) (v := ?_) rfl (by kernel_rfl) (by kernel_rfl) (by kernel_rfl) (fun _ _ _ h => h) (Or.inl ⟨by rfl, ?_⟩) hHeld ?_
          rotate_left
          · intro u hSw
            go_simp
            try with_reducible rfl
          try simp only [Act.put, List.setIfInBounds_toArray, List.set_cons_zero, List.set_cons_succ]
          refine wpAnyH_ready (rs := [15]) (by kernel_rfl) (by simp) ?_
          refine (AllReadyH.cons (o := { dst := none, op := Op.store 25 (Operand.tmp 2) (Operand.tmp 17), type := 0, pos := "ref.go:179", after := #[{ on := 14, ground := Ground.data }, { on := 13, ground := Ground.chain }, { on := 0, ground := Ground.phase }, { on := 1, ground := Ground.phase }, { on := 2, ground := Ground.phase }, { on := 3, ground := Ground.phase }, { on := 4, ground := Ground.phase }, { on := 5, ground := Ground.phase }, { on := 6, ground := Ground.phase }, { on := 7, ground := Ground.phase }, { on := 8, ground := Ground.phase }, { on := 9, ground := Ground.phase }, { on := 10, ground := Ground.phase }, { on := 11, ground := Ground.phase }, { on := 12, ground := Ground.phase }, { on := 13, ground := Ground.phase }, { on := 14, ground := Ground.phase }], guard := none }) rfl (fun K hK => ?_) AllReadyH.nil)
          have hk3 := heap_later HRES.out BX5
          have d0 := cellAt hk3 0 _ rfl
          have d1 := cellAt hk3 1 _ rfl
          have d2 := cellAt hk3 2 _ rfl
          have d3 := cellAt hk3 3 _ rfl
          have e0 : X5.frozen? ⟨N + 1, 0, none⟩ = false := frozen_of_row _ _ _ _ _ hk3
          have e1 : X5.frozen? ⟨N + 1, 1, none⟩ = false := frozen_of_row _ _ _ _ _ hk3
          have e2 : X5.frozen? ⟨N + 1, 2, none⟩ = false := frozen_of_row _ _ _ _ _ hk3
          have e3 : X5.frozen? ⟨N + 1, 3, none⟩ = false := frozen_of_row _ _ _ _ _ hk3
          go_simp
          refine hK.out _ _ ?_ (fun hHeld => ?_)
          · exact grownBy_setCell (grownBy_setCell (grownBy_setCell (grownBy_setCell gX5 _) _) _) _
          clear hK K
          try simp only [Act.put, List.setIfInBounds_toArray, List.set_cons_zero, List.set_cons_succ]
          refine wpAnyH_done (by kernel_rfl) ?_ _
          refine NoPanic.normal ?_
          obtain ⟨Z, hZ⟩ : ∃ Z, Z = ((((X5.setCell ⟨N + 1, 0, none⟩ (.slice (some ⟨rX3, 0, none⟩) il pX3)).setCell ⟨N + 1, 1, none⟩ (.slice (some ⟨rX4, 0, none⟩) ol pX4)).setCell ⟨N + 1, 2, none⟩ (.int .i64 rg)).setCell ⟨N + 1, 3, none⟩ (.slice (some ⟨rX5, 0, none⟩) sl pX5)) := ⟨_, rfl⟩
          have hfin := copy_end9 hz hk3 BX5 oX3X4X5 oX4X5 oX5 hZ
          rw [← hZ]
          go_wp2
          go_meet
          exact ⟨_, _, _, _, _, _, hfin⟩
      · obtain ⟨X1, hX1⟩ : ∃ Z9 : World, Z9 = X0.alloc (.cells #[] 48) := ⟨_, rfl⟩
        have bX1 : Below X0.heap.size X0 X1 := by rw [hX1]; exact (Below.refl _ _).alloc (Nat.le_refl _) _
        have BX1 : Below W.heap.size W X1 := BX0.trans (bX1.mono BX0.size)
        have gX1 : W.grownBy X1 (some (N + 1)) := grown_below gX0 bX1
        have eX1 : X1.ownsRow W.heap.size 48 4 (.slice (some ⟨X0.heap.size, 0, none⟩) 0 0) 0 [] := own_empty (by rw [hX1]; exact heap_alloc_last _ _) BX0.size
        have lX1 : X0.heap.size < X1.heap.size := by rw [hX1]; simp
        have eX0X1 := own_below eX0 bX1
        have lX0X1 := Nat.lt_of_lt_of_le lX0 bX1.size
        have n31X1 : X.heap.size ≠ X0.heap.size := Nat.ne_of_lt lX0
        have HX1 : Hid (X1 = X0.alloc (.cells #[] 48)) := hX1
        clear hX1
        go_simp
        rw [← HX1.out]
        refine hK.out _ _ ?_ (fun hHeld => ?_)
        · exact gX1
        clear hK K
        try simp only [Act.put, List.setIfInBounds_toArray, List.set_cons_zero, List.set_cons_succ]
        refine wpAnyH_ready (rs := [3, 4]) (by kernel_rfl) (by simp) ?_
        refine (AllReadyH.cons (o := { dst := some 6, op := Op.call { callee := Callee.builtin Builtin.append, args := #[Operand.tmp 3, Operand.tmp 5], argTypes := #[22, 22] }, type := 22, pos := "ref.go:179", after := #[{ on := 0, ground := Ground.data }, { on := 2, ground := Ground.data }], guard := none }) rfl (fun K hK => ?_) (AllReadyH.cons (o := { dst := some 7, op := Op.buildSlice 22 0 #[], type := 22, pos := "ref.go:179", after := #[], guard := none }) rfl (fun K hK => ?_) AllReadyH.nil))
        · obtain ⟨rX2, pX2, X2, aX2, oX2, wX2, vX2⟩ := copyI (ca := ic) 22 eX0X1 HIL.out b8i (rowI_below HI.out BX1) BX1.size
          have BX2 : Below W.heap.size W X2 := below_own BX1 eX0X1 wX2 BX1.size
          have gX2 : W.grownBy X2 (some (N + 1)) := grown_below9 gX1 BX1 BX2
          have lX2 : rX2 < X2.heap.size := own_lt9 oX2
          have eX1X2 := own_kept9 eX1 wX2 n31X1.symm
          have lX1X2 := Nat.lt_of_lt_of_le lX1 wX2.size
          have m13X2 : X0.heap.size ≠ rX2 := by rcases vX2 with h | h <;> rw [h]; exact n31X1.symm; exact Nat.ne_of_lt lX1
          refine wanted_append_run rfl _ _ 22 rfl _ _ _ _ rfl rfl aX2 ?_
          refine hK.out _ _ ?_ (fun hHeld => ?_)
          · exact gX2
          clear hK K
          try simp only [Act.put, List.setIfInBounds_toArray, List.set_cons_zero, List.set_cons_succ]
          refine wpAnyH_ready (rs := [4]) (by kernel_rfl) (by simp) ?_
          refine (AllReadyH.cons (o := { dst := some 7, op := Op.buildSlice 22 0 #[], type := 22, pos := "ref.go:179", after := #[], guard := none }) rfl (fun K hK => ?_) AllReadyH.nil)
          obtain ⟨X3, hX3⟩ : ∃ Z9 : World, Z9 = X2.alloc (.cells #[] 3) := ⟨_, rfl⟩
          have bX3 : Below X2.heap.size X2 X3 := by rw [hX3]; exact (Below.refl _ _).alloc (Nat.le_refl _) _
          have BX3 : Below W.heap.size W X3 := BX2.trans (bX3.mono BX2.size)
          have gX3 : W.grownBy X3 (some (N + 1)) := grown_below gX2 bX3
          have eX3 : X3.ownsRow W.heap.size 3 1 (.slice (some ⟨X2.heap.size, 0, none⟩) 0 0) 0 [] := own_empty (by rw [hX3]; exact heap_alloc_last _ _) BX2.size
          have lX3 : X2.heap.size < X3.heap.size := by rw [hX3]; simp
          have eX1X2X3 := own_below eX1X2 bX3
          have lX1X2X3 := Nat.lt_of_lt_of_le lX1X2 bX3.size
          have oX2X3 := own_below oX2 bX3
          have lX2X3 := Nat.lt_of_lt_of_le lX2 bX3.size
          have n23X3 : X0.heap.size ≠ X2.heap.size := Nat.ne_of_lt lX1X2
          have n21X3 : rX2 ≠ X2.heap.size := Nat.ne_of_lt lX2
          have HX3 : Hid (X3 = X2.alloc (.cells #[] 3)) := hX3
          clear hX3
          go_simp
          rw [← HX3.out]
          refine hK.out _ _ ?_ (fun hHeld => ?_)
          · exact gX3
          clear hK K
          try simp only [Act.put, List.setIfInBounds_toArray, List.set_cons_zero, List.set_cons_succ]
          refine wpAnyH_ready (rs := [7]) (by kernel_rfl) (by simp) ?_
          refine (AllReadyH.cons (o := { dst := some 10, op := Op.call { callee := Callee.builtin Builtin.append, args := #[Operand.tmp 7, Operand.tmp 9], argTypes := #[22, 22] }, type := 22, pos := "ref.go:179", after := #[{ on := 4, ground := Ground.data }, { on := 6, ground := Ground.data }, { on := 3, ground := Ground.chain }], guard := none }) rfl (fun K hK => ?_) AllReadyH.nil)
          obtain ⟨rX4, pX4, X4, aX4, oX4, wX4, vX4⟩ := copyI (ca := oc) 22 eX3 HOL.out b8o (rowI_below HO.out BX3) BX3.size
          have BX4 : Below W.heap.size W X4 := below_own BX3 eX3 wX4 BX3.size
          have gX4 : W.grownBy X4 (some (N + 1)) := grown_below9 gX3 BX3 BX4
          have lX4 : rX4 < X4.heap.size := own_lt9 oX4
          have eX1X2X3X4 := own_kept9 eX1X2X3 wX4 n23X3
          have lX1X2X3X4 := Nat.lt_of_lt_of_le lX1X2X3 wX4.size
          have m23X4 : X0.heap.size ≠ rX4 := by rcases vX4 with h | h <;> rw [h]; exact n23X3; exact Nat.ne_of_lt lX1X2X3
          have oX2X3X4 := own_kept9 oX2X3 wX4 n21X3
          have lX2X3X4 := Nat.lt_of_lt_of_le lX2X3 wX4.size
          have m21X4 : rX2 ≠ rX4 := by rcases vX4 with h | h <;> rw [h]; exact n21X3; exact Nat.ne_of_lt lX2X3
          refine wanted_append_run rfl _ _ 22 rfl _ _ _ _ rfl rfl aX4 ?_
          refine hK.out _ _ ?_ (fun hHeld => ?_)
          · exact gX4
          clear hK K
          try simp only [Act.put, List.setIfInBounds_toArray, List.set_cons_zero, List.set_cons_succ]
          refine wpAnyH_ready (rs := [13]) (by kernel_rfl) (by simp) ?_
          refine (AllReadyH.cons (o := { dst := some 16, op := Op.call { callee := Callee.builtin Builtin.append, args := #[Operand.tmp 13, Operand.tmp 15], argTypes := #[23, 23] }, type := 23, pos := "ref.go:179", after := #[{ on := 10, ground := Ground.data }, { on := 12, ground := Ground.data }, { on := 7, ground := Ground.chain }], guard := none }) rfl (fun K hK => ?_) AllReadyH.nil)
          obtain ⟨rX5, pX5, X5, aX5, oX5, wX5, vX5⟩ := copyT (ca := sc) 23 eX1X2X3X4 HSL.out b32 (stpW_below HS.out BX4) BX4.size
          have BX5 : Below W.heap.size W X5 := below_own BX4 eX1X2X3X4 wX5 BX4.size
          have gX5 : W.grownBy X5 (some (N + 1)) := grown_below9 gX4 BX4 BX5
          have lX5 : rX5 < X5.heap.size := own_lt9 oX5
          have oX2X3X4X5 := own_kept9 oX2X3X4 wX5 m13X2.symm
          have lX2X3X4X5 := Nat.lt_of_lt_of_le lX2X3X4 wX5.size
          have m31X5 : rX2 ≠ rX5 := by rcases vX5 with h | h <;> rw [h]; exact m13X2.symm; exact Nat.ne_of_lt lX2X3X4
          have oX4X5 := own_kept9 oX4 wX5 m23X4.symm
          have lX4X5 := Nat.lt_of_lt_of_le lX4 wX5.size
          have m32X5 : rX4 ≠ rX5 := by rcases vX5 with h | h <;> rw [h]; exact m23X4.symm; exact Nat.ne_of_lt lX4
          refine wanted_append_run rfl _ _ 23 rfl _ _ _ _ rfl rfl aX5 ?_
          refine hK.out _ _ ?_ (fun hHeld => ?_)
          · exact gX5
          clear hK K
          try simp only [Act.put, List.setIfInBounds_toArray, List.set_cons_zero, List.set_cons_succ]
          refine wpAnyH_take (i := 14) (oi := { dst := some 17, op := Op.build 25 #[(0, Operand.tmp 6), (1, Operand.tmp 10), (2, Operand.tmp 12), (3, Operand.tmp 16)], type := 25, pos := "ref.go:179", after := #[{ on := 3, ground := Ground.data }, { on := 7, ground := Ground.data }, { on := 9, ground := Ground.data }, { on := 13, ground := Ground.data }], guard := none }) (v := ?_) rfl (by kernel_rfl) (by kernel_rfl) (by kernel_rfl) (fun _ _ _ h => h) (Or.inl ⟨by rfl, ?_⟩) hHeld ?_
          rotate_left
          · intro u hSw
            go_simp
            try with_reducible rfl
          try simp only [Act.put, List.setIfInBounds_toArray, List.set_cons_zero, List.set_cons_succ]
          refine wpAnyH_ready (rs := [15]) (by kernel_rfl) (by simp) ?_
          refine (AllReadyH.cons (o := { dst := none, op := Op.store 25 (Operand.tmp 2) (Operand.tmp 17), type := 0, pos := "ref.go:179", after := #[{ on := 14, ground := Ground.data }, { on := 13, ground := Ground.chain }, { on := 0, ground := Ground.phase }, { on := 1, ground := Ground.phase }, { on := 2, ground := Ground.phase }, { on := 3, ground := Ground.phase }, { on := 4, ground := Ground.phase }, { on := 5, ground := Ground.phase }, { on := 6, ground := Ground.phase }, { on := 7, ground := Ground.phase }, { on := 8, ground := Ground.phase }, { on := 9, ground := Ground.phase }, { on := 10, ground := Ground.phase }, { on := 11, ground := Ground.phase }, { on := 12, ground := Ground.phase }, { on := 13, ground := Ground.phase }, { on := 14, ground := Ground.phase }], guard := none }) rfl (fun K hK => ?_) AllReadyH.nil)
          have hk3 := heap_later HRES.out BX5
          have d0 := cellAt hk3 0 _ rfl
          have d1 := cellAt hk3 1 _ rfl
          have d2 := cellAt hk3 2 _ rfl
          have d3 := cellAt hk3 3 _ rfl
          have e0 : X5.frozen? ⟨N + 1, 0, none⟩ = false := frozen_of_row _ _ _ _ _ hk3
          have e1 : X5.frozen? ⟨N + 1, 1, none⟩ = false := frozen_of_row _ _ _ _ _ hk3
          have e2 : X5.frozen? ⟨N + 1, 2, none⟩ = false := frozen_of_row _ _ _ _ _ hk3
          have e3 : X5.frozen? ⟨N + 1, 3, none⟩ = false := frozen_of_row _ _ _ _ _ hk3
          go_simp
          refine hK.out _ _ ?_ (fun hHeld => ?_)
          · exact grownBy_setCell (grownBy_setCell (grownBy_setCell (grownBy_setCell gX5 _) _) _) _
          clear hK K
          try simp only [Act.put, List.setIfInBounds_toArray, List.set_cons_zero, List.set_cons_succ]
          refine wpAnyH_done (by kernel_rfl) ?_ _
          refine NoPanic.normal ?_
          obtain ⟨Z, hZ⟩ : ∃ Z, Z = ((((X5.setCell ⟨N + 1, 0, none⟩ (.slice (some ⟨rX2, 0, none⟩) il pX2)).setCell ⟨N + 1, 1, none⟩ (.slice (some ⟨rX4, 0, none⟩) ol pX4)).setCell ⟨N + 1, 2, none⟩ (.int .i64 rg)).setCell ⟨N + 1, 3, none⟩ (.slice (some ⟨rX5, 0, none⟩) sl pX5)) := ⟨_, rfl⟩
          have hfin := copy_end9 hz hk3 BX5 oX2X3X4X5 oX4X5 oX5 hZ
          rw [← hZ]
          go_wp2
          go_meet
          exact ⟨_, _, _, _, _, _, hfin⟩
        · obtain ⟨X2, hX2⟩ : ∃ Z9 : World, Z9 = X1.alloc (.cells #[] 3) := ⟨_, rfl⟩
          have bX2 : Below X1.heap.size X1 X2 := by rw [hX2]; exact (Below.refl _ _).alloc (Nat.le_refl _) _
          have BX2 : Below W.heap.size W X2 := BX1.trans (bX2.mono BX1.size)
          have gX2 : W.grownBy X2 (some (N + 1)) := grown_below gX1 bX2
          have eX2 : X2.ownsRow W.heap.size 3 1 (.slice (some ⟨X1.heap.size, 0, none⟩) 0 0) 0 [] := own_empty (by rw [hX2]; exact heap_alloc_last _ _) BX1.size
          have lX2 : X1.heap.size < X2.heap.size := by rw [hX2]; simp
          have eX0X1X2 := own_below eX0X1 bX2
          have lX0X1X2 := Nat.lt_of_lt_of_le lX0X1 bX2.size
          have eX1X2 := own_below eX1 bX2
          have lX1X2 := Nat.lt_of_lt_of_le lX1 bX2.size
          have n21X2 : X.heap.size ≠ X1.heap.size := Nat.ne_of_lt lX0X1
          have n23X2 : X0.heap.size ≠ X1.heap.size := Nat.ne_of_lt lX1
          have HX2 : Hid (X2 = X1.alloc (.cells #[] 3)) := hX2
          clear hX2
          go_simp
          rw [← HX2.out]
          refine hK.out _ _ ?_ (fun hHeld => ?_)
          · exact gX2
          clear hK K
          try simp only [Act.put, List.setIfInBounds_toArray, List.set_cons_zero, List.set_cons_succ]
          refine wpAnyH_ready (rs := [3]) (by kernel_rfl) (by simp) ?_
          refine (AllReadyH.cons (o := { dst := some 6, op := Op.call { callee := Callee.builtin Builtin.append, args := #[Operand.tmp 3, Operand.tmp 5], argTypes := #[22, 22] }, type := 22, pos := "ref.go:179", after := #[{ on := 0, ground := Ground.data }, { on := 2, ground := Ground.data }], guard := none }) rfl (fun K hK => ?_) AllReadyH.nil)
          obtain ⟨rX3, pX3, X3, aX3, oX3, wX3, vX3⟩ := copyI (ca := ic) 22 eX0X1X2 HIL.out b8i (rowI_below HI.out BX2) BX2.size
          have BX3 : Below W.heap.size W X3 := below_own BX2 eX0X1X2 wX3 BX2.size
          have gX3 : W.grownBy X3 (some (N + 1)) := grown_below9 gX2 BX2 BX3
          have lX3 : rX3 < X3.heap.size := own_lt9 oX3
          have eX1X2X3 := own_kept9 eX1X2 wX3 n31X1.symm
          have lX1X2X3 := Nat.lt_of_lt_of_le lX1X2 wX3.size
          have m13X3 : X0.heap.size ≠ rX3 := by rcases vX3 with h | h <;> rw [h]; exact n31X1.symm; exact Nat.ne_of_lt lX1X2
          have eX2X3 := own_kept9 eX2 wX3 n21X2.symm
          have lX2X3 := Nat.lt_of_lt_of_le lX2 wX3.size
          have m12X3 : X1.heap.size ≠ rX3 := by rcases vX3 with h | h <;> rw [h]; exact n21X2.symm; exact Nat.ne_of_lt lX2
          refine wanted_append_run rfl _ _ 22 rfl _ _ _ _ rfl rfl aX3 ?_
          refine hK.out _ _ ?_ (fun hHeld => ?_)
          · exact gX3
          clear hK K
          try simp only [Act.put, List.setIfInBounds_toArray, List.set_cons_zero, List.set_cons_succ]
          refine wpAnyH_ready (rs := [7]) (by kernel_rfl) (by simp) ?_
          refine (AllReadyH.cons (o := { dst := some 10, op := Op.call { callee := Callee.builtin Builtin.append, args := #[Operand.tmp 7, Operand.tmp 9], argTypes := #[22, 22] }, type := 22, pos := "ref.go:179", after := #[{ on := 4, ground := Ground.data }, { on := 6, ground := Ground.data }, { on := 3, ground := Ground.chain }], guard := none }) rfl (fun K hK => ?_) AllReadyH.nil)
          obtain ⟨rX4, pX4, X4, aX4, oX4, wX4, vX4⟩ := copyI (ca := oc) 22 eX2X3 HOL.out b8o (rowI_below HO.out BX3) BX3.size
          have BX4 : Below W.heap.size W X4 := below_own BX3 eX2X3 wX4 BX3.size
          have gX4 : W.grownBy X4 (some (N + 1)) := grown_below9 gX3 BX3 BX4
          have lX4 : rX4 < X4.heap.size := own_lt9 oX4
          have eX1X2X3X4 := own_kept9 eX1X2X3 wX4 n23X2
          have lX1X2X3X4 := Nat.lt_of_lt_of_le lX1X2X3 wX4.size
          have m23X4 : X0.heap.size ≠ rX4 := by rcases vX4 with h | h <;> rw [h]; exact n23X2; exact Nat.ne_of_lt lX1X2X3
          have oX3X4 := own_kept9 oX3 wX4 m12X3.symm
          have lX3X4 := Nat.lt_of_lt_of_le lX3 wX4.size
          have m21X4 : rX3 ≠ rX4 := by rcases vX4 with h | h <;> rw [h]; exact m12X3.symm; exact Nat.ne_of_lt lX3
          refine wanted_append_run rfl _ _ 22 rfl _ _ _ _ rfl rfl aX4 ?_
          refine hK.out _ _ ?_ (fun hHeld => ?_)
          · exact gX4
          clear hK K
          try simp only [Act.put, List.setIfInBounds_toArray, List.set_cons_zero, List.set_cons_succ]
          refine wpAnyH_ready (rs := [13]) (by kernel_rfl) (by simp) ?_
          refine (AllReadyH.cons (o := { dst := some 16, op := Op.call { callee := Callee.builtin Builtin.append, args := #[Operand.tmp 13, Operand.tmp 15], argTypes := #[23, 23] }, type := 23, pos := "ref.go:179", after := #[{ on := 10, ground := Ground.data }, { on := 12, ground := Ground.data }, { on := 7, ground := Ground.chain }], guard := none }) rfl (fun K hK => ?_) AllReadyH.nil)
          obtain ⟨rX5, pX5, X5, aX5, oX5, wX5, vX5⟩ := copyT (ca := sc) 23 eX1X2X3X4 HSL.out b32 (stpW_below HS.out BX4) BX4.size
          have BX5 : Below W.heap.size W X5 := below_own BX4 eX1X2X3X4 wX5 BX4.size
          have gX5 : W.grownBy X5 (some (N + 1)) := grown_below9 gX4 BX4 BX5
          have lX5 : rX5 < X5.heap.size := own_lt9 oX5
          have oX3X4X5 := own_kept9 oX3X4 wX5 m13X3.symm
          have lX3X4X5 := Nat.lt_of_lt_of_le lX3X4 wX5.size
          have m31X5 : rX3 ≠ rX5 := by rcases vX5 with h | h <;> rw [h]; exact m13X3.symm; exact Nat.ne_of_lt lX3X4
          have oX4X5 := own_kept9 oX4 wX5 m23X4.symm
          have lX4X5 := Nat.lt_of_lt_of_le lX4 wX5.size
          have m32X5 : rX4 ≠ rX5 := by rcases vX5 with h | h <;> rw [h]; exact m23X4.symm; exact Nat.ne_of_lt lX4
          refine wanted_append_run rfl _ _ 23 rfl _ _ _ _ rfl rfl aX5 ?_
          refine hK.out _ _ ?_ (fun hHeld => ?_)
          · exact gX5
          clear hK K
          try simp only [Act.put, List.setIfInBounds_toArray, List.set_cons_zero, List.set_cons_succ]
          refine wpAnyH_take (i := 14) (oi := { dst := some 17, op := Op.build 25 #[(0, Operand.tmp 6), (1, Operand.tmp 10), (2, Operand.tmp 12), (3, Operand.tmp 16)], type := 25, pos := "ref.go:179", after := #[{ on := 3, ground := Ground.data }, { on := 7, ground := Ground.data }, { on := 9, ground := Ground.data }, { on := 13, ground := Ground.data }], guard := none }) (v := ?_) rfl (by kernel_rfl) (by kernel_rfl) (by kernel_rfl) (fun _ _ _ h => h) (Or.inl ⟨by rfl, ?_⟩) hHeld ?_
          rotate_left
          · intro u hSw
            go_simp
            try with_reducible rfl
          try simp only [Act.put, List.setIfInBounds_toArray, List.set_cons_zero, List.set_cons_succ]
          refine wpAnyH_ready (rs := [15]) (by kernel_rfl) (by simp) ?_
          refine (AllReadyH.cons (o := { dst := none, op := Op.store 25 (Operand.tmp 2) (Operand.tmp 17), type := 0, pos := "ref.go:179", after := #[{ on := 14, ground := Ground.data }, { on := 13, ground := Ground.chain }, { on := 0, ground := Ground.phase }, { on := 1, ground := Ground.phase }, { on := 2, ground := Ground.phase }, { on := 3, ground := Ground.phase }, { on := 4, ground := Ground.phase }, { on := 5, ground := Ground.phase }, { on := 6, ground := Ground.phase }, { on := 7, ground := Ground.phase }, { on := 8, ground := Ground.phase }, { on := 9, ground := Ground.phase }, { on := 10, ground := Ground.phase }, { on := 11, ground := Ground.phase }, { on := 12, ground := Ground.phase }, { on := 13, ground := Ground.phase }, { on := 14, ground := Ground.phase }], guard := none }) rfl (fun K hK => ?_) AllReadyH.nil)
          have hk3 := heap_later HRES.out BX5
          have d0 := cellAt hk3 0 _ rfl
          have d1 := cellAt hk3 1 _ rfl
          have d2 := cellAt hk3 2 _ rfl
          have d3 := cellAt hk3 3 _ rfl
          have e0 : X5.frozen? ⟨N + 1, 0, none⟩ = false := frozen_of_row _ _ _ _ _ hk3
          have e1 : X5.frozen? ⟨N + 1, 1, none⟩ = false := frozen_of_row _ _ _ _ _ hk3
          have e2 : X5.frozen? ⟨N + 1, 2, none⟩ = false := frozen_of_row _ _ _ _ _ hk3
          have e3 : X5.frozen? ⟨N + 1, 3, none⟩ = false := frozen_of_row _ _ _ _ _ hk3
          go_simp
          refine hK.out _ _ ?_ (fun hHeld => ?_)
          · exact grownBy_setCell (grownBy_setCell (grownBy_setCell (grownBy_setCell gX5 _) _) _) _
          clear hK K
          try simp only [Act.put, List.setIfInBounds_toArray, List.set_cons_zero, List.set_cons_succ]
          refine wpAnyH_done (by kernel_rfl) ?_ _
          refine NoPanic.normal ?_
          obtain ⟨Z, hZ⟩ : ∃ Z, Z = ((((X5.setCell ⟨N + 1, 0, none⟩ (.slice (some ⟨rX3, 0, none⟩) il pX3)).setCell ⟨N + 1, 1, none⟩ (.slice (some ⟨rX4, 0, none⟩) ol pX4)).setCell ⟨N + 1, 2, none⟩ (.int .i64 rg)).setCell ⟨N + 1, 3, none⟩ (.slice (some ⟨rX5, 0, none⟩) sl pX5)) := ⟨_, rfl⟩
          have hfin := copy_end9 hz hk3 BX5 oX3X4X5 oX4X5 oX5 hZ
          rw [← hZ]
          go_wp2
          go_meet
          exact ⟨_, _, _, _, _, _, hfin⟩
    · obtain ⟨X0, hX0⟩ : ∃ Z9 : World, Z9 = X.alloc (.cells #[] 3) := ⟨_, rfl⟩
      have bX0 : Below X.heap.size X X0 := by rw [hX0]; exact (Below.refl _ _).alloc (Nat.le_refl _) _
      have BX0 : Below W.heap.size W X0 := BX.trans (bX0.mono BX.size)
      have gX0 : W.grownBy X0 (some (N + 1)) := grown_below GX bX0
      have eX0 : X0.ownsRow W.heap.size 3 1 (.slice (some ⟨X.heap.size, 0, none⟩) 0 0) 0 [] := own_empty (by rw [hX0]; exact heap_alloc_last _ _) BX.size
      have lX0 : X.heap.size < X0.heap.size := by rw [hX0]; simp
      have HX0 : Hid (X0 = X.alloc (.cells #[] 3)) := hX0
      clear hX0
      go_simp
      rw [← HX0.out]
      refine hK.out _ _ ?_ (fun hHeld => ?_)
      · exact gX0
      clear hK K
      try simp only [Act.put, List.setIfInBounds_toArray, List.set_cons_zero, List.set_cons_succ]
      refine wpAnyH_ready (rs := [0, 10]) (by kernel_rfl) (by simp) ?_
      refine (AllReadyH.cons (o := { dst := some 3, op := Op.buildSlice 22 0 #[], type := 22, pos := "ref.go:179", after := #[], guard := none }) rfl (fun K hK => ?_) (AllReadyH.cons (o := { dst := some 13, op := Op.buildSlice 23 0 #[], type := 23, pos := "ref.go:179", after := #[], guard := none }) rfl (fun K hK => ?_) AllReadyH.nil))
      · obtain ⟨X1, hX1⟩ : ∃ Z9 : World, Z9 = X0.alloc (.cells #[] 3) := ⟨_, rfl⟩
        have bX1 : Below X0.heap.size X0 X1 := by rw [hX1]; exact (Below.refl _ _).alloc (Nat.le_refl _) _
        have BX1 : Below W.heap.size W X1 := BX0.trans (bX1.mono BX0.size)
        have gX1 : W.grownBy X1 (some (N + 1)) := grown_below gX0 bX1
        have eX1 : X1.ownsRow W.heap.size 3 1 (.slice (some ⟨X0.heap.size, 0, none⟩) 0 0) 0 [] := own_empty (by rw [hX1]; exact heap_alloc_last _ _) BX0.size
        have lX1 : X0.heap.size < X1.heap.size := by rw [hX1]; simp
        have eX0X1 := own_below eX0 bX1
        have lX0X1 := Nat.lt_of_lt_of_le lX0 bX1.size
        have n12X1 : X.heap.size ≠ X0.heap.size := Nat.ne_of_lt lX0
        have HX1 : Hid (X1 = X0.alloc (.cells #[] 3)) := hX1
        clear hX1
        go_simp
        rw [← HX1.out]
        refine hK.out _ _ ?_ (fun hHeld => ?_)
        · exact gX1
        clear hK K
        try simp only [Act.put, List.setIfInBounds_toArray, List.set_cons_zero, List.set_cons_succ]
        refine wpAnyH_ready (rs := [3, 10]) (by kernel_rfl) (by simp) ?_
        refine (AllReadyH.cons (o := { dst := some 6, op := Op.call { callee := Callee.builtin Builtin.append, args := #[Operand.tmp 3, Operand.tmp 5], argTypes := #[22, 22] }, type := 22, pos := "ref.go:179", after := #[{ on := 0, ground := Ground.data }, { on := 2, ground := Ground.data }], guard := none }) rfl (fun K hK => ?_) (AllReadyH.cons (o := { dst := some 13, op := Op.buildSlice 23 0 #[], type := 23, pos := "ref.go:179", after := #[], guard := none }) rfl (fun K hK => ?_) AllReadyH.nil))
        · obtain ⟨rX2, pX2, X2, aX2, oX2, wX2, vX2⟩ := copyI (ca := ic) 22 eX1 HIL.out b8i (rowI_below HI.out BX1) BX1.size
          have BX2 : Below W.heap.size W X2 := below_own BX1 eX1 wX2 BX1.size
          have gX2 : W.grownBy X2 (some (N + 1)) := grown_below9 gX1 BX1 BX2
          have lX2 : rX2 < X2.heap.size := own_lt9 oX2
          have eX0X1X2 := own_kept9 eX0X1 wX2 n12X1
          have lX0X1X2 := Nat.lt_of_lt_of_le lX0X1 wX2.size
          have m12X2 : X.heap.size ≠ rX2 := by rcases vX2 with h | h <;> rw [h]; exact n12X1; exact Nat.ne_of_lt lX0X1
          refine wanted_append_run rfl _ _ 22 rfl _ _ _ _ rfl rfl aX2 ?_
          refine hK.out _ _ ?_ (fun hHeld => ?_)
          · exact gX2
          clear hK K
          try simp only [Act.put, List.setIfInBounds_toArray, List.set_cons_zero, List.set_cons_succ]
          refine wpAnyH_ready (rs := [7, 10]) (by kernel_rfl) (by simp) ?_
          refine (AllReadyH.cons (o := { dst := some 10, op := Op.call { callee := Callee.builtin Builtin.append, args := #[Operand.tmp 7, Operand.tmp 9], argTypes := #[22, 22] }, type := 22, pos := "ref.go:179", after := #[{ on := 4, ground := Ground.data }, { on := 6, ground := Ground.data }, { on := 3, ground := Ground.chain }], guard := none }) rfl (fun K hK => ?_) (AllReadyH.cons (o := { dst := some 13, op := Op.buildSlice 23 0 #[], type := 23, pos := "ref.go:179", after := #[], guard := none }) rfl (fun K hK => ?_) AllReadyH.nil))
          · obtain ⟨rX3, pX3, X3, aX3, oX3, wX3, vX3⟩ := copyI (ca := oc) 22 eX0X1X2 HOL.out b8o (rowI_below HO.out BX2) BX2.size
            have BX3 : Below W.heap.size W X3 := below_own BX2 eX0X1X2 wX3 BX2.size
            have gX3 : W.grownBy X3 (some (N + 1)) := grown_below9 gX2 BX2 BX3
            have lX3 : rX3 < X3.heap.size := own_lt9 oX3
            have oX2X3 := own_kept9 oX2 wX3 m12X2.symm
            have lX2X3 := Nat.lt_of_lt_of_le lX2 wX3.size
            have m21X3 : rX2 ≠ rX3 := by rcases vX3 with h | h <;> rw [h]; exact m12X2.symm; exact Nat.ne_of_lt lX2
            refine wanted_append_run rfl _ _ 22 rfl _ _ _ _ rfl rfl aX3 ?_
            refine hK.out _ _ ?_ (fun hHeld => ?_)
            · exact gX3
            clear hK K
            try simp only [Act.put, List.setIfInBounds_toArray, List.set_cons_zero, List.set_cons_succ]
            refine wpAnyH_ready (rs := [10]) (by kernel_rfl) (by simp) ?_
            refine (AllReadyH.cons (o := { dst := some 13, op := Op.buildSlice 23 0 #[], type := 23, pos := "ref.go:179", after := #[], guard := none }) rfl (fun K hK => ?_) AllReadyH.nil)
            obtain ⟨X4, hX4⟩ : ∃ Z9 : World, Z9 = X3.alloc (.cells #[] 48) := ⟨_, rfl⟩
            have bX4 : Below X3.heap.size X3 X4 := by rw [hX4]; exact (Below.refl _ _).alloc (Nat.le_refl _) _
            have BX4 : Below W.heap.size W X4 := BX3.trans (bX4.mono BX3.size)
            have gX4 : W.grownBy X4 (some (N + 1)) := grown_below gX3 bX4
            have eX4 : X4.ownsRow W.heap.size 48 4 (.slice (some ⟨X3.heap.size, 0, none⟩) 0 0) 0 [] := own_empty (by rw [hX4]; exact heap_alloc_last _ _) BX3.size
            have lX4 : X3.heap.size < X4.heap.size := by rw [hX4]; simp
            have oX2X3X4 := own_below oX2X3 bX4
            have lX2X3X4 := Nat.lt_of_lt_of_le lX2X3 bX4.size
            have oX3X4 := own_below oX3 bX4
            have lX3X4 := Nat.lt_of_lt_of_le lX3 bX4.size
            have n31X4 : rX2 ≠ X3.heap.size := Nat.ne_of_lt lX2X3
            have n32X4 : rX3 ≠ X3.heap.size := Nat.ne_of_lt lX3
            have HX4 : Hid (X4 = X3.alloc (.cells #[] 48)) := hX4
            clear hX4
            go_simp
            rw [← HX4.out]
            refine hK.out _ _ ?_ (fun hHeld => ?_)
            · exact gX4
            clear hK K
            try simp only [Act.put, List.setIfInBounds_toArray, List.set_cons_zero, List.set_cons_succ]
            refine wpAnyH_ready (rs := [13]) (by kernel_rfl) (by simp) ?_
            refine (AllReadyH.cons (o := { dst := some 16, op := Op.call { callee := Callee.builtin Builtin.append, args := #[Operand.tmp 13, Operand.tmp 15], argTypes := #[23, 23] }, type := 23, pos := "ref.go:179", after := #[{ on := 10, ground := Ground.data }, { on := 12, ground := Ground.data }, { on := 7, ground := Ground.chain }], guard := none }) rfl (fun K hK => ?_) AllReadyH.nil)
            obtain ⟨rX5, pX5, X5, aX5, oX5, wX5, vX5⟩ := copyT (ca := sc) 23 eX4 HSL.out b32 (stpW_below HS.out BX4) BX4.size
            have BX5 : Below W.heap.size W X5 := below_own BX4 eX4 wX5 BX4.size
            have gX5 : W.grownBy X5 (some (N + 1)) := grown_below9 gX4 BX4 BX5
            have lX5 : rX5 < X5.heap.size := own_lt9 oX5
            have oX2X3X4X5 := own_kept9 oX2X3X4 wX5 n31X4
            have lX2X3X4X5 := Nat.lt_of_lt_of_le lX2X3X4 wX5.size
            have m31X5 : rX2 ≠ rX5 := by rcases vX5 with h | h <;> rw [h]; exact n31X4; exact Nat.ne_of_lt lX2X3X4
            have oX3X4X5 := own_kept9 oX3X4 wX5 n32X4
            have lX3X4X5 := Nat.lt_of_lt_of_le lX3X4 wX5.size
            have m32X5 : rX3 ≠ rX5 := by rcases vX5 with h | h <;> rw [h]; exact n32X4; exact Nat.ne_of_lt lX3X4
            refine wanted_append_run rfl _ _ 23 rfl _ _ _ _ rfl rfl aX5 ?_
            refine hK.out _ _ ?_ (fun hHeld => ?_)
            · exact gX5
            clear hK K
            try simp only [Act.put, List.setIfInBounds_toArray, List.set_cons_zero, List.set_cons_succ]
            refine wpAnyH_take (i := 14) (oi := { dst := some 17, op := Op.build 25 #[(0, Operand.tmp 6), (1, Operand.tmp 10), (2, Operand.tmp 12), (3, Operand.tmp 16)], type := 25, pos := "ref.go:179", after := #[{ on := 3, ground := Ground.data }, { on := 7, ground := Ground.data }, { on := 9, ground := Ground.data }, { on := 13, ground := Ground.data }], guard := none }) (v := ?_) rfl (by kernel_rfl) (by kernel_rfl) (by kernel_rfl) (fun _ _ _ h => h) (Or.inl ⟨by rfl, ?_⟩) hHeld ?_
            rotate_left
            · intro u hSw
              go_simp
              try with_reducible rfl
            try simp only [Act.put, List.setIfInBounds_toArray, List.set_cons_zero, List.set_cons_succ]
            refine wpAnyH_ready (rs := [15]) (by kernel_rfl) (by simp) ?_
            refine (AllReadyH.cons (o := { dst := none, op := Op.store 25 (Operand.tmp 2) (Operand.tmp 17), type := 0, pos := "ref.go:179", after := #[{ on := 14, ground := Ground.data }, { on := 13, ground := Ground.chain }, { on := 0, ground := Ground.phase }, { on := 1, ground := Ground.phase }, { on := 2, ground := Ground.phase }, { on := 3, ground := Ground.phase }, { on := 4, ground := Ground.phase }, { on := 5, ground := Ground.phase }, { on := 6, ground := Ground.phase }, { on := 7, ground := Ground.phase }, { on := 8, ground := Ground.phase }, { on := 9, ground := Ground.phase }, { on := 10, ground := Ground.phase }, { on := 11, ground := Ground.phase }, { on := 12, ground := Ground.phase }, { on := 13, ground := Ground.phase }, { on := 14, ground := Ground.phase }], guard := none }) rfl (fun K hK => ?_) AllReadyH.nil)
            have hk3 := heap_later HRES.out BX5
            have d0 := cellAt hk3 0 _ rfl
            have d1 := cellAt hk3 1 _ rfl
            have d2 := cellAt hk3 2 _ rfl
            have d3 := cellAt hk3 3 _ rfl
            have e0 : X5.frozen? ⟨N + 1, 0, none⟩ = false := frozen_of_row _ _ _ _ _ hk3
            have e1 : X5.frozen? ⟨N + 1, 1, none⟩ = false := frozen_of_row _ _ _ _ _ hk3
            have e2 : X5.frozen? ⟨N + 1, 2, none⟩ = false := frozen_of_row _ _ _ _ _ hk3
            have e3 : X5.frozen? ⟨N + 1, 3, none⟩ = false := frozen_of_row _ _ _ _ _ hk3
            go_simp
            refine hK.out _ _ ?_ (fun hHeld => ?_)
            · exact grownBy_setCell (grownBy_setCell (grownBy_setCell (grownBy_setCell gX5 _) _) _) _
            clear hK K
            try simp only [Act.put, List.setIfInBounds_toArray, List.set_cons_zero, List.set_cons_succ]
            refine wpAnyH_done (by kernel_rfl) ?_ _
            refine NoPanic.normal ?_
            obtain ⟨Z, hZ⟩ : ∃ Z, Z = ((((X5.setCell ⟨N + 1, 0, none⟩ (.slice (some ⟨rX2, 0, none⟩) il pX2)).setCell ⟨N + 1, 1, none⟩ (.slice (some ⟨rX3, 0, none⟩) ol pX3)).setCell ⟨N + 1, 2, none⟩ (.int .i64 rg)).setCell ⟨N + 1, 3, none⟩ (.slice (some ⟨rX5, 0, none⟩) sl pX5)) := ⟨_, rfl⟩
            have hfin := copy_end9 hz hk3 BX5 oX2X3X4X5 oX3X4X5 oX5 hZ
            rw [← hZ]
            go_wp2
            go_meet
            exact ⟨_, _, _, _, _, _, hfin⟩
          · obtain ⟨X3, hX3⟩ : ∃ Z9 : World, Z9 = X2.alloc (.cells #[] 48) := ⟨_, rfl⟩
            have bX3 : Below X2.heap.size X2 X3 := by rw [hX3]; exact (Below.refl _ _).alloc (Nat.le_refl _) _
            have BX3 : Below W.heap.size W X3 := BX2.trans (bX3.mono BX2.size)
            have gX3 : W.grownBy X3 (some (N + 1)) := grown_below gX2 bX3
            have eX3 : X3.ownsRow W.heap.size 48 4 (.slice (some ⟨X2.heap.size, 0, none⟩) 0 0) 0 [] := own_empty (by rw [hX3]; exact heap_alloc_last _ _) BX2.size
            have lX3 : X2.heap.size < X3.heap.size := by rw [hX3]; simp
            have eX0X1X2X3 := own_below eX0X1X2 bX3
            have lX0X1X2X3 := Nat.lt_of_lt_of_le lX0X1X2 bX3.size
            have oX2X3 := own_below oX2 bX3
            have lX2X3 := Nat.lt_of_lt_of_le lX2 bX3.size
            have n32X3 : X.heap.size ≠ X2.heap.size := Nat.ne_of_lt lX0X1X2
            have n31X3 : rX2 ≠ X2.heap.size := Nat.ne_of_lt lX2
            have HX3 : Hid (X3 = X2.alloc (.cells #[] 48)) := hX3
            clear hX3
            go_simp
            rw [← HX3.out]
            refine hK.out _ _ ?_ (fun hHeld => ?_)
            · exact gX3
            clear hK K
            try simp only [Act.put, List.setIfInBounds_toArray, List.set_cons_zero, List.set_cons_succ]
            refine wpAnyH_ready (rs := [7]) (by kernel_rfl) (by simp) ?_
            refine (AllReadyH.cons (o := { dst := some 10, op := Op.call { callee := Callee.builtin Builtin.append, args := #[Operand.tmp 7, Operand.tmp 9], argTypes := #[22, 22] }, type := 22, pos := "ref.go:179", after := #[{ on := 4, ground := Ground.data }, { on := 6, ground := Ground.data }, { on := 3, ground := Ground.chain }], guard := none }) rfl (fun K hK => ?_) AllReadyH.nil)
            obtain ⟨rX4, pX4, X4, aX4, oX4, wX4, vX4⟩ := copyI (ca := oc) 22 eX0X1X2X3 HOL.out b8o (rowI_below HO.out BX3) BX3.size
            have BX4 : Below W.heap.size W X4 := below_own BX3 eX0X1X2X3 wX4 BX3.size
            have gX4 : W.grownBy X4 (some (N + 1)) := grown_below9 gX3 BX3 BX4
            have lX4 : rX4 < X4.heap.size := own_lt9 oX4
            have oX2X3X4 := own_kept9 oX2X3 wX4 m12X2.symm
            have lX2X3X4 := Nat.lt_of_lt_of_le lX2X3 wX4.size
            have m21X4 : rX2 ≠ rX4 := by rcases vX4 with h | h <;> rw [h]; exact m12X2.symm; exact Nat.ne_of_lt lX2X3
            have eX3X4 := own_kept9 eX3 wX4 n32X3.symm
            have lX3X4 := Nat.lt_of_lt_of_le lX3 wX4.size
            have m23X4 : X2.heap.size ≠ rX4 := by rcases vX4 with h | h <;> rw [h]; exact n32X3.symm; exact Nat.ne_of_lt lX3
            refine wanted_append_run rfl _ _ 22 rfl _ _ _ _ rfl rfl aX4 ?_
            refine hK.out _ _ ?_ (fun hHeld => ?_)
            · exact gX4
            clear hK K
            try simp only [Act.put, List.setIfInBounds_toArray, List.set_cons_zero, List.set_cons_succ]
            refine wpAnyH_ready (rs := [13]) (by kernel_rfl) (by simp) ?_
            refine (AllReadyH.cons (o := { dst := some 16, op := Op.call { callee := Callee.builtin Builtin.append, args := #[Operand.tmp 13, Operand.tmp 15], argTypes := #[23, 23] }, type := 23, pos := "ref.go:179", after := #[{ on := 10, ground := Ground.data }, { on := 12, ground := Ground.data }, { on := 7, ground := Ground.chain }], guard := none }) rfl (fun K hK => ?_) AllReadyH.nil)
            obtain ⟨rX5, pX5, X5, aX5, oX5, wX5, vX5⟩ := copyT (ca := sc) 23 eX3X4 HSL.out b32 (stpW_below HS.out BX4) BX4.size
            have BX5 : Below W.heap.size W X5 := below_own BX4 eX3X4 wX5 BX4.size
            have gX5 : W.grownBy X5 (some (N + 1)) := grown_below9 gX4 BX4 BX5
            have lX5 : rX5 < X5.heap.size := own_lt9 oX5
            have oX2X3X4X5 := own_kept9 oX2X3X4 wX5 n31X3
            have lX2X3X4X5 := Nat.lt_of_lt_of_le lX2X3X4 wX5.size
            have m31X5 : rX2 ≠ rX5 := by rcases vX5 with h | h <;> rw [h]; exact n31X3; exact Nat.ne_of_lt lX2X3X4
            have oX4X5 := own_kept9 oX4 wX5 m23X4.symm
            have lX4X5 := Nat.lt_of_lt_of_le lX4 wX5.size
            have m32X5 : rX4 ≠ rX5 := by rcases vX5 with h | h <;> rw [h]; exact m23X4.symm; exact Nat.ne_of_lt lX4
            refine wanted_append_run rfl _ _ 23 rfl _ _ _ _ rfl rfl aX5 ?_
            refine hK.out _ _ ?_ (fun hHeld => ?_)
            · exact gX5
            clear hK K
            try simp only [Act.put, List.setIfInBounds_toArray, List.set_cons_zero, List.set_cons_succ]
            refine wpAnyH_take (i := 14) (oi := { dst := some 17, op := Op.build 25 #[(0, Operand.tmp 6), (1, Operand.tmp 10), (2, Operand.tmp 12), (3, Operand.tmp 16)], type := 25, pos := "ref.go:179", after := #[{ on := 3, ground := Ground.data }, { on := 7, ground := Ground.data }, { on := 9, ground := Ground.data }, { on := 13, ground := Ground.data }], guard := none }) (v := ?_) rfl (by kernel_rfl) (by kernel_rfl) (by kernel_rfl) (fun _ _ _ h => h) (Or.inl ⟨by rfl, ?_⟩) hHeld ?_
            rotate_left
            · intro u hSw
              go_simp
              try with_reducible rfl
            try simp only [Act.put, List.setIfInBounds_toArray, List.set_cons_zero, List.set_cons_succ]
            refine wpAnyH_ready (rs := [15]) (by kernel_rfl) (by simp) ?_
            refine (AllReadyH.cons (o := { dst := none, op := Op.store 25 (Operand.tmp 2) (Operand.tmp 17), type := 0, pos := "ref.go:179", after := #[{ on := 14, ground := Ground.data }, { on := 13, ground := Ground.chain }, { on := 0, ground := Ground.phase }, { on := 1, ground := Ground.phase }, { on := 2, ground := Ground.phase }, { on := 3, ground := Ground.phase }, { on := 4, ground := Ground.phase }, { on := 5, ground := Ground.phase }, { on := 6, ground := Ground.phase }, { on := 7, ground := Ground.phase }, { on := 8, ground := Ground.phase }, { on := 9, ground := Ground.phase }, { on := 10, ground := Ground.phase }, { on := 11, ground := Ground.phase }, { on := 12, ground := Ground.phase }, { on := 13, ground := Ground.phase }, { on := 14, ground := Ground.phase }], guard := none }) rfl (fun K hK => ?_) AllReadyH.nil)
            have hk3 := heap_later HRES.out BX5
            have d0 := cellAt hk3 0 _ rfl
            have d1 := cellAt hk3 1 _ rfl
            have d2 := cellAt hk3 2 _ rfl
            have d3 := cellAt hk3 3 _ rfl
            have e0 : X5.frozen? ⟨N + 1, 0, none⟩ = false := frozen_of_row _ _ _ _ _ hk3
            have e1 : X5.frozen? ⟨N + 1, 1, none⟩ = false := frozen_of_row _ _ _ _ _ hk3
            have e2 : X5.frozen? ⟨N + 1, 2, none⟩ = false := frozen_of_row _ _ _ _ _ hk3
            have e3 : X5.frozen? ⟨N + 1, 3, none⟩ = false := frozen_of_row _ _ _ _ _ hk3
            go_simp
            refine hK.out _ _ ?_ (fun hHeld => ?_)
            · exact grownBy_setCell (grownBy_setCell (grownBy_setCell (grownBy_setCell gX5 _) _) _) _
            clear hK K
            try simp only [Act.put, List.setIfInBounds_toArray, List.set_cons_zero, List.set_cons_succ]
            refine wpAnyH_done (by kernel_rfl) ?_ _
            refine NoPanic.normal ?_
            obtain ⟨Z, hZ⟩ : ∃ Z, Z = ((((X5.setCell ⟨N + 1, 0, none⟩ (.slice (some ⟨rX2, 0, none⟩) il pX2)).setCell ⟨N + 1, 1, none⟩ (.slice (some ⟨rX4, 0, none⟩) ol pX4)).setCell ⟨N + 1, 2, none⟩ (.int .i64 rg)).setCell ⟨N + 1, 3, none⟩ (.slice (some ⟨rX5, 0, none⟩) sl pX5)) := ⟨_, rfl⟩
            have hfin := copy_end9 hz hk3 BX5 oX2X3X4X5 oX4X5 oX5 hZ
            rw [← hZ]
            go_wp2
            go_meet
            exact ⟨_, _, _, _, _, _, hfin⟩
        · obtain ⟨X2, hX2⟩ : ∃ Z9 : World, Z9 = X1.alloc (.cells #[] 48) := ⟨_, rfl⟩
          have bX2 : Below X1.heap.size X1 X2 := by rw [hX2]; exact (Below.refl _ _).alloc (Nat.le_refl _) _
          have BX2 : Below W.heap.size W X2 := BX1.trans (bX2.mono BX1.size)
          have gX2 : W.grownBy X2 (some (N + 1)) := grown_below gX1 bX2
          have eX2 : X2.ownsRow W.heap.size 48 4 (.slice (some ⟨X1.heap.size, 0, none⟩) 0 0) 0 [] := own_empty (by rw [hX2]; exact heap_alloc_last _ _) BX1.size
          have lX2 : X1.heap.size < X2.heap.size := by rw [hX2]; simp
          have eX0X1X2 := own_below eX0X1 bX2
          have lX0X1X2 := Nat.lt_of_lt_of_le lX0X1 bX2.size
          have eX1X2 := own_below eX1 bX2
          have lX1X2 := Nat.lt_of_lt_of_le lX1 bX2.size
          have n32X2 : X.heap.size ≠ X1.heap.size := Nat.ne_of_lt lX0X1
          have n31X2 : X0.heap.size ≠ X1.heap.size := Nat.ne_of_lt lX1
          have HX2 : Hid (X2 = X1.alloc (.cells #[] 48)) := hX2
          clear hX2
          go_simp
          rw [← HX2.out]
          refine hK.out _ _ ?_ (fun hHeld => ?_)
          · exact gX2
          clear hK K
          try simp only [Act.put, List.setIfInBounds_toArray, List.set_cons_zero, List.set_cons_succ]
          refine wpAnyH_ready (rs := [3]) (by kernel_rfl) (by simp) ?_
          refine (AllReadyH.cons (o := { dst := some 6, op := Op.call { callee := Callee.builtin Builtin.append, args := #[Operand.tmp 3, Operand.tmp 5], argTypes := #[22, 22] }, type := 22, pos := "ref.go:179", after := #[{ on := 0, ground := Ground.data }, { on := 2, ground := Ground.data }], guard := none }) rfl (fun K hK => ?_) AllReadyH.nil)
          obtain ⟨rX3, pX3, X3, aX3, oX3, wX3, vX3⟩ := copyI (ca := ic) 22 eX1X2 HIL.out b8i (rowI_below HI.out BX2) BX2.size
          have BX3 : Below W.heap.size W X3 := below_own BX2 eX1X2 wX3 BX2.size
          have gX3 : W.grownBy X3 (some (N + 1)) := grown_below9 gX2 BX2 BX3
          have lX3 : rX3 < X3.heap.size := own_lt9 oX3
          have eX0X1X2X3 := own_kept9 eX0X1X2 wX3 n12X1
          have lX0X1X2X3 := Nat.lt_of_lt_of_le lX0X1X2 wX3.size
          have m12X3 : X.heap.size ≠ rX3 := by rcases vX3 with h | h <;> rw [h]; exact n12X1; exact Nat.ne_of_lt lX0X1X2
          have eX2X3 := own_kept9 eX2 wX3 n31X2.symm
          have lX2X3 := Nat.lt_of_lt_of_le lX2 wX3.size
          have m13X3 : X1.heap.size ≠ rX3 := by rcases vX3 with h | h <;> rw [h]; exact n31X2.symm; exact Nat.ne_of_lt lX2
          refine wanted_append_run rfl _ _ 22 rfl _ _ _ _ rfl rfl aX3 ?_
          refine hK.out _ _ ?_ (fun hHeld => ?_)
          · exact gX3
          clear hK K
          try simp only [Act.put, List.setIfInBounds_toArray, List.set_cons_zero, List.set_cons_succ]
          refine wpAnyH_ready (rs := [7]) (by kernel_rfl) (by simp) ?_
          refine (AllReadyH.cons (o := { dst := some 10, op := Op.call { callee := Callee.builtin Builtin.append, args := #[Operand.tmp 7, Operand.tmp 9], argTypes := #[22, 22] }, type := 22, pos := "ref.go:179", after := #[{ on := 4, ground := Ground.data }, { on := 6, ground := Ground.data }, { on := 3, ground := Ground.chain }], guard := none }) rfl (fun K hK => ?_) AllReadyH.nil)
          obtain ⟨rX4, pX4, X4, aX4, oX4, wX4, vX4⟩ := copyI (ca := oc) 22 eX0X1X2X3 HOL.out b8o (rowI_below HO.out BX3) BX3.size
          have BX4 : Below W.heap.size W X4 := below_own BX3 eX0X1X2X3 wX4 BX3.size
          have gX4 : W.grownBy X4 (some (N + 1)) := grown_below9 gX3 BX3 BX4
          have lX4 : rX4 < X4.heap.size := own_lt9 oX4
          have eX2X3X4 := own_kept9 eX2X3 wX4 n32X2.symm
          have lX2X3X4 := Nat.lt_of_lt_of_le lX2X3 wX4.size
          have m23X4 : X1.heap.size ≠ rX4 := by rcases vX4 with h | h <;> rw [h]; exact n32X2.symm; exact Nat.ne_of_lt lX2X3
          have oX3X4 := own_kept9 oX3 wX4 m12X3.symm
          have lX3X4 := Nat.lt_of_lt_of_le lX3 wX4.size
          have m21X4 : rX3 ≠ rX4 := by rcases vX4 with h | h <;> rw [h]; exact m12X3.symm; exact Nat.ne_of_lt lX3
          refine wanted_append_run rfl _ _ 22 rfl _ _ _ _ rfl rfl aX4 ?_
          refine hK.out _ _ ?_ (fun hHeld => ?_)
          · exact gX4
          clear hK K
          try simp only [Act.put, List.setIfInBounds_toArray, List.set_cons_zero, List.set_cons_succ]
          refine wpAnyH_ready (rs := [13]) (by kernel_rfl) (by simp) ?_
          refine (AllReadyH.cons (o := { dst := some 16, op := Op.call { callee := Callee.builtin Builtin.append, args := #[Operand.tmp 13, Operand.tmp 15], argTypes := #[23, 23] }, type := 23, pos := "ref.go:179", after := #[{ on := 10, ground := Ground.data }, { on := 12, ground := Ground.data }, { on := 7, ground := Ground.chain }], guard := none }) rfl (fun K hK => ?_) AllReadyH.nil)
          obtain ⟨rX5, pX5, X5, aX5, oX5, wX5, vX5⟩ := copyT (ca := sc) 23 eX2X3X4 HSL.out b32 (stpW_below HS.out BX4) BX4.size
          have BX5 : Below W.heap.size W X5 := below_own BX4 eX2X3X4 wX5 BX4.size
          have gX5 : W.grownBy X5 (some (N + 1)) := grown_below9 gX4 BX4 BX5
          have lX5 : rX5 < X5.heap.size := own_lt9 oX5
          have oX3X4X5 := own_kept9 oX3X4 wX5 m13X3.symm
          have lX3X4X5 := Nat.lt_of_lt_of_le lX3X4 wX5.size
          have m31X5 : rX3 ≠ rX5 := by rcases vX5 with h | h <;> rw [h]; exact m13X3.symm; exact Nat.ne_of_lt lX3X4
          have oX4X5 := own_kept9 oX4 wX5 m23X4.symm
          have lX4X5 := Nat.lt_of_lt_of_le lX4 wX5.size
          have m32X5 : rX4 ≠ rX5 := by rcases vX5 with h | h <;> rw [h]; exact m23X4.symm; exact Nat.ne_of_lt lX4
          refine wanted_append_run rfl _ _ 23 rfl _ _ _ _ rfl rfl aX5 ?_
          refine hK.out _ _ ?_ (fun hHeld => ?_)
          · exact gX5
          clear hK K
          try simp only [Act.put, List.setIfInBounds_toArray, List.set_cons_zero, List.set_cons_succ]
          refine wpAnyH_take (i := 14) (oi := { dst := some 17, op := Op.build 25 #[(0, Operand.tmp 6), (1, Operand.tmp 10), (2, Operand.tmp 12), (3, Operand.tmp 16)], type := 25, pos := "ref.go:179", after := #[{ on := 3, ground := Ground.data }, { on := 7, ground := Ground.data }, { on := 9, ground := Ground.data }, { on := 13, ground := Ground.data }], guard := none }) (v := ?_) rfl (by kernel_rfl) (by kernel_rfl) (by kernel_rfl) (fun _ _ _ h => h) (Or.inl ⟨by rfl, ?_⟩) hHeld ?_
          rotate_left
          · intro u hSw
            go_simp
            try with_reducible rfl
          try simp only [Act.put, List.setIfInBounds_toArray, List.set_cons_zero, List.set_cons_succ]
          refine wpAnyH_ready (rs := [15]) (by kernel_rfl) (by simp) ?_
          refine (AllReadyH.cons (o := { dst := none, op := Op.store 25 (Operand.tmp 2) (Operand.tmp 17), type := 0, pos := "ref.go:179", after := #[{ on := 14, ground := Ground.data }, { on := 13, ground := Ground.chain }, { on := 0, ground := Ground.phase }, { on := 1, ground := Ground.phase }, { on := 2, ground := Ground.phase }, { on := 3, ground := Ground.phase }, { on := 4, ground := Ground.phase }, { on := 5, ground := Ground.phase }, { on := 6, ground := Ground.phase }, { on := 7, ground := Ground.phase }, { on := 8, ground := Ground.phase }, { on := 9, ground := Ground.phase }, { on := 10, ground := Ground.phase }, { on := 11, ground := Ground.phase }, { on := 12, ground := Ground.phase }, { on := 13, ground := Ground.phase }, { on := 14, ground := Ground.phase }], guard := none }) rfl (fun K hK => ?_) AllReadyH.nil)
          have hk3 := heap_later HRES.out BX5
          have d0 := cellAt hk3 0 _ rfl
          have d1 := cellAt hk3 1 _ rfl
          have d2 := cellAt hk3 2 _ rfl
          have d3 := cellAt hk3 3 _ rfl
          have e0 : X5.frozen? ⟨N + 1, 0, none⟩ = false := frozen_of_row _ _ _ _ _ hk3
          have e1 : X5.frozen? ⟨N + 1, 1, none⟩ = false := frozen_of_row _ _ _ _ _ hk3
          have e2 : X5.frozen? ⟨N + 1, 2, none⟩ = false := frozen_of_row _ _ _ _ _ hk3
          have e3 : X5.frozen? ⟨N + 1, 3, none⟩ = false := frozen_of_row _ _ _ _ _ hk3
          go_simp
          refine hK.out _ _ ?_ (fun hHeld => ?_)
          · exact grownBy_setCell (grownBy_setCell (grownBy_setCell (grownBy_setCell gX5 _) _) _) _
          clear hK K
          try simp only [Act.put, List.setIfInBounds_toArray, List.set_cons_zero, List.set_cons_succ]
          refine wpAnyH_done (by kernel_rfl) ?_ _
          refine NoPanic.normal ?_
          obtain ⟨Z, hZ⟩ : ∃ Z, Z = ((((X5.setCell ⟨N + 1, 0, none⟩ (.slice (some ⟨rX3, 0, none⟩) il pX3)).setCell ⟨N + 1, 1, none⟩ (.slice (some ⟨rX4, 0, none⟩) ol pX4)).setCell ⟨N + 1, 2, none⟩ (.int .i64 rg)).setCell ⟨N + 1, 3, none⟩ (.slice (some ⟨rX5, 0, none⟩) sl pX5)) := ⟨_, rfl⟩
          have hfin := copy_end9 hz hk3 BX5 oX3X4X5 oX4X5 oX5 hZ
          rw [← hZ]
          go_wp2
          go_meet
          exact ⟨_, _, _, _, _, _, hfin⟩
      · obtain ⟨X1, hX1⟩ : ∃ Z9 : World, Z9 = X0.alloc (.cells #[] 48) := ⟨_, rfl⟩
        have bX1 : Below X0.heap.size X0 X1 := by rw [hX1]; exact (Below.refl _ _).alloc (Nat.le_refl _) _
        have BX1 : Below W.heap.size W X1 := BX0.trans (bX1.mono BX0.size)
        have gX1 : W.grownBy X1 (some (N + 1)) := grown_below gX0 bX1
        have eX1 : X1.ownsRow W.heap.size 48 4 (.slice (some ⟨X0.heap.size, 0, none⟩) 0 0) 0 [] := own_empty (by rw [hX1]; exact heap_alloc_last _ _) BX0.size
        have lX1 : X0.heap.size < X1.heap.size := by rw [hX1]; simp
        have eX0X1 := own_below eX0 bX1
        have lX0X1 := Nat.lt_of_lt_of_le lX0 bX1.size
        have n32X1 : X.heap.size ≠ X0.heap.size := Nat.ne_of_lt lX0
        have HX1 : Hid (X1 = X0.alloc (.cells #[] 48)) := hX1
        clear hX1
        go_simp
        rw [← HX1.out]
        refine hK.out _ _ ?_ (fun hHeld => ?_)
        · exact gX1
        clear hK K
        try simp only [Act.put, List.setIfInBounds_toArray, List.set_cons_zero, List.set_cons_succ]
        refine wpAnyH_ready (rs := [0]) (by kernel_rfl) (by simp) ?_
        refine (AllReadyH.cons (o := { dst := some 3, op := Op.buildSlice 22 0 #[], type := 22, pos := "ref.go:179", after := #[], guard := none }) rfl (fun K hK => ?_) AllReadyH.nil)
        obtain ⟨X2, hX2⟩ : ∃ Z9 : World, Z9 = X1.alloc (.cells #[] 3) := ⟨_, rfl⟩
        have bX2 : Below X1.heap.size X1 X2 := by rw [hX2]; exact (Below.refl _ _).alloc (Nat.le_refl _) _
        have BX2 : Below W.heap.size W X2 := BX1.trans (bX2.mono BX1.size)
        have gX2 : W.grownBy X2 (some (N + 1)) := grown_below gX1 bX2
        have eX2 : X2.ownsRow W.heap.size 3 1 (.slice (some ⟨X1.heap.size, 0, none⟩) 0 0) 0 [] := own_empty (by rw [hX2]; exact heap_alloc_last _ _) BX1.size
        have lX2 : X1.heap.size < X2.heap.size := by rw [hX2]; simp
        have eX0X1X2 := own_below eX0X1 bX2
        have lX0X1X2 := Nat.lt_of_lt_of_le lX0X1 bX2.size
        have eX1X2 := own_below eX1 bX2
        have lX1X2 := Nat.lt_of_lt_of_le lX1 bX2.size
        have n12X2 : X.heap.size ≠ X1.heap.size := Nat.ne_of_lt lX0X1
        have n13X2 : X0.heap.size ≠ X1.heap.size := Nat.ne_of_lt lX1
        have HX2 : Hid (X2 = X1.alloc (.cells #[] 3)) := hX2
        clear hX2
        go_simp
        rw [← HX2.out]
        refine hK.out _ _ ?_ (fun hHeld => ?_)
        · exact gX2
        clear hK K
        try simp only [Act.put, List.setIfInBounds_toArray, List.set_cons_zero, List.set_cons_succ]
        refine wpAnyH_ready (rs := [3]) (by kernel_rfl) (by simp) ?_
        refine (AllReadyH.cons (o := { dst := some 6, op := Op.call { callee := Callee.builtin Builtin.append, args := #[Operand.tmp 3, Operand.tmp 5], argTypes := #[22, 22] }, type := 22, pos := "ref.go:179", after := #[{ on := 0, ground := Ground.data }, { on := 2, ground := Ground.data }], guard := none }) rfl (fun K hK => ?_) AllReadyH.nil)
        obtain ⟨rX3, pX3, X3, aX3, oX3, wX3, vX3⟩ := copyI (ca := ic) 22 eX2 HIL.out b8i (rowI_below HI.out BX2) BX2.size
        have BX3 : Below W.heap.size W X3 := below_own BX2 eX2 wX3 BX2.size
        have gX3 : W.grownBy X3 (some (N + 1)) := grown_below9 gX2 BX2 BX3
        have lX3 : rX3 < X3.heap.size := own_lt9 oX3
        have eX0X1X2X3 := own_kept9 eX0X1X2 wX3 n12X2
        have lX0X1X2X3 := Nat.lt_of_lt_of_le lX0X1X2 wX3.size
        have m12X3 : X.heap.size ≠ rX3 := by rcases vX3 with h | h <;> rw [h]; exact n12X2; exact Nat.ne_of_lt lX0X1X2
        have eX1X2X3 := own_kept9 eX1X2 wX3 n13X2
        have lX1X2X3 := Nat.lt_of_lt_of_le lX1X2 wX3.size
        have m13X3 : X0.heap.size ≠ rX3 := by rcases vX3 with h | h <;> rw [h]; exact n13X2; exact Nat.ne_of_lt lX1X2
        refine wanted_append_run rfl _ _ 22 rfl _ _ _ _ rfl rfl aX3 ?_
        refine hK.out _ _ ?_ (fun hHeld => ?_)
        · exact gX3
        clear hK K
        try simp only [Act.put, List.setIfInBounds_toArray, List.set_cons_zero, List.set_cons_succ]
        refine wpAnyH_ready (rs := [7]) (by kernel_rfl) (by simp) ?_
        refine (AllReadyH.cons (o := { dst := some 10, op := Op.call { callee := Callee.builtin Builtin.append, args := #[Operand.tmp 7, Operand.tmp 9], argTypes := #[22, 22] }, type := 22, pos := "ref.go:179", after := #[{ on := 4, ground := Ground.data }, { on := 6, ground := Ground.data }, { on := 3, ground := Ground.chain }], guard := none }) rfl (fun K hK => ?_) AllReadyH.nil)
        obtain ⟨rX4, pX4, X4, aX4, oX4, wX4, vX4⟩ := copyI (ca := oc) 22 eX0X1X2X3 HOL.out b8o (rowI_below HO.out BX3) BX3.size
        have BX4 : Below W.heap.size W X4 := below_own BX3 eX0X1X2X3 wX4 BX3.size
        have gX4 : W.grownBy X4 (some (N + 1)) := grown_below9 gX3 BX3 BX4
        have lX4 : rX4 < X4.heap.size := own_lt9 oX4
        have eX1X2X3X4 := own_kept9 eX1X2X3 wX4 n32X1.symm
        have lX1X2X3X4 := Nat.lt_of_lt_of_le lX1X2X3 wX4.size
        have m23X4 : X0.heap.size ≠ rX4 := by rcases vX4 with h | h <;> rw [h]; exact n32X1.symm; exact Nat.ne_of_lt lX1X2X3
        have oX3X4 := own_kept9 oX3 wX4 m12X3.symm
        have lX3X4 := Nat.lt_of_lt_of_le lX3 wX4.size
        have m21X4 : rX3 ≠ rX4 := by rcases vX4 with h | h <;> rw [h]; exact m12X3.symm; exact Nat.ne_of_lt lX3
        refine wanted_append_run rfl _ _ 22 rfl _ _ _ _ rfl rfl aX4 ?_
        refine hK.out _ _ ?_ (fun hHeld => ?_)
        · exact gX4
        clear hK K
        try simp only [Act.put, List.setIfInBounds_toArray, List.set_cons_zero, List.set_cons_succ]
        refine wpAnyH_ready (rs := [13]) (by kernel_rfl) (by simp) ?_
        refine (AllReadyH.cons (o := { dst := some 16, op := Op.call { callee := Callee.builtin Builtin.append, args := #[Operand.tmp 13, Operand.tmp 15], argTypes := #[23, 23] }, type := 23, pos := "ref.go:179", after := #[{ on := 10, ground := Ground.data }, { on := 12, ground := Ground.data }, { on := 7, ground := Ground.chain }], guard := none }) rfl (fun K hK => ?_) AllReadyH.nil)
        obtain ⟨rX5, pX5, X5, aX5, oX5, wX5, vX5⟩ := copyT (ca := sc) 23 eX1X2X3X4 HSL.out b32 (stpW_below HS.out BX4) BX4.size
        have BX5 : Below W.heap.size W X5 := below_own BX4 eX1X2X3X4 wX5 BX4.size
        have gX5 : W.grownBy X5 (some (N + 1)) := grown_below9 gX4 BX4 BX5
        have lX5 : rX5 < X5.heap.size := own_lt9 oX5
        have oX3X4X5 := own_kept9 oX3X4 wX5 m13X3.symm
        have lX3X4X5 := Nat.lt_of_lt_of_le lX3X4 wX5.size
        have m31X5 : rX3 ≠ rX5 := by rcases vX5 with h | h <;> rw [h]; exact m13X3.symm; exact Nat.ne_of_lt lX3X4
        have oX4X5 := own_kept9 oX4 wX5 m23X4.symm
        have lX4X5 := Nat.lt_of_lt_of_le lX4 wX5.size
        have m32X5 : rX4 ≠ rX5 := by rcases vX5 with h | h <;> rw [h]; exact m23X4.symm; exact Nat.ne_of_lt lX4
        refine wanted_append_run rfl _ _ 23 rfl _ _ _ _ rfl rfl aX5 ?_
        refine hK.out _ _ ?_ (fun hHeld => ?_)
        · exact gX5
        clear hK K
        try simp only [Act.put, List.setIfInBounds_toArray, List.set_cons_zero, List.set_cons_succ]
        refine wpAnyH_take (i := 14) (oi := { dst := some 17, op := Op.build 25 #[(0, Operand.tmp 6), (1, Operand.tmp 10), (2, Operand.tmp 12), (3, Operand.tmp 16)], type := 25, pos := "ref.go:179", after := #[{ on := 3, ground := Ground.data }, { on := 7, ground := Ground.data }, { on := 9, ground := Ground.data }, { on := 13, ground := Ground.data }], guard := none }) (v := ?_) rfl (by kernel_rfl) (by kernel_rfl) (by kernel_rfl) (fun _ _ _ h => h) (Or.inl ⟨by rfl, ?_⟩) hHeld ?_
        rotate_left
        · intro u hSw
          go_simp
          try with_reducible rfl
        try simp only [Act.put, List.setIfInBounds_toArray, List.set_cons_zero, List.set_cons_succ]
        refine wpAnyH_ready (rs := [15]) (by kernel_rfl) (by simp) ?_
        refine (AllReadyH.cons (o := { dst := none, op := Op.store 25 (Operand.tmp 2) (Operand.tmp 17), type := 0, pos := "ref.go:179", after := #[{ on := 14, ground := Ground.data }, { on := 13, ground := Ground.chain }, { on := 0, ground := Ground.phase }, { on := 1, ground := Ground.phase }, { on := 2, ground := Ground.phase }, { on := 3, ground := Ground.phase }, { on := 4, ground := Ground.phase }, { on := 5, ground := Ground.phase }, { on := 6, ground := Ground.phase }, { on := 7, ground := Ground.phase }, { on := 8, ground := Ground.phase }, { on := 9, ground := Ground.phase }, { on := 10, ground := Ground.phase }, { on := 11, ground := Ground.phase }, { on := 12, ground := Ground.phase }, { on := 13, ground := Ground.phase }, { on := 14, ground := Ground.phase }], guard := none }) rfl (fun K hK => ?_) AllReadyH.nil)
        have hk3 := heap_later HRES.out BX5
        have d0 := cellAt hk3 0 _ rfl
        have d1 := cellAt hk3 1 _ rfl
        have d2 := cellAt hk3 2 _ rfl
        have d3 := cellAt hk3 3 _ rfl
        have e0 : X5.frozen? ⟨N + 1, 0, none⟩ = false := frozen_of_row _ _ _ _ _ hk3
        have e1 : X5.frozen? ⟨N + 1, 1, none⟩ = false := frozen_of_row _ _ _ _ _ hk3
        have e2 : X5.frozen? ⟨N + 1, 2, none⟩ = false := frozen_of_row _ _ _ _ _ hk3
        have e3 : X5.frozen? ⟨N + 1, 3, none⟩ = false := frozen_of_row _ _ _ _ _ hk3
        go_simp
        refine hK.out _ _ ?_ (fun hHeld => ?_)
        · exact grownBy_setCell (grownBy_setCell (grownBy_setCell (grownBy_setCell gX5 _) _) _) _
        clear hK K
        try simp only [Act.put, List.setIfInBounds_toArray, List.set_cons_zero, List.set_cons_succ]
        refine wpAnyH_done (by kernel_rfl) ?_ _
        refine NoPanic.normal ?_
        obtain ⟨Z, hZ⟩ : ∃ Z, Z = ((((X5.setCell ⟨N + 1, 0, none⟩ (.slice (some ⟨rX3, 0, none⟩) il pX3)).setCell ⟨N + 1, 1, none⟩ (.slice (some ⟨rX4, 0, none⟩) ol pX4)).setCell ⟨N + 1, 2, none⟩ (.int .i64 rg)).setCell ⟨N + 1, 3, none⟩ (.slice (some ⟨rX5, 0, none⟩) sl pX5)) := ⟨_, rfl⟩
        have hfin := copy_end9 hz hk3 BX5 oX3X4X5 oX4X5 oX5 hZ
        rw [← hZ]
        go_wp2
        go_meet
        exact ⟨_, _, _, _, _, _, hfin⟩
    · obtain ⟨X0, hX0⟩ : ∃ Z9 : World, Z9 = X.alloc (.cells #[] 48) := ⟨_, rfl⟩
      have bX0 : Below X.heap.size X X0 := by rw [hX0]; exact (Below.refl _ _).alloc (Nat.le_refl _) _
      have BX0 : Below W.heap.size W X0 := BX.trans (bX0.mono BX.size)
      have gX0 : W.grownBy X0 (some (N + 1)) := grown_below GX bX0
      have eX0 : X0.ownsRow W.heap.size 48 4 (.slice (some ⟨X.heap.size, 0, none⟩) 0 0) 0 [] := own_empty (by rw [hX0]; exact heap_alloc_last _ _) BX.size
      have lX0 : X.heap.size < X0.heap.size := by rw [hX0]; simp
      have HX0 : Hid (X0 = X.alloc (.cells #[] 48)) := hX0
      clear hX0
      go_simp
      rw [← HX0.out]
      refine hK.out _ _ ?_ (fun hHeld => ?_)
      · exact gX0
      clear hK K
      try simp only [Act.put, List.setIfInBounds_toArray, List.set_cons_zero, List.set_cons_succ]
      refine wpAnyH_ready (rs := [0, 4]) (by kernel_rfl) (by simp) ?_
      refine (AllReadyH.cons (o := { dst := some 3, op := Op.buildSlice 22 0 #[], type := 22, pos := "ref.go:179", after := #[], guard := none }) rfl (fun K hK => ?_) (AllReadyH.cons (o := { dst := some 7, op := Op.buildSlice 22 0 #[], type := 22, pos := "ref.go:179", after := #[], guard := none }) rfl (fun K hK => ?_) AllReadyH.nil))
      · obtain ⟨X1, hX1⟩ : ∃ Z9 : World, Z9 = X0.alloc (.cells #[] 3) := ⟨_, rfl⟩
        have bX1 : Below X0.heap.size X0 X1 := by rw [hX1]; exact (Below.refl _ _).alloc (Nat.le_refl _) _
        have BX1 : Below W.heap.size W X1 := BX0.trans (bX1.mono BX0.size)
        have gX1 : W.grownBy X1 (some (N + 1)) := grown_below gX0 bX1
        have eX1 : X1.ownsRow W.heap.size 3 1 (.slice (some ⟨X0.heap.size, 0, none⟩) 0 0) 0 [] := own_empty (by rw [hX1]; exact heap_alloc_last _ _) BX0.size
        have lX1 : X0.heap.size < X1.heap.size := by rw [hX1]; simp
        have eX0X1 := own_below eX0 bX1
        have lX0X1 := Nat.lt_of_lt_of_le lX0 bX1.size
        have n13X1 : X.heap.size ≠ X0.heap.size := Nat.ne_of_lt lX0
        have HX1 : Hid (X1 = X0.alloc (.cells #[] 3)) := hX1
        clear hX1
        go_simp
        rw [← HX1.out]
        refine hK.out _ _ ?_ (fun hHeld => ?_)
        · exact gX1
        clear hK K
        try simp only [Act.put, List.setIfInBounds_toArray, List.set_cons_zero, List.set_cons_succ]
        refine wpAnyH_ready (rs := [3, 4]) (by kernel_rfl) (by simp) ?_
        refine (AllReadyH.cons (o := { dst := some 6, op := Op.call { callee := Callee.builtin Builtin.append, args := #[Operand.tmp 3, Operand.tmp 5], argTypes := #[22, 22] }, type := 22, pos := "ref.go:179", after := #[{ on := 0, ground := Ground.data }, { on := 2, ground := Ground.data }], guard := none }) rfl (fun K hK => ?_) (AllReadyH.cons (o := { dst := some 7, op := Op.buildSlice 22 0 #[], type := 22, pos := "ref.go:179", after := #[], guard := none }) rfl (fun K hK => ?_) AllReadyH.nil))
        · obtain ⟨rX2, pX2, X2, aX2, oX2, wX2, vX2⟩ := copyI (ca := ic) 22 eX1 HIL.out b8i (rowI_below HI.out BX1) BX1.size
          have BX2 : Below W.heap.size W X2 := below_own BX1 eX1 wX2 BX1.size
          have gX2 : W.grownBy X2 (some (N + 1)) := grown_below9 gX1 BX1 BX2
          have lX2 : rX2 < X2.heap.size := own_lt9 oX2
          have eX0X1X2 := own_kept9 eX0X1 wX2 n13X1
          have lX0X1X2 := Nat.lt_of_lt_of_le lX0X1 wX2.size
          have m13X2 : X.heap.size ≠ rX2 := by rcases vX2 with h | h <;> rw [h]; exact n13X1; exact Nat.ne_of_lt lX0X1
          refine wanted_append_run rfl _ _ 22 rfl _ _ _ _ rfl rfl aX2 ?_
          refine hK.out _ _ ?_ (fun hHeld => ?_)
          · exact gX2
          clear hK K
          try simp only [Act.put, List.setIfInBounds_toArray, List.set_cons_zero, List.set_cons_succ]
          refine wpAnyH_ready (rs := [4]) (by kernel_rfl) (by simp) ?_
          refine (AllReadyH.cons (o := { dst := some 7, op := Op.buildSlice 22 0 #[], type := 22, pos := "ref.go:179", after := #[], guard := none }) rfl (fun K hK => ?_) AllReadyH.nil)
          obtain ⟨X3, hX3⟩ : ∃ Z9 : World, Z9 = X2.alloc (.cells #[] 3) := ⟨_, rfl⟩
          have bX3 : Below X2.heap.size X2 X3 := by rw [hX3]; exact (Below.refl _ _).alloc (Nat.le_refl _) _
          have BX3 : Below W.heap.size W X3 := BX2.trans (bX3.mono BX2.size)
          have gX3 : W.grownBy X3 (some (N + 1)) := grown_below gX2 bX3
          have eX3 : X3.ownsRow W.heap.size 3 1 (.slice (some ⟨X2.heap.size, 0, none⟩) 0 0) 0 [] := own_empty (by rw [hX3]; exact heap_alloc_last _ _) BX2.size
          have lX3 : X2.heap.size < X3.heap.size := by rw [hX3]; simp
          have eX0X1X2X3 := own_below eX0X1X2 bX3
          have lX0X1X2X3 := Nat.lt_of_lt_of_le lX0X1X2 bX3.size
          have oX2X3 := own_below oX2 bX3
          have lX2X3 := Nat.lt_of_lt_of_le lX2 bX3.size
          have n23X3 : X.heap.size ≠ X2.heap.size := Nat.ne_of_lt lX0X1X2
          have n21X3 : rX2 ≠ X2.heap.size := Nat.ne_of_lt lX2
          have HX3 : Hid (X3 = X2.alloc (.cells #[] 3)) := hX3
          clear hX3
          go_simp
          rw [← HX3.out]
          refine hK.out _ _ ?_ (fun hHeld => ?_)
          · exact gX3
          clear hK K
          try simp only [Act.put, List.setIfInBounds_toArray, List.set_cons_zero, List.set_cons_succ]
          refine wpAnyH_ready (rs := [7]) (by kernel_rfl) (by simp) ?_
          refine (AllReadyH.cons (o := { dst := some 10, op := Op.call { callee := Callee.builtin Builtin.append, args := #[Operand.tmp 7, Operand.tmp 9], argTypes := #[22, 22] }, type := 22, pos := "ref.go:179", after := #[{ on := 4, ground := Ground.data }, { on := 6, ground := Ground.data }, { on := 3, ground := Ground.chain }], guard := none }) rfl (fun K hK => ?_) AllReadyH.nil)
          obtain ⟨rX4, pX4, X4, aX4, oX4, wX4, vX4⟩ := copyI (ca := oc) 22 eX3 HOL.out b8o (rowI_below HO.out BX3) BX3.size
          have BX4 : Below W.heap.size W X4 := below_own BX3 eX3 wX4 BX3.size
          have gX4 : W.grownBy X4 (some (N + 1)) := grown_below9 gX3 BX3 BX4
          have lX4 : rX4 < X4.heap.size := own_lt9 oX4
          have eX0X1X2X3X4 := own_kept9 eX0X1X2X3 wX4 n23X3
          have lX0X1X2X3X4 := Nat.lt_of_lt_of_le lX0X1X2X3 wX4.size
          have m23X4 : X.heap.size ≠ rX4 := by rcases vX4 with h | h <;> rw [h]; exact n23X3; exact Nat.ne_of_lt lX0X1X2X3
          have oX2X3X4 := own_kept9 oX2X3 wX4 n21X3
          have lX2X3X4 := Nat.lt_of_lt_of_le lX2X3 wX4.size
          have m21X4 : rX2 ≠ rX4 := by rcases vX4 with h | h <;> rw [h]; exact n21X3; exact Nat.ne_of_lt lX2X3
          refine wanted_append_run rfl _ _ 22 rfl _ _ _ _ rfl rfl aX4 ?_
          refine hK.out _ _ ?_ (fun hHeld => ?_)
          · exact gX4
          clear hK K
          try simp only [Act.put, List.setIfInBounds_toArray, List.set_cons_zero, List.set_cons_succ]
          refine wpAnyH_ready (rs := [13]) (by kernel_rfl) (by simp) ?_
          refine (AllReadyH.cons (o := { dst := some 16, op := Op.call { callee := Callee.builtin Builtin.append, args := #[Operand.tmp 13, Operand.tmp 15], argTypes := #[23, 23] }, type := 23, pos := "ref.go:179", after := #[{ on := 10, ground := Ground.data }, { on := 12, ground := Ground.data }, { on := 7, ground := Ground.chain }], guard := none }) rfl (fun K hK => ?_) AllReadyH.nil)
          obtain ⟨rX5, pX5, X5, aX5, oX5, wX5, vX5⟩ := copyT (ca := sc) 23 eX0X1X2X3X4 HSL.out b32 (stpW_below HS.out BX4) BX4.size
          have BX5 : Below W.heap.size W X5 := below_own BX4 eX0X1X2X3X4 wX5 BX4.size
          have gX5 : W.grownBy X5 (some (N + 1)) := grown_below9 gX4 BX4 BX5
          have lX5 : rX5 < X5.heap.size := own_lt9 oX5
          have oX2X3X4X5 := own_kept9 oX2X3X4 wX5 m13X2.symm
          have lX2X3X4X5 := Nat.lt_of_lt_of_le lX2X3X4 wX5.size
          have m31X5 : rX2 ≠ rX5 := by rcases vX5 with h | h <;> rw [h]; exact m13X2.symm; exact Nat.ne_of_lt lX2X3X4
          have oX4X5 := own_kept9 oX4 wX5 m23X4.symm
          have lX4X5 := Nat.lt_of_lt_of_le lX4 wX5.size
          have m32X5 : rX4 ≠ rX5 := by rcases vX5 with h | h <;> rw [h]; exact m23X4.symm; exact Nat.ne_of_lt lX4
          refine wanted_append_run rfl _ _ 23 rfl _ _ _ _ rfl rfl aX5 ?_
          refine hK.out _ _ ?_ (fun hHeld => ?_)
          · exact gX5
          clear hK K
          try simp only [Act.put, List.setIfInBounds_toArray, List.set_cons_zero, List.set_cons_succ]
          refine wpAnyH_take (i := 14) (oi := { dst := some 17, op := Op.build 25 #[(0, Operand.tmp 6), (1, Operand.tmp 10), (2, Operand.tmp 12), (3, Operand.tmp 16)], type := 25, pos := "ref.go:179", after := #[{ on := 3, ground := Ground.data }, { on := 7, ground := Ground.data }, { on := 9, ground := Ground.data }, { on := 13, ground := Ground.data }], guard := none }) (v := ?_) rfl (by kernel_rfl) (by kernel_rfl) (by kernel_rfl) (fun _ _ _ h => h) (Or.inl ⟨by rfl, ?_⟩) hHeld ?_
          rotate_left
          · intro u hSw
            go_simp
            try with_reducible rfl
          try simp only [Act.put, List.setIfInBounds_toArray, List.set_cons_zero, List.set_cons_succ]
          refine wpAnyH_ready (rs := [15]) (by kernel_rfl) (by simp) ?_
          refine (AllReadyH.cons (o := { dst := none, op := Op.store 25 (Operand.tmp 2) (Operand.tmp 17), type := 0, pos := "ref.go:179", after := #[{ on := 14, ground := Ground.data }, { on := 13, ground := Ground.chain }, { on := 0, ground := Ground.phase }, { on := 1, ground := Ground.phase }, { on := 2, ground := Ground.phase }, { on := 3, ground := Ground.phase }, { on := 4, ground := Ground.phase }, { on := 5, ground := Ground.phase }, { on := 6, ground := Ground.phase }, { on := 7, ground := Ground.phase }, { on := 8, ground := Ground.phase }, { on := 9, ground := Ground.phase }, { on := 10, ground := Ground.phase }, { on := 11, ground := Ground.phase }, { on := 12, ground := Ground.phase }, { on := 13, ground := Ground.phase }, { on := 14, ground := Ground.phase }], guard := none }) rfl (fun K hK => ?_) AllReadyH.nil)
          have hk3 := heap_later HRES.out BX5
          have d0 := cellAt hk3 0 _ rfl
          have d1 := cellAt hk3 1 _ rfl
          have d2 := cellAt hk3 2 _ rfl
          have d3 := cellAt hk3 3 _ rfl
          have e0 : X5.frozen? ⟨N + 1, 0, none⟩ = false := frozen_of_row _ _ _ _ _ hk3
          have e1 : X5.frozen? ⟨N + 1, 1, none⟩ = false := frozen_of_row _ _ _ _ _ hk3
          have e2 : X5.frozen? ⟨N + 1, 2, none⟩ = false := frozen_of_row _ _ _ _ _ hk3
          have e3 : X5.frozen? ⟨N + 1, 3, none⟩ = false := frozen_of_row _ _ _ _ _ hk3
          go_simp
          refine hK.out _ _ ?_ (fun hHeld => ?_)
          · exact grownBy_setCell (grownBy_setCell (grownBy_setCell (grownBy_setCell gX5 _) _) _) _
          clear hK K
          try simp only [Act.put, List.setIfInBounds_toArray, List.set_cons_zero, List.set_cons_succ]
          refine wpAnyH_done (by kernel_rfl) ?_ _
          refine NoPanic.normal ?_
          obtain ⟨Z, hZ⟩ : ∃ Z, Z = ((((X5.setCell ⟨N + 1, 0, none⟩ (.slice (some ⟨rX2, 0, none⟩) il pX2)).setCell ⟨N + 1, 1, none⟩ (.slice (some ⟨rX4, 0, none⟩) ol pX4)).setCell ⟨N + 1, 2, none⟩ (.int .i64 rg)).setCell ⟨N + 1, 3, none⟩ (.slice (some ⟨rX5, 0, none⟩) sl pX5)) := ⟨_, rfl⟩
          have hfin := copy_end9 hz hk3 BX5 oX2X3X4X5 oX4X5 oX5 hZ
          rw [← hZ]
          go_wp2
          go_meet
          exact ⟨_, _, _, _, _, _, hfin⟩
        · obtain ⟨X2, hX2⟩ : ∃ Z9 : World, Z9 = X1.alloc (.cells #[] 3) := ⟨_, rfl⟩
          have bX2 : Below X1.heap.size X1 X2 := by rw [hX2]; exact (Below.refl _ _).alloc (Nat.le_refl _) _
          have BX2 : Below W.heap.size W X2 := BX1.trans (bX2.mono BX1.size)
          have gX2 : W.grownBy X2 (some (N + 1)) := grown_below gX1 bX2
          have eX2 : X2.ownsRow W.heap.size 3 1 (.slice (some ⟨X1.heap.size, 0, none⟩) 0 0) 0 [] := own_empty (by rw [hX2]; exact heap_alloc_last _ _) BX1.size
          have lX2 : X1.heap.size < X2.heap.size := by rw [hX2]; simp
          have eX0X1X2 := own_below eX0X1 bX2
          have lX0X1X2 := Nat.lt_of_lt_of_le lX0X1 bX2.size
          have eX1X2 := own_below eX1 bX2
          have lX1X2 := Nat.lt_of_lt_of_le lX1 bX2.size
          have n23X2 : X.heap.size ≠ X1.heap.size := Nat.ne_of_lt lX0X1
          have n21X2 : X0.heap.size ≠ X1.heap.size := Nat.ne_of_lt lX1
          have HX2 : Hid (X2 = X1.alloc (.cells #[] 3)) := hX2
          clear hX2
          go_simp
          rw [← HX2.out]
          refine hK.out _ _ ?_ (fun hHeld => ?_)
          · exact gX2
          clear hK K
          try simp only [Act.put, List.setIfInBounds_toArray, List.set_cons_zero, List.set_cons_succ]
          refine wpAnyH_ready (rs := [3]) (by kernel_rfl) (by simp) ?_
          refine (AllReadyH.cons (o := { dst := some 6, op := Op.call { callee := Callee.builtin Builtin.append, args := #[Operand.tmp 3, Operand.tmp 5], argTypes := #[22, 22] }, type := 22, pos := "ref.go:179", after := #[{ on := 0, ground := Ground.data }, { on := 2, ground := Ground.data }], guard := none }) rfl (fun K hK => ?_) AllReadyH.nil)
          obtain ⟨rX3, pX3, X3, aX3, oX3, wX3, vX3⟩ := copyI (ca := ic) 22 eX1X2 HIL.out b8i (rowI_below HI.out BX2) BX2.size
          have BX3 : Below W.heap.size W X3 := below_own BX2 eX1X2 wX3 BX2.size
          have gX3 : W.grownBy X3 (some (N + 1)) := grown_below9 gX2 BX2 BX3
          have lX3 : rX3 < X3.heap.size := own_lt9 oX3
          have eX0X1X2X3 := own_kept9 eX0X1X2 wX3 n13X1
          have lX0X1X2X3 := Nat.lt_of_lt_of_le lX0X1X2 wX3.size
          have m13X3 : X.heap.size ≠ rX3 := by rcases vX3 with h | h <;> rw [h]; exact n13X1; exact Nat.ne_of_lt lX0X1X2
          have eX2X3 := own_kept9 eX2 wX3 n21X2.symm
          have lX2X3 := Nat.lt_of_lt_of_le lX2 wX3.size
          have m12X3 : X1.heap.size ≠ rX3 := by rcases vX3 with h | h <;> rw [h]; exact n21X2.symm; exact Nat.ne_of_lt lX2
          refine wanted_append_run rfl _ _ 22 rfl _ _ _ _ rfl rfl aX3 ?_
          refine hK.out _ _ ?_ (fun hHeld => ?_)
          · exact gX3
          clear hK K
          try simp only [Act.put, List.setIfInBounds_toArray, List.set_cons_zero, List.set_cons_succ]
          refine wpAnyH_ready (rs := [7]) (by kernel_rfl) (by simp) ?_
          refine (AllReadyH.cons (o := { dst := some 10, op := Op.call { callee := Callee.builtin Builtin.append, args := #[Operand.tmp 7, Operand.tmp 9], argTypes := #[22, 22] }, type := 22, pos := "ref.go:179", after := #[{ on := 4, ground := Ground.data }, { on := 6, ground := Ground.data }, { on := 3, ground := Ground.chain }], guard := none }) rfl (fun K hK => ?_) AllReadyH.nil)
          obtain ⟨rX4, pX4, X4, aX4, oX4, wX4, vX4⟩ := copyI (ca := oc) 22 eX2X3 HOL.out b8o (rowI_below HO.out BX3) BX3.size
          have BX4 : Below W.heap.size W X4 := below_own BX3 eX2X3 wX4 BX3.size
          have gX4 : W.grownBy X4 (some (N + 1)) := grown_below9 gX3 BX3 BX4
          have lX4 : rX4 < X4.heap.size := own_lt9 oX4
          have eX0X1X2X3X4 := own_kept9 eX0X1X2X3 wX4 n23X2
          have lX0X1X2X3X4 := Nat.lt_of_lt_of_le lX0X1X2X3 wX4.size
          have m23X4 : X.heap.size ≠ rX4 := by rcases vX4 with h | h <;> rw [h]; exact n23X2; exact Nat.ne_of_lt lX0X1X2X3
          have oX3X4 := own_kept9 oX3 wX4 m12X3.symm
          have lX3X4 := Nat.lt_of_lt_of_le lX3 wX4.size
          have m21X4 : rX3 ≠ rX4 := by rcases vX4 with h | h <;> rw [h]; exact m12X3.symm; exact Nat.ne_of_lt lX3
          refine wanted_append_run rfl _ _ 22 rfl _ _ _ _ rfl rfl aX4 ?_
          refine hK.out _ _ ?_ (fun hHeld => ?_)
          · exact gX4
          clear hK K
          try simp only [Act.put, List.setIfInBounds_toArray, List.set_cons_zero, List.set_cons_succ]
          refine wpAnyH_ready (rs := [13]) (by kernel_rfl) (by simp) ?_
          refine (AllReadyH.cons (o := { dst := some 16, op := Op.call { callee := Callee.builtin Builtin.append, args := #[Operand.tmp 13, Operand.tmp 15], argTypes := #[23, 23] }, type := 23, pos := "ref.go:179", after := #[{ on := 10, ground := Ground.data }, { on := 12, ground := Ground.data }, { on := 7, ground := Ground.chain }], guard := none }) rfl (fun K hK => ?_) AllReadyH.nil)
          obtain ⟨rX5, pX5, X5, aX5, oX5, wX5, vX5⟩ := copyT (ca := sc) 23 eX0X1X2X3X4 HSL.out b32 (stpW_below HS.out BX4) BX4.size
          have BX5 : Below W.heap.size W X5 := below_own BX4 eX0X1X2X3X4 wX5 BX4.size
          have gX5 : W.grownBy X5 (some (N + 1)) := grown_below9 gX4 BX4 BX5
          have lX5 : rX5 < X5.heap.size := own_lt9 oX5
          have oX3X4X5 := own_kept9 oX3X4 wX5 m13X3.symm
          have lX3X4X5 := Nat.lt_of_lt_of_le lX3X4 wX5.size
          have m31X5 : rX3 ≠ rX5 := by rcases vX5 with h | h <;> rw [h]; exact m13X3.symm; exact Nat.ne_of_lt lX3X4
          have oX4X5 := own_kept9 oX4 wX5 m23X4.symm
          have lX4X5 := Nat.lt_of_lt_of_le lX4 wX5.size
          have m32X5 : rX4 ≠ rX5 := by rcases vX5 with h | h <;> rw [h]; exact m23X4.symm; exact Nat.ne_of_lt lX4
          refine wanted_append_run rfl _ _ 23 rfl _ _ _ _ rfl rfl aX5 ?_
          refine hK.out _ _ ?_ (fun hHeld => ?_)
          · exact gX5
          clear hK K
          try simp only [Act.put, List.setIfInBounds_toArray, List.set_cons_zero, List.set_cons_succ]
          refine wpAnyH_take (i := 14) (oi := { dst := some 17, op := Op.build 25 #[(0, Operand.tmp 6), (1, Operand.tmp 10), (2, Operand.tmp 12), (3, Operand.tmp 16)], type := 25, pos := "ref.go:179", after := #[{ on := 3, ground := Ground.data }, { on := 7, ground := Ground.data }, { on := 9, ground := Ground.data }, { on := 13, ground := Ground.data }], guard := none }) (v := ?_) rfl (by kernel_rfl) (by kernel_rfl) (by kernel_rfl) (fun _ _ _ h => h) (Or.inl ⟨by rfl, ?_⟩) hHeld ?_
          rotate_left
          · intro u hSw
            go_simp
            try with_reducible rfl
          try simp only [Act.put, List.setIfInBounds_toArray, List.set_cons_zero, List.set_cons_succ]
          refine wpAnyH_ready (rs := [15]) (by kernel_rfl) (by simp) ?_
          refine (AllReadyH.cons (o := { dst := none, op := Op.store 25 (Operand.tmp 2) (Operand.tmp 17), type := 0, pos := "ref.go:179", after := #[{ on := 14, ground := Ground.data }, { on := 13, ground := Ground.chain }, { on := 0, ground := Ground.phase }, { on := 1, ground := Ground.phase }, { on := 2, ground := Ground.phase }, { on := 3, ground := Ground.phase }, { on := 4, ground := Ground.phase }, { on := 5, ground := Ground.phase }, { on := 6, ground := Ground.phase }, { on := 7, ground := Ground.phase }, { on := 8, ground := Ground.phase }, { on := 9, ground := Ground.phase }, { on := 10, ground := Ground.phase }, { on := 11, ground := Ground.phase }, { on := 12, ground := Ground.phase }, { on := 13, ground := Ground.phase }, { on := 14, ground := Ground.phase }], guard := none }) rfl (fun K hK => ?_) AllReadyH.nil)
          have hk3 := heap_later HRES.out BX5
          have d0 := cellAt hk3 0 _ rfl
          have d1 := cellAt hk3 1 _ rfl
          have d2 := cellAt hk3 2 _ rfl
          have d3 := cellAt hk3 3 _ rfl
          have e0 : X5.frozen? ⟨N + 1, 0, none⟩ = false := frozen_of_row _ _ _ _ _ hk3
          have e1 : X5.frozen? ⟨N + 1, 1, none⟩ = false := frozen_of_row _ _ _ _ _ hk3
          have e2 : X5.frozen? ⟨N + 1, 2, none⟩ = false := frozen_of_row _ _ _ _ _ hk3
          have e3 : X5.frozen? ⟨N + 1, 3, none⟩ = false := frozen_of_row _ _ _ _ _ hk3
          go_simp
          refine hK.out _ _ ?_ (fun hHeld => ?_)
          · exact grownBy_setCell (grownBy_setCell (grownBy_setCell (grownBy_setCell gX5 _) _) _) _
          clear hK K
          try simp only [Act.put, List.setIfInBounds_toArray, List.set_cons_zero, List.set_cons_succ]
          refine wpAnyH_done (by kernel_rfl) ?_ _
          refine NoPanic.normal ?_
          obtain ⟨Z, hZ⟩ : ∃ Z, Z = ((((X5.setCell ⟨N + 1, 0, none⟩ (.slice (some ⟨rX3, 0, none⟩) il pX3)).setCell ⟨N + 1, 1, none⟩ (.slice (some ⟨rX4, 0, none⟩) ol pX4)).setCell ⟨N + 1, 2, none⟩ (.int .i64 rg)).setCell ⟨N + 1, 3, none⟩ (.slice (some ⟨rX5, 0, none⟩) sl pX5)) := ⟨_, rfl⟩
          have hfin := copy_end9 hz hk3 BX5 oX3X4X5 oX4X5 oX5 hZ
          rw [← hZ]
          go_wp2
          go_meet
          exact ⟨_, _, _, _, _, _, hfin⟩
      · obtain ⟨X1, hX1⟩ : ∃ Z9 : World, Z9 = X0.alloc (.cells #[] 3) := ⟨_, rfl⟩
        have bX1 : Below X0.heap.size X0 X1 := by rw [hX1]; exact (Below.refl _ _).alloc (Nat.le_refl _) _
        have BX1 : Below W.heap.size W X1 := BX0.trans (bX1.mono BX0.size)
        have gX1 : W.grownBy X1 (some (N + 1)) := grown_below gX0 bX1
        have eX1 : X1.ownsRow W.heap.size 3 1 (.slice (some ⟨X0.heap.size, 0, none⟩) 0 0) 0 [] := own_empty (by rw [hX1]; exact heap_alloc_last _ _) BX0.size
        have lX1 : X0.heap.size < X1.heap.size := by rw [hX1]; simp
        have eX0X1 := own_below eX0 bX1
        have lX0X1 := Nat.lt_of_lt_of_le lX0 bX1.size
        have n23X1 : X.heap.size ≠ X0.heap.size := Nat.ne_of_lt lX0
        have HX1 : Hid (X1 = X0.alloc (.cells #[] 3)) := hX1
        clear hX1
        go_simp
        rw [← HX1.out]
        refine hK.out _ _ ?_ (fun hHeld => ?_)
        · exact gX1
        clear hK K
        try simp only [Act.put, List.setIfInBounds_toArray, List.set_cons_zero, List.set_cons_succ]
        refine wpAnyH_ready (rs := [0]) (by kernel_rfl) (by simp) ?_
        refine (AllReadyH.cons (o := { dst := some 3, op := Op.buildSlice 22 0 #[], type := 22, pos := "ref.go:179", after := #[], guard := none }) rfl (fun K hK => ?_) AllReadyH.nil)
        obtain ⟨X2, hX2⟩ : ∃ Z9 : World, Z9 = X1.alloc (.cells #[] 3) := ⟨_, rfl⟩
        have bX2 : Below X1.heap.size X1 X2 := by rw [hX2]; exact (Below.refl _ _).alloc (Nat.le_refl _) _
        have BX2 : Below W.heap.size W X2 := BX1.trans (bX2.mono BX1.size)
        have gX2 : W.grownBy X2 (some (N + 1)) := grown_below gX1 bX2
        have eX2 : X2.ownsRow W.heap.size 3 1 (.slice (some ⟨X1.heap.size, 0, none⟩) 0 0) 0 [] := own_empty (by rw [hX2]; exact heap_alloc_last _ _) BX1.size
        have lX2 : X1.heap.size < X2.heap.size := by rw [hX2]; simp
        have eX0X1X2 := own_below eX0X1 bX2
        have lX0X1X2 := Nat.lt_of_lt_of_le lX0X1 bX2.size
        have eX1X2 := own_below eX1 bX2
        have lX1X2 := Nat.lt_of_lt_of_le lX1 bX2.size
        have n13X2 : X.heap.size ≠ X1.heap.size := Nat.ne_of_lt lX0X1
        have n12X2 : X0.heap.size ≠ X1.heap.size := Nat.ne_of_lt lX1
        have HX2 : Hid (X2 = X1.alloc (.cells #[] 3)) := hX2
        clear hX2
        go_simp
        rw [← HX2.out]
        refine hK.out _ _ ?_ (fun hHeld => ?_)
        · exact gX2
        clear hK K
        try simp only [Act.put, List.setIfInBounds_toArray, List.set_cons_zero, List.set_cons_succ]
        refine wpAnyH_ready (rs := [3]) (by kernel_rfl) (by simp) ?_
        refine (AllReadyH.cons (o := { dst := some 6, op := Op.call { callee := Callee.builtin Builtin.append, args := #[Operand.tmp 3, Operand.tmp 5], argTypes := #[22, 22] }, type := 22, pos := "ref.go:179", after := #[{ on := 0, ground := Ground.data }, { on := 2, ground := Ground.data }], guard := none }) rfl (fun K hK => ?_) AllReadyH.nil)
        obtain ⟨rX3, pX3, X3, aX3, oX3, wX3, vX3⟩ := copyI (ca := ic) 22 eX2 HIL.out b8i (rowI_below HI.out BX2) BX2.size
        have BX3 : Below W.heap.size W X3 := below_own BX2 eX2 wX3 BX2.size
        have gX3 : W.grownBy X3 (some (N + 1)) := grown_below9 gX2 BX2 BX3
        have lX3 : rX3 < X3.heap.size := own_lt9 oX3
        have eX0X1X2X3 := own_kept9 eX0X1X2 wX3 n13X2
        have lX0X1X2X3 := Nat.lt_of_lt_of_le lX0X1X2 wX3.size
        have m13X3 : X.heap.size ≠ rX3 := by rcases vX3 with h | h <;> rw [h]; exact n13X2; exact Nat.ne_of_lt lX0X1X2
        have eX1X2X3 := own_kept9 eX1X2 wX3 n12X2
        have lX1X2X3 := Nat.lt_of_lt_of_le lX1X2 wX3.size
        have m12X3 : X0.heap.size ≠ rX3 := by rcases vX3 with h | h <;> rw [h]; exact n12X2; exact Nat.ne_of_lt lX1X2
        refine wanted_append_run rfl _ _ 22 rfl _ _ _ _ rfl rfl aX3 ?_
        refine hK.out _ _ ?_ (fun hHeld => ?_)
        · exact gX3
        clear hK K
        try simp only [Act.put, List.setIfInBounds_toArray, List.set_cons_zero, List.set_cons_succ]
        refine wpAnyH_ready (rs := [7]) (by kernel_rfl) (by simp) ?_
        refine (AllReadyH.cons (o := { dst := some 10, op := Op.call { callee := Callee.builtin Builtin.append, args := #[Operand.tmp 7, Operand.tmp 9], argTypes := #[22, 22] }, type := 22, pos := "ref.go:179", after := #[{ on := 4, ground := Ground.data }, { on := 6, ground := Ground.data }, { on := 3, ground := Ground.chain }], guard := none }) rfl (fun K hK => ?_) AllReadyH.nil)
        obtain ⟨rX4, pX4, X4, aX4, oX4, wX4, vX4⟩ := copyI (ca := oc) 22 eX1X2X3 HOL.out b8o (rowI_below HO.out BX3) BX3.size
        have BX4 : Below W.heap.size W X4 := below_own BX3 eX1X2X3 wX4 BX3.size
        have gX4 : W.grownBy X4 (some (N + 1)) := grown_below9 gX3 BX3 BX4
        have lX4 : rX4 < X4.heap.size := own_lt9 oX4
        have eX0X1X2X3X4 := own_kept9 eX0X1X2X3 wX4 n23X1
        have lX0X1X2X3X4 := Nat.lt_of_lt_of_le lX0X1X2X3 wX4.size
        have m23X4 : X.heap.size ≠ rX4 := by rcases vX4 with h | h <;> rw [h]; exact n23X1; exact Nat.ne_of_lt lX0X1X2X3
        have oX3X4 := own_kept9 oX3 wX4 m12X3.symm
        have lX3X4 := Nat.lt_of_lt_of_le lX3 wX4.size
        have m21X4 : rX3 ≠ rX4 := by rcases vX4 with h | h <;> rw [h]; exact m12X3.symm; exact Nat.ne_of_lt lX3
        refine wanted_append_run rfl _ _ 22 rfl _ _ _ _ rfl rfl aX4 ?_
        refine hK.out _ _ ?_ (fun hHeld => ?_)
        · exact gX4
        clear hK K
        try simp only [Act.put, List.setIfInBounds_toArray, List.set_cons_zero, List.set_cons_succ]
        refine wpAnyH_ready (rs := [13]) (by kernel_rfl) (by simp) ?_
        refine (AllReadyH.cons (o := { dst := some 16, op := Op.call { callee := Callee.builtin Builtin.append, args := #[Operand.tmp 13, Operand.tmp 15], argTypes := #[23, 23] }, type := 23, pos := "ref.go:179", after := #[{ on := 10, ground := Ground.data }, { on := 12, ground := Ground.data }, { on := 7, ground := Ground.chain }], guard := none }) rfl (fun K hK => ?_) AllReadyH.nil)
        obtain ⟨rX5, pX5, X5, aX5, oX5, wX5, vX5⟩ := copyT (ca := sc) 23 eX0X1X2X3X4 HSL.out b32 (stpW_below HS.out BX4) BX4.size
        have BX5 : Below W.heap.size W X5 := below_own BX4 eX0X1X2X3X4 wX5 BX4.size
        have gX5 : W.grownBy X5 (some (N + 1)) := grown_below9 gX4 BX4 BX5
        have lX5 : rX5 < X5.heap.size := own_lt9 oX5
        have oX3X4X5 := own_kept9 oX3X4 wX5 m13X3.symm
        have lX3X4X5 := Nat.lt_of_lt_of_le lX3X4 wX5.size
        have m31X5 : rX3 ≠ rX5 := by rcases vX5 with h | h <;> rw [h]; exact m13X3.symm; exact Nat.ne_of_lt lX3X4
        have oX4X5 := own_kept9 oX4 wX5 m23X4.symm
        have lX4X5 := Nat.lt_of_lt_of_le lX4 wX5.size
        have m32X5 : rX4 ≠ rX5 := by rcases vX5 with h | h <;> rw [h]; exact m23X4.symm; exact Nat.ne_of_lt lX4
        refine wanted_append_run rfl _ _ 23 rfl _ _ _ _ rfl rfl aX5 ?_
        refine hK.out _ _ ?_ (fun hHeld => ?_)
        · exact gX5
        clear hK K
        try simp only [Act.put, List.setIfInBounds_toArray, List.set_cons_zero, List.set_cons_succ]
        refine wpAnyH_take (i := 14) (oi := { dst := some 17, op := Op.build 25 #[(0, Operand.tmp 6), (1, Operand.tmp 10), (2, Operand.tmp 12), (3, Operand.tmp 16)], type := 25, pos := "ref.go:179", after := #[{ on := 3, ground := Ground.data }, { on := 7, ground := Ground.data }, { on := 9, ground := Ground.data }, { on := 13, ground := Ground.data }], guard := none }) (v := ?_) rfl (by kernel_rfl) (by kernel_rfl) (by kernel_rfl) (fun _ _ _ h => h) (Or.inl ⟨by rfl, ?_⟩) hHeld ?_
        rotate_left
        · intro u hSw
          go_simp
          try with_reducible rfl
        try simp only [Act.put, List.setIfInBounds_toArray, List.set_cons_zero, List.set_cons_succ]
        refine wpAnyH_ready (rs := [15]) (by kernel_rfl) (by simp) ?_
        refine (AllReadyH.cons (o := { dst := none, op := Op.store 25 (Operand.tmp 2) (Operand.tmp 17), type := 0, pos := "ref.go:179", after := #[{ on := 14, ground := Ground.data }, { on := 13, ground := Ground.chain }, { on := 0, ground := Ground.phase }, { on := 1, ground := Ground.phase }, { on := 2, ground := Ground.phase }, { on := 3, ground := Ground.phase }, { on := 4, ground := Ground.phase }, { on := 5, ground := Ground.phase }, { on := 6, ground := Ground.phase }, { on := 7, ground := Ground.phase }, { on := 8, ground := Ground.phase }, { on := 9, ground := Ground.phase }, { on := 10, ground := Ground.phase }, { on := 11, ground := Ground.phase }, { on := 12, ground := Ground.phase }, { on := 13, ground := Ground.phase }, { on := 14, ground := Ground.phase }], guard := none }) rfl (fun K hK => ?_) AllReadyH.nil)
        have hk3 := heap_later HRES.out BX5
        have d0 := cellAt hk3 0 _ rfl
        have d1 := cellAt hk3 1 _ rfl
        have d2 := cellAt hk3 2 _ rfl
        have d3 := cellAt hk3 3 _ rfl
        have e0 : X5.frozen? ⟨N + 1, 0, none⟩ = false := frozen_of_row _ _ _ _ _ hk3
        have e1 : X5.frozen? ⟨N + 1, 1, none⟩ = false := frozen_of_row _ _ _ _ _ hk3
        have e2 : X5.frozen? ⟨N + 1, 2, none⟩ = false := frozen_of_row _ _ _ _ _ hk3
        have e3 : X5.frozen? ⟨N + 1, 3, none⟩ = false := frozen_of_row _ _ _ _ _ hk3
        go_simp
        refine hK.out _ _ ?_ (fun hHeld => ?_)
        · exact grownBy_setCell (grownBy_setCell (grownBy_setCell (grownBy_setCell gX5 _) _) _) _
        clear hK K
        try simp only [Act.put, List.setIfInBounds_toArray, List.set_cons_zero, List.set_cons_succ]
        refine wpAnyH_done (by kernel_rfl) ?_ _
        refine NoPanic.normal ?_
        obtain ⟨Z, hZ⟩ : ∃ Z, Z = ((((X5.setCell ⟨N + 1, 0, none⟩ (.slice (some ⟨rX3, 0, none⟩) il pX3)).setCell ⟨N + 1, 1, none⟩ (.slice (some ⟨rX4, 0, none⟩) ol pX4)).setCell ⟨N + 1, 2, none⟩ (.int .i64 rg)).setCell ⟨N + 1, 3, none⟩ (.slice (some ⟨rX5, 0, none⟩) sl pX5)) := ⟨_, rfl⟩
        have hfin := copy_end9 hz hk3 BX5 oX3X4X5 oX4X5 oX5 hZ
        rw [← hZ]
        go_wp2
        go_meet
        exact ⟨_, _, _, _, _, _, hfin⟩
  case rest =>
  obtain ⟨g1, c1, g2, c2, g3, c3, hk, hb, h1, h2, h3⟩ := hcut
  have r0 := cellAt hk 0 _ rfl
  have r1 := cellAt hk 1 _ rfl
  have r2 := cellAt hk 2 _ rfl
  have r3 := cellAt hk 3 _ rfl
  have z := ltHeap hk
  have HB : Hid (Below N w wc) := HBW.out.trans (hb.mono (by omega))
  have H1 : Hid (wc.ownsRow W.heap.size 3 1 (.slice (some ⟨g1, 0, none⟩) il c1) il (ins.map (Value.int .i64))) := h1
  have H2 : Hid (wc.ownsRow W.heap.size 3 1 (.slice (some ⟨g2, 0, none⟩) ol c2) ol (outs.map (Value.int .i64))) := h2
  have H3 : Hid (wc.ownsRow W.heap.size 48 4 (.slice (some ⟨g3, 0, none⟩) sl c3) sl (stpsL ss)) := h3
  clear hk hb h1 h2 h3
  go_wp2
  have hle : w.heap.size ≤ W.heap.size := by have := HN.out; omega
  refine bodyPost_ret (v := .agg #[.slice (some ⟨g1, 0, none⟩) il c1, .slice (some ⟨g2, 0, none⟩) ol c2, .int .i64 rg, .slice (some ⟨g3, 0, none⟩) sl c3]) (by simp [results, Tryd.results8, go_sem, r0, r1, r2, r3, z]) rfl ⟨g1, c1, g2, c2, g3, c3, rfl, own_lower9 H1.out hle, own_lower9 H2.out hle, own_lower9 H3.out hle, by rw [← HN.out]; exact HB.out⟩
end Go.Proofs.YtanmgpgiepkogaaDoor
