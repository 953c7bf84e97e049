/- What stepsFit and Check of package prog answer, of all programs. -/
import Derived.Test.YtoalbopcapgojabDoorStepC
namespace Go.Proofs.YtoalbopcapgojabDoor
open Go.RowKit Gf
set_option linter.unusedVariables false
set_option maxRecDepth 20000
set_option linter.unusedSimpArgs false
/-- a program in memory -/
structure PrgW (w : World) (ia oa sa : Option Addr) (il ic ol oc sl sc : Nat) (ins outs : List Int) (ss : List Stp) : Prop where
  eil : il = ins.length
  eol : ol = outs.length
  esl : sl = ss.length
  i9 : il ≤ 4611686018427387904
  o9 : ol ≤ 4611686018427387904
  s9 : sl ≤ 4611686018427387904
  cil : il ≤ ic
  col : ol ≤ oc
  csl : sl ≤ sc
  inil : ia = none → ic = 0
  onil : oa = none → oc = 0
  snil : sa = none → sc = 0
  I : RowI w ia ins
  O : RowI w oa outs
  S : StpW w sa ss
theorem PrgW.below {w w' : World} {ia oa sa : Option Addr} {il ic ol oc sl sc : Nat} {ins outs : List Int} {ss : List Stp} (h : PrgW w ia oa sa il ic ol oc sl sc ins outs ss) (hb : Below w.heap.size w w') : PrgW w' ia oa sa il ic ol oc sl sc ins outs ss :=
  { h with I := rowI_below h.I hb, O := rowI_below h.O hb, S := stpW_below h.S hb }
/-- all steps fit, each output is made once -/
def FitA (ni no : Nat) (rg : Int) (ss : List Stp) : Prop := (∀ s ∈ ss, OkS ni no rg s) ∧ ∀ d : Nat, d < no → cntO ss d = 1
noncomputable def fitB (ni no : Nat) (rg : Int) (ss : List Stp) : Bool := @decide (FitA ni no rg ss) (Classical.propDecidable _)
theorem fitB_yes {ni no : Nat} {rg : Int} {ss : List Stp} (h : FitA ni no rg ss) : fitB ni no rg ss = true := @decide_eq_true _ (Classical.propDecidable _) h
theorem fitB_no {ni no : Nat} {rg : Int} {ss : List Stp} (h : ¬ FitA ni no rg ss) : fitB ni no rg ss = false := @decide_eq_false _ (Classical.propDecidable _) h
def mdL (no : Nat) (ss : List Stp) : List Bool := (List.range no).map fun d => decide (1 ≤ cntO ss d)
theorem mdL_len (no : Nat) (ss : List Stp) : (mdL no ss).length = no := by simp [mdL]
theorem mdL_nil (no : Nat) : mdL no [] = List.replicate no false := by
  apply List.ext_getElem?
  intro i
  by_cases h : i < no <;> simp [mdL, cntO, h]
theorem mdL_get {no d : Nat} {ss : List Stp} (h : d < no) : (mdL no ss)[d]? = some (decide (1 ≤ cntO ss d)) := by simp [mdL, h]
theorem cnt_not {ss : List Stp} {s : Stp} {d : Nat} (h : s.op ≠ 5) : cntO (ss ++ [s]) d = cntO ss d := by
  have : (s.op == 5) = false := by simpa using h
  simp [cntO, List.countP_append, this]
theorem cnt_out {ss : List Stp} {s : Stp} {d : Nat} (h : s.op = 5) (hd : s.dst = d) : cntO (ss ++ [s]) d = cntO ss d + 1 := by
  simp [cntO, List.countP_append, h, hd]
theorem cnt_other {ss : List Stp} {s : Stp} {d : Nat} (hd : s.dst ≠ d) : cntO (ss ++ [s]) d = cntO ss d := by
  have : (s.dst == (d : Int)) = false := by simpa using hd
  simp [cntO, List.countP_append, this]
theorem cnt_take (ss : List Stp) (j d : Nat) : cntO (ss.take j) d ≤ cntO ss d := by
  conv => rhs; rw [← List.take_append_drop j ss]
  unfold cntO
  rw [List.countP_append]
  omega
theorem mdL_not {no : Nat} {ss : List Stp} {s : Stp} (h : s.op ≠ 5) : mdL no (ss ++ [s]) = mdL no ss := by
  unfold mdL
  apply List.map_congr_left
  intro d _
  rw [cnt_not h]
theorem mdL_out {no d : Nat} {ss : List Stp} {s : Stp} (h : s.op = 5) (hd : s.dst = d) : (mdL no ss).set d true = mdL no (ss ++ [s]) := by
  apply List.ext_getElem?
  intro i
  rw [List.getElem?_set]
  by_cases hi : i < no
  · rw [mdL_get hi, mdL_len]
    by_cases e : d = i
    · subst e
      rw [if_pos rfl, if_pos hi, mdL_get hi, cnt_out h hd]
      simp
    · rw [if_neg e, mdL_get hi, cnt_other (by omega)]
  · rw [List.getElem?_eq_none (by rw [mdL_len]; omega), List.getElem?_eq_none (by rw [mdL_len]; omega)]
    split
    · rw [if_neg (by rw [mdL_len]; omega)]
    · rfl
theorem mdL_all {no : Nat} {ss : List Stp} : false ∈ mdL no ss ↔ ∃ d, d < no ∧ cntO ss d = 0 := by
  simp only [mdL, List.mem_map, List.mem_range, decide_eq_false_iff_not, Nat.not_le]
  constructor
  · rintro ⟨d, h1, h2⟩; exact ⟨d, h1, by omega⟩
  · rintro ⟨d, h1, h2⟩; exact ⟨d, h1, by omega⟩
set_option maxRecDepth 100000 in
set_option maxHeartbeats 8000000 in
theorem stepsFit_F (ia oa sa : Option Addr) (il ic ol oc sl sc : Nat) (ins outs : List Int) (rg : Int) (ss : List Stp) (w : World) (hP : PrgW w ia oa sa il ic ol oc sl sc ins outs ss) (hol : ol ≤ 32) (hsl : sl ≤ 4096) :
    Calls Tryd.prog 32 #[.agg #[.slice ia il ic, .slice oa ol oc, .int .i64 rg, .slice sa sl sc]] w fun e w' => e = .returned (.bool (fitB il ol rg ss)) ∧ Below w.heap.size w w' := by
  obtain ⟨d, hd⟩ : ∃ d, d = fitB il ol rg ss := ⟨_, rfl⟩
  have HY : Hid (FitA il ol rg ss → d = true) := fun h => hd.trans (fitB_yes h)
  have HN : Hid (¬ FitA il ol rg ss → d = false) := fun h => hd.trans (fitB_no h)
  rw [← hd]
  clear hd
  have HSL : Hid (sl = ss.length) := hP.esl
  have HS : Hid (StpW w sa ss) := hP.S
  have hsc := hP.csl
  clear hP
  have hmk := fun u : World => run_makeB9 ol (by omega) u
  have HA : Holds (((w.alloc (.cells #[.slice ia il ic, .slice oa ol oc, .int .i64 rg, .slice sa sl sc] 25)).alloc (.cells #[.int .i64 il, .int .i64 ol, .int .i64 rg] 72)).alloc (.cells (visB (List.replicate ol false)) 4)) [(w.heap.size + 1 + 1, .cells (visB (List.replicate ol false)) 4), (w.heap.size + 1, .cells #[.int .i64 il, .int .i64 ol, .int .i64 rg] 72), (w.heap.size, .cells #[.slice ia il ic, .slice oa ol oc, .int .i64 rg, .slice sa sl sc] 25)] := by
    have h := holds_new (holds_new (holds_new (holds_nil w) #[.slice ia il ic, .slice oa ol oc, .int .i64 rg, .slice sa sl sc] 25) #[.int .i64 il, .int .i64 ol, .int .i64 rg] 72) (visB (List.replicate ol false)) 4
    simp only [World.size_alloc] at h
    exact h
  have HB0 : Hid (Below w.heap.size w (((w.alloc (.cells #[.slice ia il ic, .slice oa ol oc, .int .i64 rg, .slice sa sl sc] 25)).alloc (.cells #[.int .i64 il, .int .i64 ol, .int .i64 rg] 72)).alloc (.cells (visB (List.replicate ol false)) 4))) := (((Below.refl _ w).alloc (Nat.le_refl _) _).alloc (by simp) _).alloc (by simp; omega) _
  have HA0 : Hid _ := HA
  clear HA
  go_enter Tryd.func32, Tryd.ntmps32
  go_wp2
  clear hmk
  go_loopw [25] (fun i wr => ∃ j : Nat, j ≤ sl ∧ i = .int .i64 j ∧ Below w.heap.size w wr ∧ Holds wr [(w.heap.size + 1 + 1, .cells (visB (mdL ol (ss.take j))) 4), (w.heap.size + 1, .cells #[.int .i64 il, .int .i64 ol, .int .i64 rg] 72), (w.heap.size, .cells #[.slice ia il ic, .slice oa ol oc, .int .i64 rg, .slice sa sl sc] 25)] ∧
    (∀ s ∈ ss.take j, OkS il ol rg s) ∧ ∀ d : Nat, d < ol → cntO (ss.take j) d ≤ 1) (fun i _ => sl - (intOf i).toNat)
  case atStart => exact ⟨0, by omega, rfl, HB0.out, by rw [List.take_zero, mdL_nil]; exact HA0.out, fun s h => (by rw [List.take_zero] at h; cases h), fun d _ => by rw [List.take_zero]; exact Nat.zero_le _⟩
  case round =>
    obtain ⟨j, hj, rfl, hb, hh, hok, hcnt⟩ := hrel
    have HB : Hid (Below w.heap.size w wr) := hb
    have HH : Hid _ := hh
    have HOK : Hid (∀ s ∈ ss.take j, OkS il ol rg s) := hok
    have HCN : Hid (∀ d : Nat, d < ol → cntO (ss.take j) d ≤ 1) := hcnt
    clear hb hh hok hcnt
    by_cases hlt : j < sl
    · have hjs : j < ss.length := by rw [← HSL.out]; exact hlt
      obtain ⟨b, off, rfl, hc⟩ := stpW_get (stpW_below HS.out HB.out) hjs
      obtain ⟨c0, c1, c2, c3⟩ := hc j hjs
      obtain ⟨⟨op, dst, src, c⟩, hs⟩ : ∃ s, ss[j] = s := ⟨_, rfl⟩
      rw [hs] at c0 c1 c2 c3
      simp only at c0 c1 c2 c3
      have hget : ss[j]? = some ⟨op, dst, src, c⟩ := by rw [List.getElem?_eq_getElem hjs, hs]
      have htk : ss.take (j + 1) = ss.take j ++ [⟨op, dst, src, c⟩] := by rw [List.take_add_one, hget]; rfl
      have HTK : Hid (ss.take (j + 1) = ss.take j ++ [⟨op, dst, src, c⟩]) := htk
      have HMEM : Hid (⟨op, dst, src, c⟩ ∈ ss) := List.mem_of_getElem? hget
      clear hc hs hget htk hjs
      obtain ⟨cv, hcv⟩ : ∃ cv : Int, cv = (c.toNat : Int) := ⟨_, rfl⟩
      rw [← hcv] at c3
      have HCV : Hid (cv = (c.toNat : Int)) := hcv
      clear hcv
      have HB1 : Hid _ := HB.out.alloc HB.out.size (.cells #[.int .i64 op, .int .i64 dst, .int .i64 src, .int .u8 cv] 55)
      have HH1 : Hid _ := holds_new HH.out #[.int .i64 op, .int .i64 dst, .int .i64 src, .int .u8 cv] 55
      by_cases hop : 1 ≤ op ∧ op ≤ 5
      rotate_left
      · have HF : Hid (d = false) := HN.out (fun h => hop (by have := h.1 _ HMEM.out; unfold OkS at this; simp only at this; omega))
        have HO0 : Hid (okN op = false) := decide_eq_false hop
        have HO1 : Hid (opcN op = #[.string ⟨#[]⟩, .bool false, .bool false, .bool false, .bool false, .bool false, .nilFunc, .nilFunc]) := by
          show _ = _
          unfold opcN; rw [if_neg (by omega), if_neg (by omega), if_neg (by omega), if_neg (by omega), if_neg (by omega)]; rfl
        clear hop
        go_wp2_with fail
        refine Calls.mono (find_F op _) ?_
        rw [HO0.out, HO1.out]
        rintro e w2 ⟨rfl, hb2⟩
        have HB2 : Hid (Below w.heap.size w w2) := HB1.out.trans (hb2.mono HB1.out.size)
        clear hb2
        go_wp2
        go_ret
        exact ⟨by rw [HF.out]; rfl, HB2.out.alloc HB2.out.size _⟩
      obtain ⟨s, f, so, an, as9, ou, n, m, hO, hmm⟩ := op_some hop
      clear hmm
      have HO0 : Hid (okN op = true) := decide_eq_true hop
      have HO1 : Hid _ := hO.cells
      have HOU : Hid (ou = decide (op = 5)) := hO.ou
      have HFT : Hid _ := hO.fits il ol rg dst src c
      have hen := hO.en
      obtain ⟨k, hk⟩ : ∃ k, k = okSB il ol rg ⟨op, dst, src, c⟩ := ⟨_, rfl⟩
      have HK : Hid (k = okSB il ol rg ⟨op, dst, src, c⟩) := hk
      rw [← hk, ← HCV.out] at HFT
      clear hO hk
      go_wp2_with fail
      refine Calls.mono (find_F op _) ?_
      rw [HO0.out, HO1.out]
      rintro e w2 ⟨rfl, hb2⟩
      have HB2 : Hid (Below w.heap.size w w2) := HB1.out.trans (hb2.mono HB1.out.size)
      have HH2 : Hid _ := holds_later HH1.out hb2
      have hz2 : wr.heap.size < w2.heap.size := ltHeap (holds_at HH2.out 0 rfl)
      have HH3 : Hid _ := holds_new HH2.out #[.string s, .bool f, .bool so, .bool an, .bool as9, .bool ou, .func (.func n) #[] #[], .func (.func m) #[] #[]] 77
      have e0 := cellAt (holds_at HH3.out 3 rfl) 0 _ rfl
      have e1 := cellAt (holds_at HH3.out 3 rfl) 1 _ rfl
      have e2 := cellAt (holds_at HH3.out 3 rfl) 2 _ rfl
      have s0 := cellAt (holds_at HH3.out 1 rfl) 0 _ rfl
      have s1 := cellAt (holds_at HH3.out 1 rfl) 1 _ rfl
      have s2 := cellAt (holds_at HH3.out 1 rfl) 2 _ rfl
      have s3 := cellAt (holds_at HH3.out 1 rfl) 3 _ rfl
      clear hb2
      go_wp2_with fail
      refine Calls.mono (HFT.out _) ?_
      clear hen
      rintro e w3 ⟨rfl, hb3⟩
      have HB3 : Hid (Below w.heap.size w w3) := (HB2.out.alloc HB2.out.size _).trans (hb3.mono (by have := HB2.out.size; simp; omega))
      have HH4 : Hid _ := holds_later HH3.out hb3
      have hz3 : w2.heap.size < w3.heap.size := ltHeap (holds_at HH4.out 0 rfl)
      clear hb3 e0 e1 e2 s0 s1 s2 s3
      have o5 := cellAt (holds_at HH4.out 0 rfl) 5 _ rfl
      have s1 := cellAt (holds_at HH4.out 1 rfl) 1 _ rfl
      cases k
      · have HF : Hid (d = false) := HN.out (fun h => by
          have := h.1 _ HMEM.out
          rw [okSB_yes this] at HK
          exact absurd HK.out (by decide))
        go_wp2
        go_ret
        exact ⟨by rw [HF.out]; rfl, HB3.out⟩
      have HOKS : Hid (OkS il ol rg ⟨op, dst, src, c⟩) := by
        by_cases h : OkS il ol rg ⟨op, dst, src, c⟩
        · exact h
        · rw [okSB_no h] at HK; exact absurd HK.out (by decide)
      have HNX : Hid (∀ s ∈ ss.take (j + 1), OkS il ol rg s) := fun s hm => by
        rw [HTK.out, List.mem_append] at hm
        rcases hm with hm | hm
        · exact HOK.out s hm
        · rw [List.mem_singleton] at hm; subst hm; exact HOKS.out
      by_cases hop5 : op = 5
      rotate_left
      · have e5 : ou = false := by rw [HOU.out]; exact decide_eq_false hop5
        subst e5
        have HM9 : Hid (mdL ol (ss.take (j + 1)) = mdL ol (ss.take j)) := by show _ = _; rw [HTK.out, mdL_not hop5]
        have HC9 : Hid (∀ d : Nat, d < ol → cntO (ss.take (j + 1)) d ≤ 1) := fun q hq => by rw [HTK.out, cnt_not hop5]; exact HCN.out q hq
        clear hop5
        go_wp2
        exact ⟨⟨j + 1, by omega, by go_num, HB3.out, by rw [HM9.out]; exact fun i p hi => HH4.out (i + 2) p hi, HNX.out, HC9.out⟩, by simp [intOf]; omega⟩
      have e5 : ou = true := by rw [HOU.out]; exact decide_eq_true hop5
      subst e5
      have hdst : 0 ≤ dst ∧ dst < ol := by have := HOKS.out; unfold OkS at this; simp only at this; omega
      obtain ⟨q, rfl⟩ := Int.eq_ofNat_of_zero_le hdst.1
      have hq : q < ol := by omega
      have hmd := cellAt (holds_at HH4.out 2 rfl) q _ (visB_get (mdL_get hq))
      have hfz : w3.frozen? ⟨w.heap.size + 1 + 1, q, none⟩ = false := frozen_of_row _ _ _ _ _ (holds_at HH4.out 2 rfl)
      have HC5 : Hid (cntO (ss.take (j + 1)) q = cntO (ss.take j) q + 1) := by show _ = _; rw [HTK.out, cnt_out hop5 rfl]
      by_cases hc1 : 1 ≤ cntO (ss.take j) q
      · rw [decide_eq_true hc1] at hmd
        have HF : Hid (d = false) := HN.out (fun h => by
          have h1 := h.2 q hq
          have h2 := cnt_take ss (j + 1) q
          have h3 := HC5.out
          omega)
        clear hc1 hop5 hdst
        go_wp2
        go_ret
        exact ⟨by rw [HF.out]; rfl, HB3.out⟩
      · rw [decide_eq_false hc1] at hmd
        have HC9 : Hid (∀ d : Nat, d < ol → cntO (ss.take (j + 1)) d ≤ 1) := fun x hx => by
          by_cases e : x = q
          · subst e; rw [HC5.out]; omega
          · rw [HTK.out, cnt_other (by simp only; omega)]; exact HCN.out x hx
        have HS4 : Hid ((w3.setCell ⟨w.heap.size + 1 + 1, q, none⟩ (.bool true)).heap[w.heap.size + 1 + 1]? = some (.cells (visB (mdL ol (ss.take (j + 1)))) 4 (0, 0))) := by
          show _ = _
          rw [HTK.out, ← mdL_out hop5 rfl, ← visB_set]
          exact heap_setCell_same _ _ _ _ _ _ (holds_at HH4.out 2 rfl)
        have HS5 : Hid _ := (heap_setCell_other w3 ⟨w.heap.size + 1 + 1, q, none⟩ (w.heap.size + 1) (.bool true) (by show w.heap.size + 1 ≠ w.heap.size + 1 + 1; omega)).trans (holds_at HH4.out 3 rfl)
        have HS6 : Hid _ := (heap_setCell_other w3 ⟨w.heap.size + 1 + 1, q, none⟩ (w.heap.size) (.bool true) (by show w.heap.size ≠ w.heap.size + 1 + 1; omega)).trans (holds_at HH4.out 4 rfl)
        have HB6 : Hid _ := HB3.out.setCell (p := ⟨w.heap.size + 1 + 1, q, none⟩) (by show w.heap.size ≤ w.heap.size + 1 + 1; omega) (.bool true)
        clear hc1 hop5 hdst
        go_wp2
        exact ⟨⟨j + 1, by omega, by go_num, HB6.out, holds_cons (holds_cons (holds_cons (holds_nil _) HS6.out) HS5.out) HS4.out, HNX.out, HC9.out⟩, by simp [intOf]; omega⟩
    · obtain rfl : j = sl := by omega
      have hfull : ss.take j = ss := by rw [HSL.out, List.take_length]
      have hok := HOK.out
      have hcn := HCN.out
      have hh := HH.out
      rw [hfull] at hok hcn hh
      have HC : Hid _ := containsB_F (w.heap.size + 1 + 1) ol (mdL ol ss) wr (mdL_len _ _).symm (by omega) (holds_at hh 0 rfl)
      have HD : Hid (d = !decide (false ∈ mdL ol ss)) := by
        show _ = _
        by_cases hz : false ∈ mdL ol ss
        · rw [decide_eq_true hz]
          obtain ⟨q, hq, h0⟩ := mdL_all.1 hz
          exact HN.out (fun h => by have := h.2 q hq; omega)
        · rw [decide_eq_false hz]
          exact HY.out ⟨hok, fun q hq => by
            have h1 := hcn q hq
            rcases Nat.lt_or_ge (cntO ss q) 1 with h2 | h2
            · exact absurd (mdL_all.2 ⟨q, hq, by omega⟩) hz
            · omega⟩
      clear hfull hok hcn hh
      go_wp2_with fail
      refine Calls.mono HC.out ?_
      rintro e w2 ⟨rfl, rfl⟩
      go_wp2
      go_ret
      exact ⟨by rw [HD.out]; rfl, HB.out⟩
end Go.Proofs.YtoalbopcapgojabDoor
