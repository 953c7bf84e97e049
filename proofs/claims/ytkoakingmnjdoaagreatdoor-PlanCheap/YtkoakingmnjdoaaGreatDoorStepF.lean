/- What the document's own InForm answers, of all programs. -/
import Derived.Test.YtkoakingmnjdoaaGreatDoorStepR
import Derived.Deep.DeepCutAuto
namespace Go.Proofs.YtkoakingmnjdoaaGreatDoor
open Go.RowKit Gf
set_option linter.unusedVariables false
set_option maxRecDepth 20000
set_option linter.unusedSimpArgs false
/-- is a step in form, of so many inputs, outputs, registers -/
def OkS (ni no : Nat) (rg : Int) (s : Stp) : Prop :=
  (s.op = 1 ∧ (0 ≤ s.dst ∧ s.dst < rg) ∧ (0 ≤ s.src ∧ s.src < ni) ∧ (s.c.toNat : Int) = 0) ∨
  (s.op = 2 ∧ (0 ≤ s.dst ∧ s.dst < rg) ∧ s.src = 0 ∧ (s.c.toNat : Int) = 0) ∨
  (s.op = 3 ∧ (0 ≤ s.dst ∧ s.dst < rg) ∧ s.src = 0) ∨
  (s.op = 4 ∧ (0 ≤ s.dst ∧ s.dst < rg) ∧ (0 ≤ s.src ∧ s.src < rg)) ∨
  (s.op = 5 ∧ (0 ≤ s.dst ∧ s.dst < no) ∧ (0 ≤ s.src ∧ s.src < rg) ∧ (s.c.toNat : Int) = 0)
def cntO (ss : List Stp) (d : Nat) : Nat := ss.countP (fun s => s.op == 5 && s.dst == (d : Int))
def InF (ins outs : List Int) (rg : Int) (ss : List Stp) : Prop :=
  GoodH 32 ins ∧ GoodH 32 outs ∧ (0 ≤ rg ∧ rg ≤ 64) ∧ ss.length ≤ 4096 ∧ (∀ s ∈ ss, OkS ins.length outs.length rg s) ∧ ∀ d : Nat, d < outs.length → cntO ss d = 1
noncomputable def inFB (ins outs : List Int) (rg : Int) (ss : List Stp) : Bool := @decide (InF ins outs rg ss) (Classical.propDecidable _)
theorem inFB_yes {ins outs : List Int} {rg : Int} {ss : List Stp} (h : InF ins outs rg ss) : inFB ins outs rg ss = true := @decide_eq_true _ (Classical.propDecidable _) h
theorem inFB_no {ins outs : List Int} {rg : Int} {ss : List Stp} (h : ¬ InF ins outs rg ss) : inFB ins outs rg ss = false := @decide_eq_false _ (Classical.propDecidable _) h
def mkC (no : Nat) (ss : List Stp) : List Int := (List.range no).map fun d => ((cntO ss d : Nat) : Int)
theorem mkC_len (no : Nat) (ss : List Stp) : (mkC no ss).length = no := by simp [mkC]
theorem mkC_nil (no : Nat) : mkC no [] = zerosI no := by
  apply List.ext_getElem?
  intro i
  by_cases h : i < no <;> simp [mkC, zerosI, cntO, h]
theorem mkC_get {no d : Nat} {ss : List Stp} (h : d < no) : (mkC no ss)[d]? = some ((cntO ss d : Nat) : Int) := by simp [mkC, h]
theorem cntO_le (ss : List Stp) (d : Nat) : cntO ss d ≤ ss.length := List.countP_le_length
theorem mkC_not {no : Nat} {ss : List Stp} {s : Stp} (h : s.op ≠ 5) : mkC no (ss ++ [s]) = mkC no ss := by
  have : (s.op == 5) = false := by simpa using h
  simp [mkC, cntO, List.countP_append, this]
theorem mkC_out {no d : Nat} {ss : List Stp} {s : Stp} (h : s.op = 5) (hd : s.dst = d) : (mkC no ss).set d ((cntO ss d : Nat) + 1 : Int) = mkC no (ss ++ [s]) := by
  apply List.ext_getElem?
  intro i
  rw [List.getElem?_set]
  by_cases hi : i < no
  · rw [mkC_get hi, mkC_len]
    by_cases e : d = i
    · subst e
      rw [if_pos rfl, if_pos hi]
      have : cntO (ss ++ [s]) d = cntO ss d + 1 := by simp [cntO, List.countP_append, h, hd]
      rw [mkC_get hi, this]; simp
    · rw [if_neg e, mkC_get hi]
      have : cntO (ss ++ [s]) i = cntO ss i := by
        have e2 : ¬ (d : Int) = (i : Int) := by omega
        simp [cntO, List.countP_append, h, hd, e2]
      rw [this]
  · rw [List.getElem?_eq_none (by rw [mkC_len]; omega), List.getElem?_eq_none (by rw [mkC_len]; omega)]
    split
    · rw [if_neg (by rw [mkC_len]; omega)]
    · rfl
theorem vis_set (ns : List Int) (j : Nat) (x : Int) : (vis ns).setIfInBounds j (.int .i64 x) = vis (ns.set j x) := by
  apply Array.toList_inj.1
  simp [vis, List.map_set]
theorem run_makeI9 (n : Nat) (hn : n ≤ 17592186043904) (w : World) :
    (Instr.makeSlice 22 (.int .i64 (n : Int)) (.int .i64 (n : Int))).run Tryz.prog w = .ok (.slice (some ⟨w.heap.size, 0, none⟩) n n) (w.alloc (.cells (vis (zerosI n)) 3)) := by
  obtain ⟨i, hi, h1, h2, h3⟩ := infoI
  have := run_make (P := Tryz.prog) w 22 3 i _ Tryz.underlying22 hi h3 .i64 .i64 n n (by omega) (by omega) (by rw [h2]; omega) (by omega)
  rw [this, h1]
  simp only [Nat.mul_one, madeI, Int.toNat_natCast]
theorem goodH_len {n : Nat} {xs : List Int} (h : GoodH n xs) : xs.length ≤ n := by
  obtain ⟨ns, rfl, h1, h2⟩ := goodH_nats h
  rw [natJ8_len]
  exact pair_len h1 h2
set_option maxRecDepth 100000 in
set_option maxHeartbeats 16000000 in
theorem inForm_F (ia oa sa : Option Addr) (il ic ol oc sl sc : Nat) (ins outs : List Int) (rg : Int) (ss : List Stp) (w : World) (hil : il = ins.length) (hol : ol = outs.length) (hsl : sl = ss.length)
    (hi9 : il ≤ 4611686018427387904) (ho9 : ol ≤ 4611686018427387904) (hs9 : sl ≤ 4611686018427387904) (hic : il ≤ ic) (hoc : ol ≤ oc) (hI : RowI w ia ins) (hO : RowI w oa outs) (hS : StpW w sa ss) :
    Calls Tryz.prog 38 #[.agg #[.slice ia il ic, .slice oa ol oc, .int .i64 rg, .slice sa sl sc]] w fun e w' => e = .returned (.bool (inFB ins outs rg ss)) ∧ Below w.heap.size w w' := by
  obtain ⟨d, hd⟩ : ∃ d, d = inFB ins outs rg ss := ⟨_, rfl⟩
  have HY : Hid (InF ins outs rg ss → d = true) := fun h => hd.trans (inFB_yes h)
  have HN : Hid (¬ InF ins outs rg ss → d = false) := fun h => hd.trans (inFB_no h)
  rw [← hd]
  clear hd
  have HIL : Hid (il = ins.length) := hil
  have HOL : Hid (ol = outs.length) := hol
  have HSL : Hid (sl = ss.length) := hsl
  have HI : Hid (RowI w ia ins) := hI
  have HO : Hid (RowI w oa outs) := hO
  have HS : Hid (StpW w sa ss) := hS
  obtain ⟨PB, hPB⟩ : ∃ PB : Array Value, PB = #[.slice ia il ic, .slice oa ol oc, .int .i64 rg, .slice sa sl sc] := ⟨_, rfl⟩
  have HPB : Hid (PB = #[.slice ia il ic, .slice oa ol oc, .int .i64 rg, .slice sa sl sc]) := hPB
  have HA0 : Hid (Below w.heap.size w (w.alloc (.cells #[.slice ia il ic, .slice oa ol oc, .int .i64 rg, .slice sa sl sc] 30))) := (Below.refl w.heap.size w).alloc (Nat.le_refl _) _
  have HK0 : Hid ((w.alloc (.cells #[.slice ia il ic, .slice oa ol oc, .int .i64 rg, .slice sa sl sc] 30)).heap[w.heap.size]? = some (.cells #[.slice ia il ic, .slice oa ol oc, .int .i64 rg, .slice sa sl sc] 30 (0, 0))) := heap_alloc_last _ _
  clear hil hol hsl hI hO hS hPB
  go_enter Tryz.func38, Tryz.ntmps38
  go_wp2_with fail
  refine Calls.mono (Prg.rlists_F il ic ia ins _ HIL.out hi9 hic (rowI_below HI.out HA0.out)) ?_
  by_cases h1 : GoodH 32 ins
  rotate_left
  · have HF : Hid (d = false) := HN.out (fun h => h1 h.1)
    rw [Prg.goodB_no h1]
    rintro e w1 ⟨rfl, rfl⟩
    clear h1
    go_wp2
    go_ret
    exact ⟨by rw [HF.out]; rfl, HA0.out⟩
  rw [Prg.goodB_yes h1]
  rintro e w1 ⟨rfl, rfl⟩
  have H1 : Hid (GoodH 32 ins) := h1
  clear h1
  go_wp2_with fail
  refine Calls.mono (Prg.rlists_F ol oc oa outs _ HOL.out ho9 hoc (rowI_below HO.out HA0.out)) ?_
  by_cases h2 : GoodH 32 outs
  rotate_left
  · have HF : Hid (d = false) := HN.out (fun h => h2 h.2.1)
    rw [Prg.goodB_no h2]
    rintro e w1 ⟨rfl, rfl⟩
    clear h2
    go_wp2
    go_ret
    exact ⟨by rw [HF.out]; rfl, HA0.out⟩
  rw [Prg.goodB_yes h2]
  rintro e w1 ⟨rfl, rfl⟩
  have H2 : Hid (GoodH 32 outs) := h2
  have hol32 : ol ≤ 32 := by rw [HOL.out]; exact goodH_len h2
  clear h2
  by_cases n1 : rg < 0
  · have HF : Hid (d = false) := HN.out (fun h => by have := h.2.2.1; omega)
    go_wp2
    go_ret
    exact ⟨by rw [HF.out]; rfl, HA0.out⟩
  by_cases n2 : 64 < rg
  · have HF : Hid (d = false) := HN.out (fun h => by have := h.2.2.1; omega)
    go_wp2
    go_ret
    exact ⟨by rw [HF.out]; rfl, HA0.out⟩
  by_cases n3 : 4096 < sl
  · have HF : Hid (d = false) := HN.out (fun h => by have := h.2.2.2.1; rw [← HSL.out] at this; omega)
    go_wp2
    go_ret
    exact ⟨by rw [HF.out]; rfl, HA0.out⟩
  have hmk := run_makeI9 ol (by omega) (w.alloc (.cells #[.slice ia il ic, .slice oa ol oc, .int .i64 rg, .slice sa sl sc] 30))
  have HM0 : Hid (((w.alloc (.cells #[.slice ia il ic, .slice oa ol oc, .int .i64 rg, .slice sa sl sc] 30)).alloc (.cells (vis (zerosI ol)) 3)).heap[w.heap.size + 1]? = some (.cells (vis (zerosI ol)) 3 (0, 0))) := by
    have := heap_alloc_last (w.alloc (.cells #[.slice ia il ic, .slice oa ol oc, .int .i64 rg, .slice sa sl sc] 30)) (.cells (vis (zerosI ol)) 3)
    rw [World.size_alloc] at this
    exact this
  have HA1 : Hid (Below w.heap.size w ((w.alloc (.cells #[.slice ia il ic, .slice oa ol oc, .int .i64 rg, .slice sa sl sc] 30)).alloc (.cells (vis (zerosI ol)) 3))) := HA0.out.alloc (by simp) _
  have HK1 : Hid (((w.alloc (.cells #[.slice ia il ic, .slice oa ol oc, .int .i64 rg, .slice sa sl sc] 30)).alloc (.cells (vis (zerosI ol)) 3)).heap[w.heap.size]? = some (.cells #[.slice ia il ic, .slice oa ol oc, .int .i64 rg, .slice sa sl sc] 30 (0, 0))) := heap_later HK0.out ((Below.refl _ _).alloc (Nat.le_refl _) _)
  have n4 : 0 ≤ rg ∧ rg ≤ 64 := by omega
  have n5 : sl ≤ 4096 := by omega
  clear n1 n2 n3
  obtain ⟨n1, n2⟩ := n4
  go_wp2
  clear hmk
  go_loopw [44] (fun i wr => ∃ j : Nat, j ≤ sl ∧ i = .int .i64 j ∧ Below w.heap.size w wr ∧ wr.heap[w.heap.size]? = some (.cells #[.slice ia il ic, .slice oa ol oc, .int .i64 rg, .slice sa sl sc] 30 (0, 0)) ∧
    wr.heap[w.heap.size + 1]? = some (.cells (vis (mkC ol (ss.take j))) 3 (0, 0)) ∧ ∀ s ∈ ss.take j, OkS ins.length outs.length rg s) (fun i _ => sl - (intOf i).toNat)
  case atStart => exact ⟨0, by omega, rfl, HA1.out, HK1.out, by rw [List.take_zero, mkC_nil]; exact HM0.out, fun s h => by rw [List.take_zero] at h; cases h⟩
  case round =>
    obtain ⟨j, hj, rfl, hb, hk, hm, hok⟩ := hrel
    have HB : Hid (Below w.heap.size w wr) := hb
    have HK : Hid (wr.heap[w.heap.size]? = some (.cells #[.slice ia il ic, .slice oa ol oc, .int .i64 rg, .slice sa sl sc] 30 (0, 0))) := hk
    have HMk : Hid (wr.heap[w.heap.size + 1]? = some (.cells (vis (mkC ol (ss.take j))) 3 (0, 0))) := hm
    have HOK : Hid (∀ s ∈ ss.take j, OkS ins.length outs.length rg s) := hok
    clear hb hk hm hok
    by_cases hlt : j < sl
    · have hjs : j < ss.length := by rw [← HSL.out]; exact hlt
      obtain ⟨b, off, rfl, hc⟩ := stpW_get (stpW_below HS.out HB.out) hjs
      obtain ⟨c0, c1, c2, c3⟩ := hc j hjs
      obtain ⟨⟨op, dst, src, c⟩, hs⟩ : ∃ s, ss[j] = s := ⟨_, rfl⟩
      rw [hs] at c0 c1 c2 c3
      have hget : ss[j]? = some ⟨op, dst, src, c⟩ := by rw [List.getElem?_eq_getElem hjs, hs]
      have htk : ss.take (j + 1) = ss.take j ++ [⟨op, dst, src, c⟩] := by rw [List.take_add_one, hget]; rfl
      have HBAD : Hid (¬ OkS ol ol rg ⟨op, dst, src, c⟩ → True) := fun _ => trivial
      have HNO : Hid (¬ OkS il ol rg ⟨op, dst, src, c⟩ → d = false) := fun h => HN.out (fun hf => h (by rw [HIL.out, HOL.out]; exact hf.2.2.2.2.1 _ (List.mem_of_getElem? hget)))
      have HNX : Hid (OkS il ol rg ⟨op, dst, src, c⟩ → ∀ s ∈ ss.take (j + 1), OkS ins.length outs.length rg s) := fun h s hm => by
        rw [htk, List.mem_append] at hm
        rcases hm with hm | hm
        · exact HOK.out s hm
        · rw [List.mem_singleton] at hm; subst hm; rw [← HIL.out, ← HOL.out]; exact h
      have HMN : Hid (op ≠ 5 → mkC ol (ss.take (j + 1)) = mkC ol (ss.take j)) := fun h => by rw [htk]; exact mkC_not h
      have HMO : Hid (∀ q : Nat, op = 5 → dst = q → (mkC ol (ss.take j)).set q ((cntO (ss.take j) q : Nat) + 1 : Int) = mkC ol (ss.take (j + 1))) := fun q h1 h2 => by rw [htk]; exact mkC_out h1 h2
      have HJ5 : Hid ((ss.take j).length = j) := by show _ = _; rw [List.length_take]; omega
      have hj5 : j < 4096 := by omega
      clear hc hs hget htk hjs HBAD
      obtain ⟨cv, hcv⟩ : ∃ cv : Int, cv = (c.toNat : Int) := ⟨_, rfl⟩
      rw [← hcv] at c3
      have HCV : Hid (cv = (c.toNat : Int)) := hcv
      clear hcv
      have HK9 : Hid (∀ o, (wr.alloc o).heap[w.heap.size]? = some (.cells #[.slice ia il ic, .slice oa ol oc, .int .i64 rg, .slice (some ⟨b, off, none⟩) sl sc] 30 (0, 0))) := fun o => heap_later HK.out ((Below.refl _ _).alloc (Nat.le_refl _) _)
      have k0 : ∀ o, (wr.alloc o).cell? ⟨w.heap.size, 0, none⟩ = some (.slice ia il ic) := fun o => cellAt (HK9.out o) 0 _ rfl
      have k1 : ∀ o, (wr.alloc o).cell? ⟨w.heap.size, 1, none⟩ = some (.slice oa ol oc) := fun o => cellAt (HK9.out o) 1 _ rfl
      have k2 : ∀ o, (wr.alloc o).cell? ⟨w.heap.size, 2, none⟩ = some (.int .i64 rg) := fun o => cellAt (HK9.out o) 2 _ rfl
      obtain ⟨d1, hd1⟩ : ∃ d1, d1 = decide (0 ≤ dst ∧ dst < rg) := ⟨_, rfl⟩
      obtain ⟨d2, hd2⟩ : ∃ d2, d2 = decide (0 ≤ src ∧ src < rg) := ⟨_, rfl⟩
      have HD1 : Hid (d1 = decide (0 ≤ dst ∧ dst < rg)) := hd1
      have HD2 : Hid (d2 = decide (0 ≤ src ∧ src < rg)) := hd2
      clear hd1 hd2
      go_upto_region 7 with fail
      go_cut [6] (fun s wx => s = .bool d1 ∧ wr.alloc (.cells #[.int .i64 op, .int .i64 dst, .int .i64 src, .int .u8 cv] 105) = wx)
      case first =>
        by_cases q1 : 0 ≤ dst
        · by_cases q2 : dst < rg
          · have e : d1 = true := by rw [HD1.out]; exact decide_eq_true ⟨q1, q2⟩
            go_wp2
            go_meet
            exact ⟨by rw [e], rfl⟩
          · have e : d1 = false := by rw [HD1.out]; exact decide_eq_false (fun h => q2 h.2)
            go_wp2
            go_meet
            exact ⟨by rw [e], rfl⟩
        · have e : d1 = false := by rw [HD1.out]; exact decide_eq_false (fun h => q1 h.1)
          go_wp2
          go_meet
          exact ⟨by rw [e], rfl⟩
      case rest =>
      obtain ⟨rfl, rfl⟩ := hcut
      go_upto_region 8 with fail
      go_cut [7] (fun s wx => s = .bool d2 ∧ wr.alloc (.cells #[.int .i64 op, .int .i64 dst, .int .i64 src, .int .u8 cv] 105) = wx)
      case first =>
        by_cases q1 : 0 ≤ src
        · by_cases q2 : src < rg
          · have e : d2 = true := by rw [HD2.out]; exact decide_eq_true ⟨q1, q2⟩
            go_wp2
            go_meet
            exact ⟨by rw [e], rfl⟩
          · have e : d2 = false := by rw [HD2.out]; exact decide_eq_false (fun h => q2 h.2)
            go_wp2
            go_meet
            exact ⟨by rw [e], rfl⟩
        · have e : d2 = false := by rw [HD2.out]; exact decide_eq_false (fun h => q1 h.1)
          go_wp2
          go_meet
          exact ⟨by rw [e], rfl⟩
      case rest =>
      obtain ⟨rfl, rfl⟩ := hcut
      by_cases w1 : op = 1
      · subst w1
        cases d1
        · have HE : Hid (¬ (0 ≤ dst ∧ dst < rg)) := by
            have h9 := HD1.out
            exact of_decide_eq_false h9.symm
          have HF : Hid (d = false) := HNO.out (fun h => by
            unfold OkS at h
            simp only at h
            have x0 := HE.out
            have x1 := HCV.out
            omega)
          go_wp2
          go_ret
          exact ⟨by rw [HF.out]; rfl, HB.out.alloc HB.out.size _⟩
        · have HE1 : Hid (0 ≤ dst ∧ dst < rg) := by
            have h9 := HD1.out
            exact of_decide_eq_true (p := 0 ≤ dst ∧ dst < rg) h9.symm
          by_cases y1 : src < 0
          · have HF : Hid (d = false) := HNO.out (fun h => by
              unfold OkS at h
              simp only at h
              have x0 := y1
              have x1 := HCV.out
              omega)
            go_wp2
            go_ret
            exact ⟨by rw [HF.out]; rfl, HB.out.alloc HB.out.size _⟩
          by_cases y2 : (il : Int) ≤ src
          · have HF : Hid (d = false) := HNO.out (fun h => by
              unfold OkS at h
              simp only at h
              have x0 := y2
              have x1 := HCV.out
              omega)
            go_wp2
            go_ret
            exact ⟨by rw [HF.out]; rfl, HB.out.alloc HB.out.size _⟩
          have y3 : 0 ≤ src := by omega
          have y4 : src < (il : Int) := by omega
          clear y1 y2
          by_cases z2 : cv = 0
          rotate_left
          · have zz2 : (cv == 0) = false := beq_eq_false_iff_ne.2 z2
            have HZ2 : Hid (cv ≠ 0) := z2
            clear z2
            have HF : Hid (d = false) := HNO.out (fun h => by
              unfold OkS at h
              simp only at h
              have x0 := HZ2.out
              have x1 := HCV.out
              omega)
            go_wp2
            go_ret
            exact ⟨by rw [HF.out]; rfl, HB.out.alloc HB.out.size _⟩
          · subst z2
            have HG : Hid _ := HNX.out (by
              unfold OkS
              simp only [true_and, and_true, false_and, or_false, false_or]
              have x0 := HE1.out
              have x1 := y3
              have x2 := y4
              have x3 := HCV.out
              omega)
            have HM9 : Hid ((wr.alloc (.cells #[.int .i64 1, .int .i64 dst, .int .i64 src, .int .u8 0] 105)).heap[w.heap.size + 1]? = some (.cells (vis (mkC ol (ss.take (j + 1)))) 3 (0, 0))) := by
              have := heap_later HMk.out ((Below.refl _ _).alloc (Nat.le_refl _) (.cells #[.int .i64 1, .int .i64 dst, .int .i64 src, .int .u8 0] 105))
              rw [HMN.out (by decide)]
              exact this
            go_wp2
            exact ⟨⟨j + 1, by omega, by go_num, HB.out.alloc HB.out.size _, HK9.out _, HM9.out, HG.out⟩, by simp [intOf]; omega⟩
      by_cases w2 : op = 2
      · subst w2
        cases d1
        · have HE : Hid (¬ (0 ≤ dst ∧ dst < rg)) := by
            have h9 := HD1.out
            exact of_decide_eq_false h9.symm
          have HF : Hid (d = false) := HNO.out (fun h => by
            unfold OkS at h
            simp only at h
            have x0 := HE.out
            have x1 := HCV.out
            omega)
          go_wp2
          go_ret
          exact ⟨by rw [HF.out]; rfl, HB.out.alloc HB.out.size _⟩
        · have HE1 : Hid (0 ≤ dst ∧ dst < rg) := by
            have h9 := HD1.out
            exact of_decide_eq_true (p := 0 ≤ dst ∧ dst < rg) h9.symm
          by_cases z1 : src = 0
          rotate_left
          · have zz : (src == 0) = false := beq_eq_false_iff_ne.2 z1
            have HZ : Hid (src ≠ 0) := z1
            clear z1
            have HF : Hid (d = false) := HNO.out (fun h => by
              unfold OkS at h
              simp only at h
              have x0 := HZ.out
              have x1 := HCV.out
              omega)
            go_wp2
            go_ret
            exact ⟨by rw [HF.out]; rfl, HB.out.alloc HB.out.size _⟩
          · subst z1
            by_cases z2 : cv = 0
            rotate_left
            · have zz2 : (cv == 0) = false := beq_eq_false_iff_ne.2 z2
              have HZ2 : Hid (cv ≠ 0) := z2
              clear z2
              have HF : Hid (d = false) := HNO.out (fun h => by
                unfold OkS at h
                simp only at h
                have x0 := HZ2.out
                have x1 := HCV.out
                omega)
              go_wp2
              go_ret
              exact ⟨by rw [HF.out]; rfl, HB.out.alloc HB.out.size _⟩
            · subst z2
              have HG : Hid _ := HNX.out (by
                unfold OkS
                simp only [true_and, and_true, false_and, or_false, false_or]
                have x0 := HE1.out
                have x1 := HCV.out
                omega)
              have HM9 : Hid ((wr.alloc (.cells #[.int .i64 2, .int .i64 dst, .int .i64 0, .int .u8 0] 105)).heap[w.heap.size + 1]? = some (.cells (vis (mkC ol (ss.take (j + 1)))) 3 (0, 0))) := by
                have := heap_later HMk.out ((Below.refl _ _).alloc (Nat.le_refl _) (.cells #[.int .i64 2, .int .i64 dst, .int .i64 0, .int .u8 0] 105))
                rw [HMN.out (by decide)]
                exact this
              go_wp2
              exact ⟨⟨j + 1, by omega, by go_num, HB.out.alloc HB.out.size _, HK9.out _, HM9.out, HG.out⟩, by simp [intOf]; omega⟩
      by_cases w3 : op = 3
      · subst w3
        cases d1
        · have HE : Hid (¬ (0 ≤ dst ∧ dst < rg)) := by
            have h9 := HD1.out
            exact of_decide_eq_false h9.symm
          have HF : Hid (d = false) := HNO.out (fun h => by
            unfold OkS at h
            simp only at h
            have x0 := HE.out
            have x1 := HCV.out
            omega)
          go_wp2
          go_ret
          exact ⟨by rw [HF.out]; rfl, HB.out.alloc HB.out.size _⟩
        · have HE1 : Hid (0 ≤ dst ∧ dst < rg) := by
            have h9 := HD1.out
            exact of_decide_eq_true (p := 0 ≤ dst ∧ dst < rg) h9.symm
          by_cases z1 : src = 0
          rotate_left
          · have zz : (src == 0) = false := beq_eq_false_iff_ne.2 z1
            have HZ : Hid (src ≠ 0) := z1
            clear z1
            have HF : Hid (d = false) := HNO.out (fun h => by
              unfold OkS at h
              simp only at h
              have x0 := HZ.out
              have x1 := HCV.out
              omega)
            go_wp2
            go_ret
            exact ⟨by rw [HF.out]; rfl, HB.out.alloc HB.out.size _⟩
          · subst z1
            have HG : Hid _ := HNX.out (by
              unfold OkS
              simp only [true_and, and_true, false_and, or_false, false_or]
              have x0 := HE1.out
              have x1 := HCV.out
              omega)
            have HM9 : Hid ((wr.alloc (.cells #[.int .i64 3, .int .i64 dst, .int .i64 0, .int .u8 cv] 105)).heap[w.heap.size + 1]? = some (.cells (vis (mkC ol (ss.take (j + 1)))) 3 (0, 0))) := by
              have := heap_later HMk.out ((Below.refl _ _).alloc (Nat.le_refl _) (.cells #[.int .i64 3, .int .i64 dst, .int .i64 0, .int .u8 cv] 105))
              rw [HMN.out (by decide)]
              exact this
            go_wp2
            exact ⟨⟨j + 1, by omega, by go_num, HB.out.alloc HB.out.size _, HK9.out _, HM9.out, HG.out⟩, by simp [intOf]; omega⟩
      by_cases w4 : op = 4
      · subst w4
        cases d1
        · have HE : Hid (¬ (0 ≤ dst ∧ dst < rg)) := by
            have h9 := HD1.out
            exact of_decide_eq_false h9.symm
          have HF : Hid (d = false) := HNO.out (fun h => by
            unfold OkS at h
            simp only at h
            have x0 := HE.out
            have x1 := HCV.out
            omega)
          go_wp2
          go_ret
          exact ⟨by rw [HF.out]; rfl, HB.out.alloc HB.out.size _⟩
        · have HE1 : Hid (0 ≤ dst ∧ dst < rg) := by
            have h9 := HD1.out
            exact of_decide_eq_true (p := 0 ≤ dst ∧ dst < rg) h9.symm
          cases d2
          · have HE : Hid (¬ (0 ≤ src ∧ src < rg)) := by
              have h9 := HD2.out
              exact of_decide_eq_false h9.symm
            have HF : Hid (d = false) := HNO.out (fun h => by
              unfold OkS at h
              simp only at h
              have x0 := HE.out
              have x1 := HCV.out
              omega)
            go_wp2
            go_ret
            exact ⟨by rw [HF.out]; rfl, HB.out.alloc HB.out.size _⟩
          · have HE2 : Hid (0 ≤ src ∧ src < rg) := by
              have h9 := HD2.out
              exact of_decide_eq_true (p := 0 ≤ src ∧ src < rg) h9.symm
            have HG : Hid _ := HNX.out (by
              unfold OkS
              simp only [true_and, and_true, false_and, or_false, false_or]
              have x0 := HE1.out
              have x1 := HE2.out
              have x2 := HCV.out
              omega)
            have HM9 : Hid ((wr.alloc (.cells #[.int .i64 4, .int .i64 dst, .int .i64 src, .int .u8 cv] 105)).heap[w.heap.size + 1]? = some (.cells (vis (mkC ol (ss.take (j + 1)))) 3 (0, 0))) := by
              have := heap_later HMk.out ((Below.refl _ _).alloc (Nat.le_refl _) (.cells #[.int .i64 4, .int .i64 dst, .int .i64 src, .int .u8 cv] 105))
              rw [HMN.out (by decide)]
              exact this
            go_wp2
            exact ⟨⟨j + 1, by omega, by go_num, HB.out.alloc HB.out.size _, HK9.out _, HM9.out, HG.out⟩, by simp [intOf]; omega⟩
      by_cases w5 : op = 5
      · subst w5
        cases d2
        · have HE : Hid (¬ (0 ≤ src ∧ src < rg)) := by
            have h9 := HD2.out
            exact of_decide_eq_false h9.symm
          have HF : Hid (d = false) := HNO.out (fun h => by
            unfold OkS at h
            simp only at h
            have x0 := HE.out
            have x1 := HCV.out
            omega)
          go_wp2
          go_ret
          exact ⟨by rw [HF.out]; rfl, HB.out.alloc HB.out.size _⟩
        · have HE2 : Hid (0 ≤ src ∧ src < rg) := by
            have h9 := HD2.out
            exact of_decide_eq_true (p := 0 ≤ src ∧ src < rg) h9.symm
          by_cases y1 : dst < 0
          · have HF : Hid (d = false) := HNO.out (fun h => by
              unfold OkS at h
              simp only at h
              have x0 := y1
              have x1 := HCV.out
              omega)
            go_wp2
            go_ret
            exact ⟨by rw [HF.out]; rfl, HB.out.alloc HB.out.size _⟩
          by_cases y2 : (ol : Int) ≤ dst
          · have HF : Hid (d = false) := HNO.out (fun h => by
              unfold OkS at h
              simp only at h
              have x0 := y2
              have x1 := HCV.out
              omega)
            go_wp2
            go_ret
            exact ⟨by rw [HF.out]; rfl, HB.out.alloc HB.out.size _⟩
          have y3 : 0 ≤ dst := by omega
          have y4 : dst < (ol : Int) := by omega
          clear y1 y2
          by_cases z2 : cv = 0
          rotate_left
          · have zz2 : (cv == 0) = false := beq_eq_false_iff_ne.2 z2
            have HZ2 : Hid (cv ≠ 0) := z2
            clear z2
            have HF : Hid (d = false) := HNO.out (fun h => by
              unfold OkS at h
              simp only at h
              have x0 := HZ2.out
              have x1 := HCV.out
              omega)
            go_wp2
            go_ret
            exact ⟨by rw [HF.out]; rfl, HB.out.alloc HB.out.size _⟩
          · subst z2
            obtain ⟨q, rfl⟩ := Int.eq_ofNat_of_zero_le y3
            have hq : q < ol := by omega
            have HG : Hid _ := HNX.out (by
              unfold OkS
              simp only [true_and, and_true, false_and, or_false, false_or]
              have x0 := HE2.out
              have x1 := HCV.out
              omega)
            have hM9 : (wr.alloc (.cells #[.int .i64 5, .int .i64 (q : Int), .int .i64 src, .int .u8 0] 105)).heap[w.heap.size + 1]? = some (.cells (vis (mkC ol (ss.take j))) 3 (0, 0)) := heap_later HMk.out ((Below.refl _ _).alloc (Nat.le_refl _) _)
            have kM := cellAt hM9 q _ (vis_get (mkC_get (ss := ss.take j) hq))
            have fM : (wr.alloc (.cells #[.int .i64 5, .int .i64 (q : Int), .int .i64 src, .int .u8 0] 105)).frozen? ⟨w.heap.size + 1, q, none⟩ = false := frozen_of_row _ _ _ _ _ hM9
            have hcl := cntO_le (ss.take j) q
            rw [HJ5.out] at hcl
            have HO5 : Hid _ := HMO.out q rfl rfl
            obtain ⟨x, hx⟩ : ∃ x, x = cntO (ss.take j) q := ⟨_, rfl⟩
            rw [← hx] at kM hcl
            have HX : Hid (x = cntO (ss.take j) q) := hx
            have HR : Hid (((wr.alloc (.cells #[.int .i64 5, .int .i64 (q : Int), .int .i64 src, .int .u8 0] 105)).setCell ⟨w.heap.size + 1, q, none⟩ (.int .i64 ((x : Int) + 1))).heap[w.heap.size + 1]? = some (.cells (vis (mkC ol (ss.take (j + 1)))) 3 (0, 0))) := by
              rw [← HO5.out, ← HX.out, ← vis_set]
              exact heap_setCell_same _ _ _ _ _ _ hM9
            have HP : Hid (((wr.alloc (.cells #[.int .i64 5, .int .i64 (q : Int), .int .i64 src, .int .u8 0] 105)).setCell ⟨w.heap.size + 1, q, none⟩ (.int .i64 ((x : Int) + 1))).heap[w.heap.size]? = some (.cells #[.slice ia il ic, .slice oa ol oc, .int .i64 rg, .slice (some ⟨b, off, none⟩) sl sc] 30 (0, 0))) :=
              (heap_setCell_other _ _ _ _ (by show w.heap.size ≠ w.heap.size + 1; omega)).trans (HK9.out _)
            clear hM9 hx
            go_wp2
            exact ⟨⟨j + 1, by omega, by go_num, (HB.out.alloc HB.out.size _).setCell (p := ⟨w.heap.size + 1, q, none⟩) (by show w.heap.size ≤ w.heap.size + 1; omega) _, HP.out, HR.out, HG.out⟩, by simp [intOf]; omega⟩
      have HW : Hid (op ≠ 1 ∧ op ≠ 2 ∧ op ≠ 3 ∧ op ≠ 4 ∧ op ≠ 5) := ⟨w1, w2, w3, w4, w5⟩
      have v1 : (op == 1) = false := beq_eq_false_iff_ne.2 w1
      have v2 : (op == 2) = false := beq_eq_false_iff_ne.2 w2
      have v3 : (op == 3) = false := beq_eq_false_iff_ne.2 w3
      have v4 : (op == 4) = false := beq_eq_false_iff_ne.2 w4
      have v5 : (op == 5) = false := beq_eq_false_iff_ne.2 w5
      clear w1 w2 w3 w4 w5
      have HF : Hid (d = false) := HNO.out (fun h => by
        unfold OkS at h
        simp only at h
        have x0 := HW.out
        have x1 := HCV.out
        omega)
      go_wp2
      go_ret
      exact ⟨by rw [HF.out]; rfl, HB.out.alloc HB.out.size _⟩
    · obtain rfl : j = sl := by omega
      have HOKA : Hid (∀ s ∈ ss, OkS ins.length outs.length rg s) := by have := HOK.out; rwa [HSL.out, List.take_length] at this
      have HMA : Hid (wr.heap[w.heap.size + 1]? = some (.cells (vis (mkC ol ss)) 3 (0, 0))) := by have := HMk.out; rwa [HSL.out, List.take_length] at this
      clear hlt HOK HMk
      go_wp2
      obtain ⟨wo, hwo⟩ : ∃ wo, wo = wr := ⟨_, rfl⟩
      subst hwo
      go_loopw [152] (fun i wr => ∃ q : Nat, q ≤ ol ∧ i = .int .i64 q ∧ wr = wo ∧ ∀ x, x < q → cntO ss x = 1) (fun i _ => ol - (intOf i).toNat)
      case atStart => exact ⟨0, by omega, rfl, rfl, fun x h => by omega⟩
      case round =>
        obtain ⟨q, hq, rfl, rfl, hall⟩ := hrel
        have HALL : Hid (∀ x, x < q → cntO ss x = 1) := hall
        clear hall
        by_cases hql : q < ol
        · have kM := cellAt HMA.out q _ (vis_get (mkC_get (ss := ss) hql))
          obtain ⟨x, hx⟩ : ∃ x, x = cntO ss q := ⟨_, rfl⟩
          rw [← hx] at kM
          by_cases h1 : x = 1
          · have HNX : Hid (∀ y, y < q + 1 → cntO ss y = 1) := fun y hy => by
              by_cases e : y = q
              · rw [e, ← hx, h1]
              · exact HALL.out y (by omega)
            subst h1
            clear hx
            go_wp2
            exact ⟨⟨q + 1, by omega, by go_num, by first | rfl | trivial, HNX.out⟩, by simp [intOf]; omega⟩
          · have HF : Hid (d = false) := HN.out (fun h => h1 (hx.trans (h.2.2.2.2.2 q (by rw [← HOL.out]; exact hql))))
            have hne : ((x : Int) != 1) = true := by rw [bne_iff_ne]; omega
            clear hx h1
            go_wp2
            go_ret
            exact ⟨by rw [HF.out]; rfl, HB.out⟩
        · obtain rfl : q = ol := by omega
          have HT : Hid (d = true) := HY.out ⟨H1.out, H2.out, ⟨n1, n2⟩, by rw [← HSL.out]; exact n5, HOKA.out, fun x hx => HALL.out x (by rw [HOL.out]; exact hx)⟩
          go_wp2
          go_ret
          exact ⟨by rw [HT.out]; rfl, HB.out⟩
end Go.Proofs.YtkoakingmnjdoaaGreatDoor
