/- What Check of package prog answers, of all programs. -/
import Derived.Test.YtoalbopcapgojabDoorStepD
import Derived.Test.YtoalbopcapgojabDoorErrs
namespace Go.Proofs.YtoalbopcapgojabDoor
open Go.RowKit Gf
set_option linter.unusedVariables false
set_option maxRecDepth 20000
set_option linter.unusedSimpArgs false
theorem inF_iff {ins outs : List Int} {rg : Int} {ss : List Stp} (h1 : GoodH 32 ins) (h2 : GoodH 32 outs) (h3 : 0 ≤ rg ∧ rg ≤ 64) (h4 : ss.length ≤ 4096) : InF ins outs rg ss ↔ FitA ins.length outs.length rg ss :=
  ⟨fun h => ⟨h.2.2.2.2.1, h.2.2.2.2.2⟩, fun h => ⟨h1, h2, h3, h4, h.1, h.2⟩⟩
set_option maxRecDepth 100000 in
set_option maxHeartbeats 8000000 in
theorem pcheck_F (ia oa sa : Option Addr) (il ic ol oc sl sc : Nat) (ins outs : List Int) (rg : Int) (ss : List Stp) (w : World) (s : Addr) (hP : PrgW w ia oa sa il ic ol oc sl sc ins outs ss) (hs : w.cell? ⟨5, 0, none⟩ = some (errAt s)) :
    Calls Tryd.prog 21 #[.agg #[.slice ia il ic, .slice oa ol oc, .int .i64 rg, .slice sa sl sc]] w fun e w' => ((InF ins outs rg ss ∧ e = .returned .nilIface) ∨ (¬ InF ins outs rg ss ∧ e = .returned (errAt s))) ∧ Below w.heap.size w w' := by
  have HP0 : Hid _ := hP
  have hI := hP.eil
  have hO := hP.eol
  have hS := hP.esl
  have hi9 := hP.i9; have ho9 := hP.o9; have hs9 := hP.s9
  have hcil := hP.cil; have hcol := hP.col; have hcsl := hP.csl
  have HIL : Hid (il = ins.length) := hI
  have HOL : Hid (ol = outs.length) := hO
  have HSL : Hid (sl = ss.length) := hS
  have HP : Hid (PrgW (w.alloc (.cells #[.slice ia il ic, .slice oa ol oc, .int .i64 rg, .slice sa sl sc] 25)) ia oa sa il ic ol oc sl sc ins outs ss) := hP.below ((Below.refl _ _).alloc (Nat.le_refl _) _)
  have HA0 : Hid (Below w.heap.size w (w.alloc (.cells #[.slice ia il ic, .slice oa ol oc, .int .i64 rg, .slice sa sl sc] 25))) := (Below.refl w.heap.size w).alloc (Nat.le_refl _) _
  have hs1 := cell?_alloc_old (.cells #[.slice ia il ic, .slice oa ol oc, .int .i64 rg, .slice sa sl sc] 25) hs
  unfold errAt at hs1
  have k0 := heap_alloc_last w (.cells #[.slice ia il ic, .slice oa ol oc, .int .i64 rg, .slice sa sl sc] 25)
  have HK0 : Hid _ := k0
  have HS1 : Hid _ := hs1
  clear hP hs hI hO hS HP0 k0
  go_enter Tryd.func21, Tryd.ntmps21
  go_wp2_with fail
  refine Calls.mono (halves_F il ic ia ins _ HIL.out (by omega) hcil HP.out.I) ?_
  by_cases h1 : GoodH 32 ins
  rotate_left
  · have HF : Hid (¬ InF ins outs rg ss) := fun h => h1 h.1
    rw [Prg.goodB_no h1]
    rintro e w1 ⟨rfl, rfl⟩
    clear h1
    go_wp2
    go_ret
    exact ⟨.inr ⟨HF.out, rfl⟩, HA0.out⟩
  rw [Prg.goodB_yes h1]
  rintro e w1 ⟨rfl, rfl⟩
  have H1 : Hid (GoodH 32 ins) := h1
  clear h1
  go_wp2_with fail
  refine Calls.mono (halves_F ol oc oa outs _ HOL.out (by omega) hcol HP.out.O) ?_
  by_cases h2 : GoodH 32 outs
  rotate_left
  · have HF : Hid (¬ InF ins outs rg ss) := fun h => h2 h.2.1
    rw [Prg.goodB_no h2]
    rintro e w1 ⟨rfl, rfl⟩
    clear h2
    go_wp2
    go_ret
    exact ⟨.inr ⟨HF.out, rfl⟩, HA0.out⟩
  rw [Prg.goodB_yes h2]
  rintro e w1 ⟨rfl, rfl⟩
  have H2 : Hid (GoodH 32 outs) := h2
  have hol32 : ol ≤ 32 := by rw [HOL.out]; exact goodH_len h2
  clear h2
  go_wp2_with fail
  refine Calls.mono (pthere_F rg 65 _) ?_
  by_cases h3 : 0 ≤ rg ∧ rg < 65
  rotate_left
  · have HF : Hid (¬ InF ins outs rg ss) := fun h => h3 (by have := h.2.2.1; omega)
    rw [decide_eq_false h3]
    rintro e w1 ⟨rfl, rfl⟩
    clear h3
    go_wp2
    go_ret
    exact ⟨.inr ⟨HF.out, rfl⟩, HA0.out⟩
  rw [decide_eq_true h3]
  rintro e w1 ⟨rfl, rfl⟩
  by_cases n3 : 4096 < sl
  · have HF : Hid (¬ InF ins outs rg ss) := fun h => by have := h.2.2.2.1; rw [← HSL.out] at this; omega
    go_wp2
    go_ret
    exact ⟨.inr ⟨HF.out, rfl⟩, HA0.out⟩
  have HEQ : Hid (InF ins outs rg ss ↔ FitA il ol rg ss) := by
    rw [HIL.out, HOL.out]; exact inF_iff H1.out H2.out (by omega) (by rw [← HSL.out]; omega)
  have h3a : 0 ≤ rg := h3.1
  clear h3
  go_wp2_with fail
  refine Calls.mono (stepsFit_F ia oa sa il ic ol oc sl sc ins outs rg ss _ HP.out hol32 (by omega)) ?_
  rintro e w2 ⟨rfl, hb2⟩
  have HB2 : Hid (Below w.heap.size w w2) := HA0.out.trans (hb2.mono (by simp))
  have hs2 := cell_later hb2 HS1.out
  clear hb2
  by_cases hf : FitA il ol rg ss
  · rw [fitB_yes hf]
    have HF : Hid (InF ins outs rg ss) := HEQ.out.2 hf
    clear hf
    go_wp2
    go_ret
    exact ⟨.inl ⟨HF.out, rfl⟩, HB2.out⟩
  · rw [fitB_no hf]
    have HF : Hid (¬ InF ins outs rg ss) := fun h => hf (HEQ.out.1 h)
    clear hf
    go_wp2
    go_ret
    exact ⟨.inr ⟨HF.out, rfl⟩, HB2.out⟩
theorem pcheck_ok (ia oa sa : Option Addr) (il ic ol oc sl sc : Nat) (ins outs : List Int) (rg : Int) (ss : List Stp) (w : World) (s : Addr) (hP : PrgW w ia oa sa il ic ol oc sl sc ins outs ss) (hs : w.cell? ⟨5, 0, none⟩ = some (errAt s)) (h : InF ins outs rg ss) :
    Calls Tryd.prog 21 #[.agg #[.slice ia il ic, .slice oa ol oc, .int .i64 rg, .slice sa sl sc]] w fun e w' => e = .returned .nilIface ∧ Below w.heap.size w w' :=
  (pcheck_F ia oa sa il ic ol oc sl sc ins outs rg ss w s hP hs).mono fun e w' ⟨h1, h2⟩ => ⟨h1.elim (fun q => q.2) (fun q => absurd h q.1), h2⟩
theorem pcheck_bad (ia oa sa : Option Addr) (il ic ol oc sl sc : Nat) (ins outs : List Int) (rg : Int) (ss : List Stp) (w : World) (s : Addr) (hP : PrgW w ia oa sa il ic ol oc sl sc ins outs ss) (hs : w.cell? ⟨5, 0, none⟩ = some (errAt s)) (h : ¬ InF ins outs rg ss) :
    Calls Tryd.prog 21 #[.agg #[.slice ia il ic, .slice oa ol oc, .int .i64 rg, .slice sa sl sc]] w fun e w' => e = .returned (errAt s) ∧ Below w.heap.size w w' :=
  (pcheck_F ia oa sa il ic ol oc sl sc ins outs rg ss w s hP hs).mono fun e w' ⟨h1, h2⟩ => ⟨h1.elim (fun q => absurd q.1 h) (fun q => q.2), h2⟩
end Go.Proofs.YtoalbopcapgojabDoor
