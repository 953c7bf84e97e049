/- What the document's own Run makes of inputs, of programs in form. -/
import Derived.Test.YtanmgpgiepkogaaDoorJExecMeans2
import Derived.Test.YtanmgpgiepkogaaDoorMatA
import Derived.LaidLaws
import Derived.MakeChecks
import Derived.LaidEql
import Derived.Test.YtanmgpgiepkogaaDoorMatO
import Derived.Deep.DeepCutAuto
import Derived.Test.YtanmgpgiepkogaaDoorPlacesK
import Derived.Test.YtanmgpgiepkogaaDoorHolds
import Derived.BigRegion
import Derived.Test.YtanmgpgiepkogaaDoorGfRefW
/- Plain algebra of stage 10: what a straight-line program makes of sums of inputs, and what its meaning says of all inputs; no program is spoken of. -/
namespace Go.Proofs.YtanmgpgiepkogaaDoor
open Gf
set_option linter.unusedVariables false
set_option maxRecDepth 20000
def gaR (R S : Regs) : Regs := fun d b => ga (R d b) (S d b)
theorem ga4 (a b c d : F) : ga (ga a b) (ga c d) = ga (ga a c) (ga b d) := by
  rw [F.add_assoc, F.add_assoc, F.add_left_comm b c d]
theorem doR_1 {X : Int → Nat → F} {s : Stp} {R : Regs} (h : s.op = 1) : doR X s R = setR R s.dst (X s.src) := by rw [doR, if_pos h]
theorem doR_2 {X : Int → Nat → F} {s : Stp} {R : Regs} (h : s.op = 2) : doR X s R = setR R s.dst (fun _ => 0) := by rw [doR, if_neg (by omega), if_pos h]
theorem doR_3 {X : Int → Nat → F} {s : Stp} {R : Regs} (h : s.op = 3) : doR X s R = setR R s.dst (fun b => gm s.c (R s.dst b)) := by rw [doR, if_neg (by omega), if_neg (by omega), if_pos h]
theorem doR_4 {X : Int → Nat → F} {s : Stp} {R : Regs} (h : s.op = 4) : doR X s R = setR R s.dst (fun b => ga (R s.dst b) (gm s.c (R s.src b))) := by rw [doR, if_neg (by omega), if_neg (by omega), if_neg (by omega), if_pos h]
theorem doR_n {X : Int → Nat → F} {s : Stp} {R : Regs} (h1 : s.op ≠ 1) (h2 : s.op ≠ 2) (h3 : s.op ≠ 3) (h4 : s.op ≠ 4) : doR X s R = R := by rw [doR, if_neg h1, if_neg h2, if_neg h3, if_neg h4]
theorem gaR_setR (R S : Regs) (d : Int) (v u : Nat → F) : gaR (setR R d v) (setR S d u) = setR (gaR R S) d (fun b => ga (v b) (u b)) := by
  funext r b
  by_cases e : r = d
  · subst e; simp only [gaR, setR_same]
  · simp only [gaR, setR_other e]
theorem doR_add (X Y : Int → Nat → F) (s : Stp) (R S : Regs) : doR (gaR X Y) s (gaR R S) = gaR (doR X s R) (doR Y s S) := by
  by_cases h1 : s.op = 1
  · rw [doR_1 h1, doR_1 h1, doR_1 h1, gaR_setR]; rfl
  by_cases h2 : s.op = 2
  · rw [doR_2 h2, doR_2 h2, doR_2 h2, gaR_setR]; simp only [F.add_self]
  by_cases h3 : s.op = 3
  · rw [doR_3 h3, doR_3 h3, doR_3 h3, gaR_setR]; simp only [gaR, F.mul_add]
  by_cases h4 : s.op = 4
  · rw [doR_4 h4, doR_4 h4, doR_4 h4, gaR_setR]; simp only [gaR, F.mul_add]; congr 1; funext b; exact ga4 _ _ _ _
  · rw [doR_n h1 h2 h3 h4, doR_n h1 h2 h3 h4, doR_n h1 h2 h3 h4]
theorem doO_add (s : Stp) (R S O P : Regs) : doO s (gaR R S) (gaR O P) = gaR (doO s R O) (doO s S P) := by
  unfold doO
  by_cases h5 : s.op = 5
  · rw [if_pos h5, if_pos h5, if_pos h5, gaR_setR]; rfl
  · rw [if_neg h5, if_neg h5, if_neg h5]
theorem runO_add (X Y : Int → Nat → F) : ∀ (l : List Stp) (R S O P : Regs), runO (gaR X Y) l (gaR R S) (gaR O P) = gaR (runO X l R O) (runO Y l S P)
  | [], R, S, O, P => rfl
  | s :: l, R, S, O, P => by rw [runO, runO, runO, doR_add, doO_add]; exact runO_add X Y l _ _ _ _
def noR : Regs := fun _ _ => 0
theorem gaR_no : gaR noR noR = noR := by funext r b; exact F.add_self _
/-- of sums of inputs the sums of outputs -/
theorem run_sum (X Y : Int → Nat → F) (l : List Stp) : runO (gaR X Y) l noR noR = gaR (runO X l noR noR) (runO Y l noR noR) := by
  have := runO_add X Y l noR noR noR noR
  rwa [gaR_no] at this
/-- inputs that are alike where they are loaded make alike outputs -/
theorem run_alike {X Y : Int → Nat → F} {b : Nat} : ∀ {l : List Stp}, (∀ s ∈ l, s.op = 1 → X s.src b = Y s.src b) → ∀ (R S O P : Regs), (∀ r, R r b = S r b) → (∀ r, O r b = P r b) → ∀ r, runO X l R O r b = runO Y l S P r b
  | [], h, R, S, O, P, hR, hO, r => hO r
  | s :: l, h, R, S, O, P, hR, hO, r => by
    rw [runO, runO]
    refine run_alike (fun t ht => h t (List.mem_cons_of_mem _ ht)) _ _ _ _ (fun q => ?_) (fun q => ?_) r
    · have h1' := h s (List.mem_cons_self ..)
      by_cases h1 : s.op = 1
      · rw [doR_1 h1, doR_1 h1]
        by_cases e : q = s.dst
        · subst e; rw [setR_same, setR_same]; exact h1' h1
        · rw [setR_other e, setR_other e]; exact hR q
      by_cases h2 : s.op = 2
      · rw [doR_2 h2, doR_2 h2]
        by_cases e : q = s.dst
        · subst e; rw [setR_same, setR_same]
        · rw [setR_other e, setR_other e]; exact hR q
      by_cases h3 : s.op = 3
      · rw [doR_3 h3, doR_3 h3]
        by_cases e : q = s.dst
        · subst e; rw [setR_same, setR_same, hR]
        · rw [setR_other e, setR_other e]; exact hR q
      by_cases h4 : s.op = 4
      · rw [doR_4 h4, doR_4 h4]
        by_cases e : q = s.dst
        · subst e; rw [setR_same, setR_same, hR, hR]
        · rw [setR_other e, setR_other e]; exact hR q
      · rw [doR_n h1 h2 h3 h4, doR_n h1 h2 h3 h4]; exact hR q
    · unfold doO
      by_cases h5 : s.op = 5
      · rw [if_pos h5, if_pos h5]
        by_cases e : q = s.dst
        · subst e; rw [setR_same, setR_same]; exact hR _
        · rw [setR_other e, setR_other e]; exact hO q
      · rw [if_neg h5, if_neg h5]; exact hO q
/-- what a state is of the inputs, told by what it is of unit columns -/
def MeanR (X : Int → Nat → F) (n b : Nat) (R U : Regs) : Prop := ∀ r, R r b = sumF (fun i => gm (U r i) (X (i : Int) b)) n
theorem meanR_do {X : Int → Nat → F} {n b : Nat} {R U : Regs} {s : Stp} (h : MeanR X n b R U) (hs : s.op = 1 → 0 ≤ s.src ∧ s.src < n) : MeanR X n b (doR X s R) (doR unX s U) := by
  intro r
  by_cases h1 : s.op = 1
  · rw [doR_1 h1, doR_1 h1]
    by_cases e : r = s.dst
    · subst e
      rw [setR_same]
      simp only [setR_same]
      obtain ⟨ha, hb⟩ := hs h1
      obtain ⟨k, hk⟩ := Int.eq_ofNat_of_zero_le ha
      rw [sumF_pick (fun i => gm (unX s.src i) (X (i : Int) b)) k n (by omega) (fun l _ hl => by
        simp only [unX]; rw [if_neg (by omega), F.zero_mul])]
      simp only [unX]; rw [if_pos (by omega), F.one_mul, hk]
    · rw [setR_other e]; simp only [setR_other e]; exact h r
  by_cases h2 : s.op = 2
  · rw [doR_2 h2, doR_2 h2]
    by_cases e : r = s.dst
    · subst e; rw [setR_same]; simp only [setR_same]; exact (sumF_none fun l _ => F.zero_mul _).symm
    · rw [setR_other e]; simp only [setR_other e]; exact h r
  by_cases h3 : s.op = 3
  · rw [doR_3 h3, doR_3 h3]
    by_cases e : r = s.dst
    · subst e; rw [setR_same]; simp only [setR_same]; rw [h s.dst, sumF_mul_left]; exact sumF_congr fun l _ => (F.mul_assoc _ _ _).symm
    · rw [setR_other e]; simp only [setR_other e]; exact h r
  by_cases h4 : s.op = 4
  · rw [doR_4 h4, doR_4 h4]
    by_cases e : r = s.dst
    · subst e; rw [setR_same]; simp only [setR_same]; rw [h s.dst, h s.src, sumF_mul_left, ← sumF_add]; exact sumF_congr fun l _ => by rw [F.add_mul, F.mul_assoc]
    · rw [setR_other e]; simp only [setR_other e]; exact h r
  · rw [doR_n h1 h2 h3 h4, doR_n h1 h2 h3 h4]; exact h r
theorem meanO_do {X : Int → Nat → F} {n b : Nat} {R U O V : Regs} {s : Stp} (h : MeanR X n b R U) (k : MeanR X n b O V) : MeanR X n b (doO s R O) (doO s U V) := by
  intro r
  unfold doO
  by_cases h5 : s.op = 5
  · rw [if_pos h5, if_pos h5]
    by_cases e : r = s.dst
    · subst e; rw [setR_same]; simp only [setR_same]; exact h _
    · rw [setR_other e]; simp only [setR_other e]; exact k r
  · rw [if_neg h5, if_neg h5]; exact k r
theorem meanR_run {X : Int → Nat → F} {n b : Nat} : ∀ {l : List Stp}, (∀ s ∈ l, s.op = 1 → 0 ≤ s.src ∧ s.src < n) → ∀ {R U O V : Regs}, MeanR X n b R U → MeanR X n b O V → MeanR X n b (runO X l R O) (runO unX l U V)
  | [], _, R, U, O, V, h, k => k
  | s :: l, hs, R, U, O, V, h, k => by
    rw [runO, runO]
    exact meanR_run (fun t ht => hs t (List.mem_cons_of_mem _ ht)) (meanR_do h (hs s (List.mem_cons_self ..))) (meanO_do h k)
theorem meanR_no (X : Int → Nat → F) (n b : Nat) : MeanR X n b noR noR := fun r => (sumF_none fun l _ => F.zero_mul _).symm
/-- the outputs are the meaning's rows times the inputs -/
theorem run_mean (X : Int → Nat → F) (n b : Nat) {l : List Stp} (hs : ∀ s ∈ l, s.op = 1 → 0 ≤ s.src ∧ s.src < n) (d : Int) : runO X l noR noR d b = sumF (fun i => gm (runO unX l noR noR d i) (X (i : Int) b)) n := meanR_run hs (meanR_no X n b) (meanR_no X n b) d
end Go.Proofs.YtanmgpgiepkogaaDoor

/- What the named variables of package api hold, by the rows' condition: errors, each of a block of its own. -/
namespace Go.Proofs.YtanmgpgiepkogaaDoor
open Go.RowKit Go.ChangeShapes
set_option linter.unusedVariables false
set_option maxRecDepth 20000
theorem cellsES : Tryd.prog.cellsOf 187 = 1 := by kernel_rfl
theorem cellsStr : Tryd.prog.cellsOf 9 = 1 := by kernel_rfl
theorem starES : "*" ++ "errors.errorString" = "*errors.errorString" := by decide
theorem rowES (u : TypeId) (h : Tryd.prog.typeName? 3 u = some "*errors.errorString") : u = 173 :=
  typeName_ptr_named (nm := "errors.errorString") (by rw [starES]; kernel_rfl) (by kernel_rfl) (by decide) u (by rw [starES]; exact h)
/-- an error's datum -/
def errD (text : List UInt8) : DataW Unit := .iface "*errors.errorString" (.ptr (.agg [.lit (.string text)]))
def ErrsAt (W : World) (gs : List Nat) (es : List Addr) : Prop :=
  gs.length = es.length ∧ es.Nodup ∧ ∀ (k g : Nat) (a : Addr), gs[k]? = some g → es[k]? = some a → W.cell? ⟨g, 0, none⟩ = some (errAt a) ∧ ∃ c t, W.heap[a.block]? = some (.cells c t (0, 0))
theorem errs_go {W : World} : ∀ (laid : List (String × DataW Unit)) (gs : List Nat) (ps : List MemPlace), DataW.LaidVars Tryd.prog W laid ps → ps.Nodup →
    (∀ b off, MemPlace.cell b off ∈ ps → (∃ c t, W.heap[b]? = some (.cells c t (0, 0))) ∧ ∀ u v, W.cell? ⟨b, off, none⟩ = some (.iface u v) → Value.okWide Tryd.prog W .any 0 u v) →
    laid.map (fun x => Tryd.prog.globalNamed x.1) = gs.map some → (∀ g ∈ gs, (Tryd.prog.globals[g]?).map (·.type) = some 29) → (∀ x ∈ laid, ∃ text, x.2 = errD text) →
    ∃ es : List Addr, gs.length = es.length ∧ es.Nodup ∧ (∀ a ∈ es, MemPlace.cell a.block a.off ∈ ps) ∧ ∀ (k g : Nat) (a : Addr), gs[k]? = some g → es[k]? = some a → W.cell? ⟨g, 0, none⟩ = some (errAt a) ∧ ∃ c t, W.heap[a.block]? = some (.cells c t (0, 0))
  | [], [], _, _, _, _, _, _, _ => ⟨[], rfl, List.nodup_nil, fun a h => by simp at h, fun k g a h => by simp at h⟩
  | [], _ :: _, _, _, _, _, h, _, _ => by simp at h
  | _ :: _, [], _, _, _, _, h, _, _ => by simp at h
  | (n, d) :: r, g :: gs, ps, hv, hnd, hrows, hn, ht, hd => by
    obtain ⟨text, hdd⟩ := hd _ List.mem_cons_self
    simp only at hdd
    subst hdd
    obtain ⟨g0, t0, cs0, f0, p0, q0, hg0, ht0, hv0, hd0, hq, rfl⟩ := hv
    simp only [List.map_cons, List.cons.injEq] at hn
    obtain rfl := Option.some.inj (hg0.symm.trans hn.1)
    obtain rfl := Option.some.inj (ht0.symm.trans (ht _ List.mem_cons_self))
    obtain ⟨l0⟩ := cs0
    have ok0 : ∀ u v, l0 = [.iface u v] → Value.okWide Tryd.prog W .any 0 u v := fun u v e => by
      subst e
      exact (hrows g0 0 (by simp [MemPlace.row])).2 u v (by simpa using World.var?_cell hg0 hv0 0)
    obtain ⟨a0, s0, rfl, hc0, hs0, hz0, rfl⟩ := errorString_of_trod Tryd.underlying29 rowES Tryd.underlying173 Tryd.underlying187 rfl rfl Tryd.underlying9 cellsES cellsStr hd0 ok0
    have hndq : q0.Nodup := List.Nodup.sublist (List.sublist_append_right _ _) hnd
    obtain ⟨es, h1, h2, h3, h4⟩ := errs_go r gs q0 hq hndq (fun b off hm => hrows b off (List.mem_append_right _ hm)) hn.2 (fun g hg => ht g (List.mem_cons_of_mem _ hg)) (fun x hx => hd x (List.mem_cons_of_mem _ hx))
    have hm0 : MemPlace.cell a0.block a0.off ∈ MemPlace.row ⟨g0, 0, none⟩ (Array.mk [Value.iface 173 (.pointer (some a0))]).size ++ MemPlace.row a0 1 := by simp [MemPlace.row]
    refine ⟨a0 :: es, by simp [h1], List.nodup_cons.2 ⟨fun hin => ?_, h2⟩, fun a ha => ?_, fun k g a hk ha => ?_⟩
    · exact (List.nodup_append.1 hnd).2.2 _ hm0 _ (h3 _ hin) rfl
    · rcases List.mem_cons.1 ha with rfl | ha
      · exact List.mem_append_left _ hm0
      · exact List.mem_append_right _ (h3 _ ha)
    · cases k with
      | zero =>
        simp only [List.getElem?_cons_zero, Option.some.injEq] at hk ha
        subst hk ha
        exact ⟨by simpa [errAt] using World.var?_cell hg0 hv0 0, (hrows a0.block a0.off (List.mem_append_left _ hm0)).1⟩
      | succ k => exact h4 k g a (by simpa using hk) (by simpa using ha)
theorem errs_of_laid {W : World} {laid : List (String × DataW Unit)} {gs : List Nat} (h : laidMetH Tryd.prog laid W) (hp : (laid.all fun x => x.2.handleName?.isNone) = true)
    (hn : laid.map (fun x => Tryd.prog.globalNamed x.1) = gs.map some) (ht : ∀ g ∈ gs, (Tryd.prog.globals[g]?).map (·.type) = some 29) (hd : ∀ x ∈ laid, ∃ text, x.2 = errD text) : ∃ es, ErrsAt W gs es := by
  rw [MakeChecks.laidMetH_plain _ _ _ hp] at h
  obtain ⟨ps, hv, hnd, hrows⟩ := h
  obtain ⟨es, h1, h2, _, h4⟩ := errs_go laid gs ps hv hnd hrows hn ht hd
  exact ⟨es, h1, h2, h4⟩
theorem errs_at {W : World} {gs : List Nat} {es : List Addr} (h : ErrsAt W gs es) (k g : Nat) (hk : gs[k]? = some g) : ∃ a, es[k]? = some a ∧ W.cell? ⟨g, 0, none⟩ = some (errAt a) ∧ ∃ c t, W.heap[a.block]? = some (.cells c t (0, 0)) := by
  have hlt : k < es.length := by
    rw [← h.1]; exact (List.getElem?_eq_some_iff.1 hk).1
  exact ⟨es[k], List.getElem?_eq_getElem hlt, h.2.2 k g _ hk (List.getElem?_eq_getElem hlt)⟩
theorem errsAt_below {w w' : World} {gs : List Nat} {es : List Addr} (h : ErrsAt w gs es) (hb : Below w.heap.size w w') : ErrsAt w' gs es :=
  ⟨h.1, h.2.1, fun k g a hk ha => by
    obtain ⟨h1, c, t, h2⟩ := h.2.2 k g a hk ha
    exact ⟨(hb.cell (p := ⟨g, 0, none⟩) (by simpa using World.block_lt_of_cell? w _ h1)).trans h1, c, t, heap_later h2 hb⟩⟩
theorem infoPtr : ∃ i, Tryd.prog.info? 173 = some i ∧ i.comparable = true := by
  have h : (Tryd.prog.info? 173).map (·.comparable) = some true := by kernel_rfl
  cases hq : Tryd.prog.info? 173 with
  | none => simp [hq] at h
  | some i => simp only [hq, Option.map_some, Option.some.injEq] at h; exact ⟨i, rfl, h⟩
theorem infoES : ∃ j, Tryd.prog.info? 187 = some j ∧ j.size ≠ 0 := by
  have h : (Tryd.prog.info? 187).map (·.size) = some 1 := by kernel_rfl
  cases hq : Tryd.prog.info? 187 with
  | none => simp [hq] at h
  | some i => simp only [hq, Option.map_some, Option.some.injEq] at h; exact ⟨i, rfl, by omega⟩
/-- one error held against itself -/
theorem eq_same (w : World) (a : Addr) : (binOp .eql 29 (.iface 173 (.pointer (some a))) (.iface 173 (.pointer (some a)))).run Tryd.prog w = .ok (.bool true) w := by
  obtain ⟨i, h1, h2⟩ := infoPtr
  obtain ⟨j, h3, _⟩ := infoES
  exact run_eql_iface_ptr_same w a Tryd.underlying29 Tryd.underlying173 h1 h2 h3
theorem eq_other {w : World} {a b : Addr} {ca cb : Array Value} {ta tb : TypeId} (hne : a ≠ b) (ha : w.heap[a.block]? = some (.cells ca ta (0, 0))) (hb : w.heap[b.block]? = some (.cells cb tb (0, 0))) :
    (binOp .eql 29 (.iface 173 (.pointer (some a))) (.iface 173 (.pointer (some b)))).run Tryd.prog w = .ok (.bool false) w := by
  obtain ⟨i, h1, h2⟩ := infoPtr
  obtain ⟨j, h3, h4⟩ := infoES
  exact run_eql_iface_ptr_other w Tryd.underlying29 Tryd.underlying173 h1 h2 h3 h4 hne ha hb
end Go.Proofs.YtanmgpgiepkogaaDoor

/- What Check of package prog answers, of all programs. -/
namespace Go.Proofs.YtanmgpgiepkogaaDoor
open Go.RowKit Gf
set_option linter.unusedVariables false
set_option maxRecDepth 20000
set_option linter.unusedSimpArgs false
theorem inF_iff {ins outs : List Int} {rg : Int} {ss : List Stp} (h1 : GoodH 32 ins) (h2 : GoodH 32 outs) (h3 : 0 ≤ rg ∧ rg ≤ 64) (h4 : ss.length ≤ 4096) : InF ins outs rg ss ↔ FitA ins.length outs.length rg ss :=
  ⟨fun h => ⟨h.2.2.2.2.1, h.2.2.2.2.2⟩, fun h => ⟨h1, h2, h3, h4, h.1, h.2⟩⟩
set_option maxRecDepth 100000 in
set_option maxHeartbeats 8000000 in
theorem pcheck_F (ia oa sa : Option Addr) (il ic ol oc sl sc : Nat) (ins outs : List Int) (rg : Int) (ss : List Stp) (w : World) (s : Addr) (hP : PrgW w ia oa sa il ic ol oc sl sc ins outs ss) (hs : w.cell? ⟨0, 0, none⟩ = some (errAt s)) :
    Calls Tryd.prog 9 #[.agg #[.slice ia il ic, .slice oa ol oc, .int .i64 rg, .slice sa sl sc]] w fun e w' => ((InF ins outs rg ss ∧ e = .returned .nilIface) ∨ (¬ InF ins outs rg ss ∧ e = .returned (errAt s))) ∧ Below w.heap.size w w' := by
  have HP0 : Hid _ := hP
  have hI := hP.eil
  have hO := hP.eol
  have hS := hP.esl
  have hi9 := hP.i9; have ho9 := hP.o9; have hs9 := hP.s9
  have hcil := hP.cil; have hcol := hP.col; have hcsl := hP.csl
  have HIL : Hid (il = ins.length) := hI
  have HOL : Hid (ol = outs.length) := hO
  have HSL : Hid (sl = ss.length) := hS
  have HP : Hid (PrgW (w.alloc (.cells #[.slice ia il ic, .slice oa ol oc, .int .i64 rg, .slice sa sl sc] 25)) ia oa sa il ic ol oc sl sc ins outs ss) := hP.below ((Below.refl _ _).alloc (Nat.le_refl _) _)
  have HA0 : Hid (Below w.heap.size w (w.alloc (.cells #[.slice ia il ic, .slice oa ol oc, .int .i64 rg, .slice sa sl sc] 25))) := (Below.refl w.heap.size w).alloc (Nat.le_refl _) _
  have hs1 := cell?_alloc_old (.cells #[.slice ia il ic, .slice oa ol oc, .int .i64 rg, .slice sa sl sc] 25) hs
  unfold errAt at hs1
  have k0 := heap_alloc_last w (.cells #[.slice ia il ic, .slice oa ol oc, .int .i64 rg, .slice sa sl sc] 25)
  have HK0 : Hid _ := k0
  have HS1 : Hid _ := hs1
  clear hP hs hI hO hS HP0 k0
  go_enter Tryd.func9, Tryd.ntmps9
  go_wp2_with fail
  refine Calls.mono (halves_F il ic ia ins _ HIL.out (by omega) hcil HP.out.I) ?_
  by_cases h1 : GoodH 32 ins
  rotate_left
  · have HF : Hid (¬ InF ins outs rg ss) := fun h => h1 h.1
    rw [Prg.goodB_no h1]
    rintro e w1 ⟨rfl, rfl⟩
    clear h1
    go_wp2
    go_ret
    exact ⟨.inr ⟨HF.out, rfl⟩, HA0.out⟩
  rw [Prg.goodB_yes h1]
  rintro e w1 ⟨rfl, rfl⟩
  have H1 : Hid (GoodH 32 ins) := h1
  clear h1
  go_wp2_with fail
  refine Calls.mono (halves_F ol oc oa outs _ HOL.out (by omega) hcol HP.out.O) ?_
  by_cases h2 : GoodH 32 outs
  rotate_left
  · have HF : Hid (¬ InF ins outs rg ss) := fun h => h2 h.2.1
    rw [Prg.goodB_no h2]
    rintro e w1 ⟨rfl, rfl⟩
    clear h2
    go_wp2
    go_ret
    exact ⟨.inr ⟨HF.out, rfl⟩, HA0.out⟩
  rw [Prg.goodB_yes h2]
  rintro e w1 ⟨rfl, rfl⟩
  have H2 : Hid (GoodH 32 outs) := h2
  have hol32 : ol ≤ 32 := by rw [HOL.out]; exact goodH_len h2
  clear h2
  go_wp2_with fail
  refine Calls.mono (pthere_F rg 65 _) ?_
  by_cases h3 : 0 ≤ rg ∧ rg < 65
  rotate_left
  · have HF : Hid (¬ InF ins outs rg ss) := fun h => h3 (by have := h.2.2.1; omega)
    rw [decide_eq_false h3]
    rintro e w1 ⟨rfl, rfl⟩
    clear h3
    go_wp2
    go_ret
    exact ⟨.inr ⟨HF.out, rfl⟩, HA0.out⟩
  rw [decide_eq_true h3]
  rintro e w1 ⟨rfl, rfl⟩
  by_cases n3 : 4096 < sl
  · have HF : Hid (¬ InF ins outs rg ss) := fun h => by have := h.2.2.2.1; rw [← HSL.out] at this; omega
    go_wp2
    go_ret
    exact ⟨.inr ⟨HF.out, rfl⟩, HA0.out⟩
  have HEQ : Hid (InF ins outs rg ss ↔ FitA il ol rg ss) := by
    rw [HIL.out, HOL.out]; exact inF_iff H1.out H2.out (by omega) (by rw [← HSL.out]; omega)
  have h3a : 0 ≤ rg := h3.1
  clear h3
  go_wp2_with fail
  refine Calls.mono (stepsFit_F ia oa sa il ic ol oc sl sc ins outs rg ss _ HP.out hol32 (by omega)) ?_
  rintro e w2 ⟨rfl, hb2⟩
  have HB2 : Hid (Below w.heap.size w w2) := HA0.out.trans (hb2.mono (by simp))
  have hs2 := cell_later hb2 HS1.out
  clear hb2
  by_cases hf : FitA il ol rg ss
  · rw [fitB_yes hf]
    have HF : Hid (InF ins outs rg ss) := HEQ.out.2 hf
    clear hf
    go_wp2
    go_ret
    exact ⟨.inl ⟨HF.out, rfl⟩, HB2.out⟩
  · rw [fitB_no hf]
    have HF : Hid (¬ InF ins outs rg ss) := fun h => hf (HEQ.out.1 h)
    clear hf
    go_wp2
    go_ret
    exact ⟨.inr ⟨HF.out, rfl⟩, HB2.out⟩
theorem pcheck_ok (ia oa sa : Option Addr) (il ic ol oc sl sc : Nat) (ins outs : List Int) (rg : Int) (ss : List Stp) (w : World) (s : Addr) (hP : PrgW w ia oa sa il ic ol oc sl sc ins outs ss) (hs : w.cell? ⟨0, 0, none⟩ = some (errAt s)) (h : InF ins outs rg ss) :
    Calls Tryd.prog 9 #[.agg #[.slice ia il ic, .slice oa ol oc, .int .i64 rg, .slice sa sl sc]] w fun e w' => e = .returned .nilIface ∧ Below w.heap.size w w' :=
  (pcheck_F ia oa sa il ic ol oc sl sc ins outs rg ss w s hP hs).mono fun e w' ⟨h1, h2⟩ => ⟨h1.elim (fun q => q.2) (fun q => absurd h q.1), h2⟩
theorem pcheck_bad (ia oa sa : Option Addr) (il ic ol oc sl sc : Nat) (ins outs : List Int) (rg : Int) (ss : List Stp) (w : World) (s : Addr) (hP : PrgW w ia oa sa il ic ol oc sl sc ins outs ss) (hs : w.cell? ⟨0, 0, none⟩ = some (errAt s)) (h : ¬ InF ins outs rg ss) :
    Calls Tryd.prog 9 #[.agg #[.slice ia il ic, .slice oa ol oc, .int .i64 rg, .slice sa sl sc]] w fun e w' => e = .returned (errAt s) ∧ Below w.heap.size w w' :=
  (pcheck_F ia oa sa il ic ol oc sl sc ins outs rg ss w s hP hs).mono fun e w' ⟨h1, h2⟩ => ⟨h1.elim (fun q => absurd q.1 h) (fun q => q.2), h2⟩
end Go.Proofs.YtanmgpgiepkogaaDoor

/- What Meaning of package prog answers of programs in form. -/
namespace Go.Proofs.YtanmgpgiepkogaaDoor
open Go.RowKit Gf
set_option linter.unusedVariables false
set_option maxRecDepth 20000
set_option linter.unusedSimpArgs false
/-- outputs, from the first step on, as registers of unit columns -/
def meanR (ss : List Stp) (d : Int) : Nat → F := runO unX ss (fun _ _ => 0) (fun _ _ => 0) d
def meanRows (n no : Nat) (ss : List Stp) : List (List F) := (List.range no).map fun (d : Nat) => rowF n (meanR ss (d : Int))
def meanL (n no : Nat) (ss : List Stp) : List F := (meanRows n no ss).flatten
theorem meanRows_len (n no : Nat) (ss : List Stp) : (meanRows n no ss).length = no := by simp [meanRows]
theorem meanL_len (n no : Nat) (ss : List Stp) : (meanL n no ss).length = no * n := by
  rw [meanL, flat_len (c := n) (fun xs h => by obtain ⟨d, _, rfl⟩ := List.mem_map.1 h; exact rowF_len _ _), meanRows_len]
theorem run_makeN (n c : Nat) (hn : n ≤ 64) (w : World) :
    (Instr.makeSlice 67 (.int .i64 (n : Int)) (.int .i64 (n : Int))).run Tryd.prog w = .ok (.slice (some ⟨w.heap.size, 0, none⟩) n n) (w.alloc (.cells (slO n c (fun _ => none)) 31)) := by
  obtain ⟨i, hi, h1, h2, h3⟩ := infoS
  have := run_make (P := Tryd.prog) w 67 31 i _ Tryd.underlying67 hi h3 .i64 .i64 n n (by omega) (by omega) (by rw [h2]; omega) (by omega)
  have e : madeCells (Value.slice none 0 0).cells n = slO n c (fun _ => none) := by
    apply Array.ext_getElem?
    intro i
    by_cases h : i < n <;> simp [madeCells, slO, svO, Value.cells, h, Nat.mod_one]
  rw [this, h1]
  simp only [Int.toNat_natCast, Nat.mul_one, e]
/-- what a step does, whichever it is -/
theorem does_F (B cb M Q n rg no : Nat) (f : Nat → Option Addr × Nat) (g : Nat → Option (Option Addr × Nat)) (R O : Regs) (s : Stp) (m : Nat) (w : World) (hn : n ≤ 64) (hrg : rg ≤ 64) (hno : no ≤ 64) (hBw : B ≤ w.heap.size) (h : CmbW B w cb M Q n rg no f g R O)
    (hok : OkS n no rg s) (hm : m = (if s.op = 1 then 86 else if s.op = 2 then 88 else if s.op = 3 then 90 else if s.op = 4 then 92 else 94)) :
    Calls Tryd.prog m #[.pointer (some ⟨cb, 0, none⟩), .agg #[.int .i64 s.op, .int .i64 s.dst, .int .i64 s.src, .int .u8 (s.c.toNat : Int)]] w fun e w' => e = .returned (.tuple #[]) ∧ (∃ f' g', CmbW B w' cb M Q n rg no f' g' (doR unX s R) (doO s R O) ∧ ∀ d, (g' d).isSome = ((g d).isSome || (s.op == 5 && s.dst == (d : Int)))) ∧ Below B w w' := by
  obtain ⟨op, dst, src, c⟩ := s
  unfold OkS at hok
  simp only at hok hm ⊢
  rcases hok with ⟨rfl, h1, h2, h3⟩ | ⟨rfl, h1, h2, h3⟩ | ⟨rfl, h1, h2⟩ | ⟨rfl, h1, h2⟩ | ⟨rfl, h1, h2, h3⟩
  · obtain ⟨dst, rfl⟩ := Int.eq_ofNat_of_zero_le h1.1
    obtain ⟨src, rfl⟩ := Int.eq_ofNat_of_zero_le h2.1
    subst hm
    exact (does_load B cb M Q n rg no f g R O 1 dst src c.toNat (by omega) (by omega) w hn hrg hno hBw h).mono fun e w' ⟨a, ⟨f', g', k, hg⟩, b⟩ => ⟨a, ⟨f', g', k, fun d => by rw [hg]; simp⟩, b⟩
  · obtain ⟨dst, rfl⟩ := Int.eq_ofNat_of_zero_le h1.1
    subst hm
    exact (does_zero B cb M Q n rg no f g R O 2 dst src c.toNat (by omega) w hn hrg hno hBw h).mono fun e w' ⟨a, ⟨f', g', k, hg⟩, b⟩ => ⟨a, ⟨f', g', k, fun d => by rw [hg]; simp⟩, b⟩
  · obtain ⟨dst, rfl⟩ := Int.eq_ofNat_of_zero_le h1.1
    subst hm
    exact (does_mul B cb M Q n rg no f g R O 3 dst src c (by omega) w hn hrg hno hBw h).mono fun e w' ⟨a, ⟨f', g', k, hg⟩, b⟩ => ⟨a, ⟨f', g', k, fun d => by rw [hg]; simp⟩, b⟩
  · obtain ⟨dst, rfl⟩ := Int.eq_ofNat_of_zero_le h1.1
    obtain ⟨src, rfl⟩ := Int.eq_ofNat_of_zero_le h2.1
    subst hm
    exact (does_add B cb M Q n rg no f g R O 4 dst src c (by omega) (by omega) w hn hrg hno hBw h).mono fun e w' ⟨a, ⟨f', g', k, hg⟩, b⟩ => ⟨a, ⟨f', g', k, fun d => by rw [hg]; simp⟩, b⟩
  · obtain ⟨dst, rfl⟩ := Int.eq_ofNat_of_zero_le h1.1
    obtain ⟨src, rfl⟩ := Int.eq_ofNat_of_zero_le h2.1
    subst hm
    exact (does_out B cb M Q n rg no f g R O 5 dst src c.toNat (by omega) (by omega) w hn hrg hno hBw h).mono fun e w' ⟨a, ⟨f', g', k, hg⟩, b⟩ => ⟨a, ⟨f', g', k, fun d => by
      rw [hg]
      by_cases e : d = dst
      · subst e; simp
      · simp [e, show ¬ (dst : Int) = (d : Int) by omega]⟩, b⟩
/-- the machine while its registers are laid -/
structure IniW (B : Nat) (w : World) (cb M Q n rg no k : Nat) (g : Nat → Option (Option Addr × Nat)) : Prop where
  blk : w.heap[cb]? = some (.cells #[.int .i64 n, .slice (some ⟨M, 0, none⟩) rg rg, .slice (some ⟨Q, 0, none⟩) no no] 87 (0, 0))
  regs : w.heap[M]? = some (.cells (slO rg n g) 31 (0, 0))
  outs : w.heap[Q]? = some (.cells (slO no n (fun _ => none)) 31 (0, 0))
  row : ∀ x, x < k → ∃ p, g x = some p ∧ Row8T w p.1 (rowF n (fun _ => 0)) ∧ n ≤ p.2 ∧ (p.1 = none → p.2 = 0)
  hb : B ≤ cb
  hM : B ≤ M
  hQ : B ≤ Q
  hMQ : M ≠ Q
  hcM : cb ≠ M
  hcQ : cb ≠ Q
theorem IniW.below {B : Nat} {w w' : World} {cb M Q n rg no k : Nat} {g : Nat → Option (Option Addr × Nat)} (h : IniW B w cb M Q n rg no k g) (hb : Below w.heap.size w w') : IniW B w' cb M Q n rg no k g :=
  { h with blk := heap_later h.blk hb, regs := heap_later h.regs hb, outs := heap_later h.outs hb, row := fun x hx => by obtain ⟨p, h1, h2, h3⟩ := h.row x hx; exact ⟨p, h1, row8T_below h2 hb, h3⟩ }
theorem IniW.drew {B : Nat} {w : World} {cb M Q n rg no k : Nat} {g : Nat → Option (Option Addr × Nat)} (h : IniW B w cb M Q n rg no k g) : IniW B w.drew cb M Q n rg no k g :=
  { h with blk := h.blk, regs := h.regs, outs := h.outs, row := h.row }
theorem IniW.put {B : Nat} {w : World} {cb M Q n rg no k : Nat} {g : Nat → Option (Option Addr × Nat)} (h : IniW B w cb M Q n rg no k g) (hk : k < rg) {a : Option Addr} {m : Nat} (ha : Row8T w a (rowF n (fun _ => 0))) (hm : n ≤ m) (hn : a = none → m = 0) :
    IniW B (w.setCell ⟨M, k, none⟩ (.slice a n m)) cb M Q n rg no (k + 1) (fun x => if x = k then some (a, m) else g x) := by
  have hg : w.grownBy (w.setCell ⟨M, k, none⟩ (.slice a n m)) (some M) := grownBy_setCell (World.grownBy.refl _ _) _
  have hne : NoElems w (some M) := noElems_some h.regs (by decide)
  refine { h with blk := ?_, regs := ?_, outs := ?_, row := fun x hx => ?_ }
  · exact (heap_setCell_other _ _ _ _ h.hcM).trans h.blk
  · rw [heap_setCell_same _ _ _ _ _ _ h.regs, slO_set (a, m) hk]
  · exact (heap_setCell_other _ _ _ _ (fun e => h.hMQ e.symm)).trans h.outs
  · by_cases e : x = k
    · exact ⟨(a, m), by simp [e], row8T_grown ha hg hne, hm, hn⟩
    · obtain ⟨p, h1, h2, h3⟩ := h.row x (by omega)
      exact ⟨p, by simp [e, h1], row8T_grown h2 hg hne, h3⟩
theorem IniW.done {B : Nat} {w : World} {cb M Q n rg no : Nat} {g : Nat → Option (Option Addr × Nat)} (h : IniW B w cb M Q n rg no rg g) : CmbW B w cb M Q n rg no (fun x => (g x).getD (none, 0)) (fun _ => none) (fun _ _ => 0) (fun _ _ => 0) := by
  refine { h with blk := h.blk, regs := ⟨?_, fun x hx => ?_, fun x hx => ?_, fun x hx => ?_⟩, outs := h.outs, out := fun d hd p hp => by cases hp }
  · rw [h.regs]
    congr 2
    apply Array.ext_getElem?
    intro i
    by_cases hi : i < rg
    · obtain ⟨p, h1, _⟩ := h.row i hi
      rw [slO_at hi, slF_at hi, svO, h1]; rfl
    · rw [Array.getElem?_eq_none (by rw [slO_size]; omega), Array.getElem?_eq_none (by rw [slF_size]; omega)]
  · obtain ⟨p, h1, h2, h3⟩ := h.row x hx
    simp only [h1, Option.getD_some]; exact h2
  · obtain ⟨p, h1, h2, h3⟩ := h.row x hx
    simp only [h1, Option.getD_some]; exact h3.1
  · obtain ⟨p, h1, h2, h3⟩ := h.row x hx
    simp only [h1, Option.getD_some]; exact h3.2
theorem outs_rows8 {B : Nat} {w : World} {cb M Q n rg no : Nat} {f : Nat → Option Addr × Nat} {g : Nat → Option (Option Addr × Nat)} {R O : Regs} (h : CmbW B w cb M Q n rg no f g R O) (hg : ∀ d, d < no → (g d).isSome = true) : Rows8 w (some ⟨Q, 0, none⟩) ((List.range no).map fun (d : Nat) => rowF n (O (d : Int))) := by
  refine .inr ⟨Q, 0, rfl, fun j x hx => ?_⟩
  simp only [List.getElem?_map, Option.map_eq_some_iff] at hx
  obtain ⟨i, hi, rfl⟩ := hx
  obtain ⟨hjk, hi2⟩ := List.getElem?_eq_some_iff.1 hi
  simp only [List.length_range] at hjk
  simp only [List.getElem_range] at hi2
  subst hi2
  obtain ⟨p, hp⟩ := Option.isSome_iff_exists.1 (hg j hjk)
  refine ⟨p.1, p.2, ?_, (h.out j hjk p hp).1.row8⟩
  rw [Nat.zero_add, rowF_len]
  have := cellAt h.outs j _ (slO_at hjk)
  rwa [svO, hp] at this
set_option maxRecDepth 100000 in
set_option maxHeartbeats 16000000 in
theorem meaning_ok (ia oa sa : Option Addr) (il ic ol oc sl sc rg : Nat) (ins outs : List Int) (ss : List Stp) (w : World) (s : Addr) (hP : PrgW w ia oa sa il ic ol oc sl sc ins outs ss) (hs : w.cell? ⟨0, 0, none⟩ = some (errAt s)) (hF : InF ins outs rg ss) :
    Calls Tryd.prog 10 #[.agg #[.slice ia il ic, .slice oa ol oc, .int .i64 rg, .slice sa sl sc]] w fun e w' => ∃ g m, e = .returned (.tuple #[.agg #[.int .i64 ol, .int .i64 il, .slice (some ⟨g, 0, none⟩) m m], .nilIface]) ∧ m = ol * il ∧ w.heap.size ≤ g ∧ w'.heap[g]? = some (.cells (vfs (meanL il ol ss)) 5 (0, 0)) ∧ Below w.heap.size w w' := by
  have hil32 : il ≤ 32 := by rw [hP.eil]; exact goodH_len hF.1
  have hol32 : ol ≤ 32 := by rw [hP.eol]; exact goodH_len hF.2.1
  have hrgn : rg ≤ 64 := by have := hF.2.2.1.2; omega
  have hsl9 : sl ≤ 4096 := by rw [hP.esl]; exact hF.2.2.2.1
  have hcsl := hP.csl
  have HP : Hid _ := hP
  have HF : Hid (InF ins outs rg ss) := hF
  have HIL : Hid (il = ins.length) := hP.eil
  have HOL : Hid (ol = outs.length) := hP.eol
  have HSL : Hid (sl = ss.length) := hP.esl
  have hb0 : Below w.heap.size w ((w.alloc (.cells #[.slice ia il ic, .slice oa ol oc, .int .i64 rg, .slice sa sl sc] 25)).alloc (.cells #[.int .i64 0, .int .i64 0, .slice none 0 0] 33)) := ((Below.refl _ w).alloc (Nat.le_refl _) _).alloc (by simp) _
  have HC : Hid _ := pcheck_ok ia oa sa il ic ol oc sl sc ins outs rg ss _ s (hP.below hb0) (cell_later hb0 hs) hF
  have hA0 := holds_new (holds_new (holds_nil w) #[.slice ia il ic, .slice oa ol oc, .int .i64 rg, .slice sa sl sc] 25) #[.int .i64 0, .int .i64 0, .slice none 0 0] 33
  simp only [World.size_alloc] at hA0
  have HA0 : Hid _ := hA0
  have HB0 : Hid _ := hb0
  clear hP hs hF hb0 hA0
  go_enter Tryd.func10, Tryd.ntmps10
  go_wp2_with fail
  refine Calls.mono HC.out ?_
  rintro e W ⟨rfl, hb1⟩
  have HW : Hid (Below w.heap.size w W) := HB0.out.trans (hb1.mono HB0.out.size)
  have HA : Hid _ := holds_later HA0.out hb1
  clear hb1 HA0 HB0 HC
  have P0 : Hid (∀ u, Below W.heap.size W u → u.cell? ⟨w.heap.size, 0, none⟩ = some (.slice ia il ic)) := fun u hu => cellAt (heap_later (holds_at HA.out 1 rfl) hu) 0 _ rfl
  have P1 : Hid (∀ u, Below W.heap.size W u → u.cell? ⟨w.heap.size, 1, none⟩ = some (.slice oa ol oc)) := fun u hu => cellAt (heap_later (holds_at HA.out 1 rfl) hu) 1 _ rfl
  have P2 : Hid (∀ u, Below W.heap.size W u → u.cell? ⟨w.heap.size, 2, none⟩ = some (.int .i64 rg)) := fun u hu => cellAt (heap_later (holds_at HA.out 1 rfl) hu) 2 _ rfl
  go_upto_region 4 with fail
  go_cut [5] (fun v wx => ∃ cb M Q, v = .pointer (some ⟨cb, 0, none⟩) ∧ Below W.heap.size W wx ∧ wx.heap[cb]? = some (.cells #[.int .i64 il, .slice (some ⟨M, 0, none⟩) rg rg, .slice (some ⟨Q, 0, none⟩) ol ol] 87 (0, 0)) ∧
    wx.heap[M]? = some (.cells (slO rg il (fun _ => none)) 31 (0, 0)) ∧ wx.heap[Q]? = some (.cells (slO ol il (fun _ => none)) 31 (0, 0)) ∧ W.heap.size ≤ cb ∧ W.heap.size ≤ M ∧ W.heap.size ≤ Q ∧ M ≠ Q ∧ cb ≠ M ∧ cb ≠ Q)
  case first =>
    have hS0 : Below W.heap.size W W.drew := Below.drew (Below.refl _ W)
    refine wp_region_noPanic ?_
    refine wp_region_held_drew (S := fun u => Below W.heap.size W u) (by kernel_rfl) ?_ (fun hHeld => ?_)
    · exact hS0
    refine wpAnyH_take (i := 0) (oi := { dst := some 17, op := Op.fieldAddr 25 (Operand.tmp 1) 0, type := 0, pos := "prog.go:162", after := #[], guard := none }) (v := ?_) rfl (by kernel_rfl) (by kernel_rfl) (by kernel_rfl) (fun _ _ _ h => h) (Or.inl ⟨by rfl, ?_⟩) hHeld ?_
    rotate_left
    · intro u hSw
      go_simp
      try with_reducible rfl
    try simp only [Act.put, List.setIfInBounds_toArray, List.set_cons_zero, List.set_cons_succ]
    refine wpAnyH_take (i := 1) (oi := { dst := some 18, op := Op.load 22 (Operand.tmp 17), type := 22, pos := "prog.go:162", after := #[{ on := 0, ground := Ground.data }], guard := none }) (v := ?_) rfl (by kernel_rfl) (by kernel_rfl) (by kernel_rfl) (fun _ _ _ h => h) (Or.inl ⟨by rfl, ?_⟩) hHeld ?_
    rotate_left
    · intro u hSw
      have k9 := P0.out u hSw
      go_simp
      try with_reducible rfl
    try simp only [Act.put, List.setIfInBounds_toArray, List.set_cons_zero, List.set_cons_succ]
    refine wpAnyH_take (i := 2) (oi := { dst := some 19, op := Op.call { callee := Callee.builtin Builtin.len, args := #[Operand.tmp 18], argTypes := #[22] }, type := 3, pos := "prog.go:162", after := #[{ on := 1, ground := Ground.data }], guard := none }) (v := ?_) rfl (by kernel_rfl) (by kernel_rfl) (by kernel_rfl) (fun _ _ _ h => h) (Or.inl ⟨by rfl, ?_⟩) hHeld ?_
    rotate_left
    · intro u hSw
      go_simp
      try with_reducible rfl
    try simp only [Act.put, List.setIfInBounds_toArray, List.set_cons_zero, List.set_cons_succ]
    refine wpAnyH_take (i := 3) (oi := { dst := some 20, op := Op.fieldAddr 25 (Operand.tmp 1) 2, type := 0, pos := "prog.go:162", after := #[], guard := none }) (v := ?_) rfl (by kernel_rfl) (by kernel_rfl) (by kernel_rfl) (fun _ _ _ h => h) (Or.inl ⟨by rfl, ?_⟩) hHeld ?_
    rotate_left
    · intro u hSw
      go_simp
      try with_reducible rfl
    try simp only [Act.put, List.setIfInBounds_toArray, List.set_cons_zero, List.set_cons_succ]
    refine wpAnyH_take (i := 4) (oi := { dst := some 21, op := Op.load 3 (Operand.tmp 20), type := 3, pos := "prog.go:162", after := #[{ on := 3, ground := Ground.data }], guard := none }) (v := ?_) rfl (by kernel_rfl) (by kernel_rfl) (by kernel_rfl) (fun _ _ _ h => h) (Or.inl ⟨by rfl, ?_⟩) hHeld ?_
    rotate_left
    · intro u hSw
      have k9 := P2.out u hSw
      go_simp
      try with_reducible rfl
    try simp only [Act.put, List.setIfInBounds_toArray, List.set_cons_zero, List.set_cons_succ]
    refine wpAnyH_take (i := 6) (oi := { dst := some 23, op := Op.fieldAddr 25 (Operand.tmp 1) 1, type := 0, pos := "prog.go:162", after := #[], guard := none }) (v := ?_) rfl (by kernel_rfl) (by kernel_rfl) (by kernel_rfl) (fun _ _ _ h => h) (Or.inl ⟨by rfl, ?_⟩) hHeld ?_
    rotate_left
    · intro u hSw
      go_simp
      try with_reducible rfl
    try simp only [Act.put, List.setIfInBounds_toArray, List.set_cons_zero, List.set_cons_succ]
    refine wpAnyH_take (i := 7) (oi := { dst := some 24, op := Op.load 22 (Operand.tmp 23), type := 22, pos := "prog.go:162", after := #[{ on := 6, ground := Ground.data }], guard := none }) (v := ?_) rfl (by kernel_rfl) (by kernel_rfl) (by kernel_rfl) (fun _ _ _ h => h) (Or.inl ⟨by rfl, ?_⟩) hHeld ?_
    rotate_left
    · intro u hSw
      have k9 := P1.out u hSw
      go_simp
      try with_reducible rfl
    try simp only [Act.put, List.setIfInBounds_toArray, List.set_cons_zero, List.set_cons_succ]
    refine wpAnyH_take (i := 8) (oi := { dst := some 25, op := Op.call { callee := Callee.builtin Builtin.len, args := #[Operand.tmp 24], argTypes := #[22] }, type := 3, pos := "prog.go:162", after := #[{ on := 7, ground := Ground.data }], guard := none }) (v := ?_) rfl (by kernel_rfl) (by kernel_rfl) (by kernel_rfl) (fun _ _ _ h => h) (Or.inl ⟨by rfl, ?_⟩) hHeld ?_
    rotate_left
    · intro u hSw
      go_simp
      try with_reducible rfl
    try simp only [Act.put, List.setIfInBounds_toArray, List.set_cons_zero, List.set_cons_succ]
    refine wpAnyH_ready (rs := [5, 9, 11]) (by kernel_rfl) (by simp) ?_
    refine (AllReadyH.cons (o := { dst := some 22, op := Op.makeSlice 67 (Operand.tmp 21) (Operand.tmp 21), type := 67, pos := "prog.go:162", after := #[{ on := 4, ground := Ground.data }, { on := 4, ground := Ground.data }], guard := none }) rfl (fun K hK => ?_) (AllReadyH.cons (o := { dst := some 26, op := Op.makeSlice 67 (Operand.tmp 25) (Operand.tmp 25), type := 67, pos := "prog.go:162", after := #[{ on := 8, ground := Ground.data }, { on := 8, ground := Ground.data }], guard := none }) rfl (fun K hK => ?_) (AllReadyH.cons (o := { dst := some 5, op := Op.alloc 87, type := 0, pos := "prog.go:162", after := #[], guard := none }) rfl (fun K hK => ?_) AllReadyH.nil)))
    · have hS1 : Below W.heap.size W ((W.alloc (.cells (slO rg il (fun _ => none)) 31)).drew) := ((hS0).alloc (by simp <;> omega) _)
      have mkM := run_makeN rg il hrgn (W.drew)
      go_simp
      refine hK.out _ _ ?_ (fun hHeld => ?_)
      · exact hS1
      clear hK K
      try simp only [Act.put, List.setIfInBounds_toArray, List.set_cons_zero, List.set_cons_succ]
      refine wpAnyH_ready (rs := [9, 11]) (by kernel_rfl) (by simp) ?_
      refine (AllReadyH.cons (o := { dst := some 26, op := Op.makeSlice 67 (Operand.tmp 25) (Operand.tmp 25), type := 67, pos := "prog.go:162", after := #[{ on := 8, ground := Ground.data }, { on := 8, ground := Ground.data }], guard := none }) rfl (fun K hK => ?_) (AllReadyH.cons (o := { dst := some 5, op := Op.alloc 87, type := 0, pos := "prog.go:162", after := #[], guard := none }) rfl (fun K hK => ?_) AllReadyH.nil))
      · have hS2 : Below W.heap.size W (((W.alloc (.cells (slO rg il (fun _ => none)) 31)).alloc (.cells (slO ol il (fun _ => none)) 31)).drew) := ((hS1).alloc (by simp <;> omega) _)
        have mkQ := run_makeN ol il (by omega) ((W.alloc (.cells (slO rg il (fun _ => none)) 31)).drew)
        go_simp
        refine hK.out _ _ ?_ (fun hHeld => ?_)
        · exact hS2
        clear hK K
        try simp only [Act.put, List.setIfInBounds_toArray, List.set_cons_zero, List.set_cons_succ]
        refine wpAnyH_take (i := 10) (oi := { dst := some 27, op := Op.build 87 #[(0, Operand.tmp 19), (1, Operand.tmp 22), (2, Operand.tmp 26)], type := 87, pos := "prog.go:162", after := #[{ on := 2, ground := Ground.data }, { on := 5, ground := Ground.data }, { on := 9, ground := Ground.data }], guard := none }) (v := ?_) rfl (by kernel_rfl) (by kernel_rfl) (by kernel_rfl) (fun _ _ _ h => h) (Or.inl ⟨by rfl, ?_⟩) hHeld ?_
        rotate_left
        · intro u hSw
          go_simp
          try with_reducible rfl
        try simp only [Act.put, List.setIfInBounds_toArray, List.set_cons_zero, List.set_cons_succ]
        refine wpAnyH_ready (rs := [11]) (by kernel_rfl) (by simp) ?_
        refine (AllReadyH.cons (o := { dst := some 5, op := Op.alloc 87, type := 0, pos := "prog.go:162", after := #[], guard := none }) rfl (fun K hK => ?_) AllReadyH.nil)
        have hS3 : Below W.heap.size W ((((W.alloc (.cells (slO rg il (fun _ => none)) 31)).alloc (.cells (slO ol il (fun _ => none)) 31)).alloc (.cells #[.int .i64 0, .slice none 0 0, .slice none 0 0] 87)).drew) := ((hS2).alloc (by simp <;> omega) _)
        go_simp
        refine hK.out _ _ ?_ (fun hHeld => ?_)
        · exact hS3
        clear hK K
        try simp only [Act.put, List.setIfInBounds_toArray, List.set_cons_zero, List.set_cons_succ]
        refine wpAnyH_ready (rs := [12]) (by kernel_rfl) (by simp) ?_
        refine (AllReadyH.cons (o := { dst := none, op := Op.store 87 (Operand.tmp 5) (Operand.tmp 27), type := 0, pos := "prog.go:162", after := #[{ on := 11, ground := Ground.data }, { on := 10, ground := Ground.data }, { on := 0, ground := Ground.phase }, { on := 1, ground := Ground.phase }, { on := 2, ground := Ground.phase }, { on := 3, ground := Ground.phase }, { on := 4, ground := Ground.phase }, { on := 5, ground := Ground.phase }, { on := 6, ground := Ground.phase }, { on := 7, ground := Ground.phase }, { on := 8, ground := Ground.phase }, { on := 9, ground := Ground.phase }, { on := 10, ground := Ground.phase }, { on := 11, ground := Ground.phase }], guard := none }) rfl (fun K hK => ?_) AllReadyH.nil)
        go_simp
        refine hK.out _ _ ?_ (fun hHeld => ?_)
        · exact ((((Below.refl W.heap.size W).alloc (by simp <;> omega) _).alloc (by simp <;> omega) _).alloc (by simp <;> omega) _).drew
        clear hK K
        try simp only [Act.put, List.setIfInBounds_toArray, List.set_cons_zero, List.set_cons_succ]
        refine wpAnyH_done (by kernel_rfl) ?_ _
        refine NoPanic.normal ?_
        go_wp2
        go_meet
        have hA : Holds (((W.alloc (.cells (slO rg il (fun _ => none)) 31)).alloc (.cells (slO ol il (fun _ => none)) 31)).alloc (.cells #[.int .i64 il, .slice (some ⟨W.heap.size, 0, none⟩) rg rg, .slice (some ⟨W.heap.size + 1, 0, none⟩) ol ol] 87)) [(W.heap.size + 1 + 1, .cells #[.int .i64 il, .slice (some ⟨W.heap.size, 0, none⟩) rg rg, .slice (some ⟨W.heap.size + 1, 0, none⟩) ol ol] 87 (0, 0)), (W.heap.size + 1, .cells (slO ol il (fun _ => none)) 31 (0, 0)), (W.heap.size, .cells (slO rg il (fun _ => none)) 31 (0, 0))] := by
          have h := holds_new (holds_new (holds_new (holds_nil W) (slO rg il (fun _ => none)) 31) (slO ol il (fun _ => none)) 31) #[.int .i64 il, .slice (some ⟨W.heap.size, 0, none⟩) rg rg, .slice (some ⟨W.heap.size + 1, 0, none⟩) ol ol] 87
          simp only [World.size_alloc] at h
          exact h
        exact ⟨W.heap.size + 1 + 1, W.heap.size, W.heap.size + 1, rfl, ((((Below.refl W.heap.size W).alloc (by simp <;> omega) _).alloc (by simp <;> omega) _).alloc (by simp <;> omega) _).drew, holds_at hA 0 rfl, holds_at hA 2 rfl, holds_at hA 1 rfl, by omega, by omega, by omega, by omega, by omega, by omega⟩
      · have hS2 : Below W.heap.size W (((W.alloc (.cells (slO rg il (fun _ => none)) 31)).alloc (.cells #[.int .i64 0, .slice none 0 0, .slice none 0 0] 87)).drew) := ((hS1).alloc (by simp <;> omega) _)
        go_simp
        refine hK.out _ _ ?_ (fun hHeld => ?_)
        · exact hS2
        clear hK K
        try simp only [Act.put, List.setIfInBounds_toArray, List.set_cons_zero, List.set_cons_succ]
        refine wpAnyH_ready (rs := [9]) (by kernel_rfl) (by simp) ?_
        refine (AllReadyH.cons (o := { dst := some 26, op := Op.makeSlice 67 (Operand.tmp 25) (Operand.tmp 25), type := 67, pos := "prog.go:162", after := #[{ on := 8, ground := Ground.data }, { on := 8, ground := Ground.data }], guard := none }) rfl (fun K hK => ?_) AllReadyH.nil)
        have hS3 : Below W.heap.size W ((((W.alloc (.cells (slO rg il (fun _ => none)) 31)).alloc (.cells #[.int .i64 0, .slice none 0 0, .slice none 0 0] 87)).alloc (.cells (slO ol il (fun _ => none)) 31)).drew) := ((hS2).alloc (by simp <;> omega) _)
        have mkQ := run_makeN ol il (by omega) (((W.alloc (.cells (slO rg il (fun _ => none)) 31)).alloc (.cells #[.int .i64 0, .slice none 0 0, .slice none 0 0] 87)).drew)
        go_simp
        refine hK.out _ _ ?_ (fun hHeld => ?_)
        · exact hS3
        clear hK K
        try simp only [Act.put, List.setIfInBounds_toArray, List.set_cons_zero, List.set_cons_succ]
        refine wpAnyH_take (i := 10) (oi := { dst := some 27, op := Op.build 87 #[(0, Operand.tmp 19), (1, Operand.tmp 22), (2, Operand.tmp 26)], type := 87, pos := "prog.go:162", after := #[{ on := 2, ground := Ground.data }, { on := 5, ground := Ground.data }, { on := 9, ground := Ground.data }], guard := none }) (v := ?_) rfl (by kernel_rfl) (by kernel_rfl) (by kernel_rfl) (fun _ _ _ h => h) (Or.inl ⟨by rfl, ?_⟩) hHeld ?_
        rotate_left
        · intro u hSw
          go_simp
          try with_reducible rfl
        try simp only [Act.put, List.setIfInBounds_toArray, List.set_cons_zero, List.set_cons_succ]
        refine wpAnyH_ready (rs := [12]) (by kernel_rfl) (by simp) ?_
        refine (AllReadyH.cons (o := { dst := none, op := Op.store 87 (Operand.tmp 5) (Operand.tmp 27), type := 0, pos := "prog.go:162", after := #[{ on := 11, ground := Ground.data }, { on := 10, ground := Ground.data }, { on := 0, ground := Ground.phase }, { on := 1, ground := Ground.phase }, { on := 2, ground := Ground.phase }, { on := 3, ground := Ground.phase }, { on := 4, ground := Ground.phase }, { on := 5, ground := Ground.phase }, { on := 6, ground := Ground.phase }, { on := 7, ground := Ground.phase }, { on := 8, ground := Ground.phase }, { on := 9, ground := Ground.phase }, { on := 10, ground := Ground.phase }, { on := 11, ground := Ground.phase }], guard := none }) rfl (fun K hK => ?_) AllReadyH.nil)
        go_simp
        refine hK.out _ _ ?_ (fun hHeld => ?_)
        · exact ((((Below.refl W.heap.size W).alloc (by simp <;> omega) _).alloc (by simp <;> omega) _).alloc (by simp <;> omega) _).drew
        clear hK K
        try simp only [Act.put, List.setIfInBounds_toArray, List.set_cons_zero, List.set_cons_succ]
        refine wpAnyH_done (by kernel_rfl) ?_ _
        refine NoPanic.normal ?_
        go_wp2
        go_meet
        have hA : Holds (((W.alloc (.cells (slO rg il (fun _ => none)) 31)).alloc (.cells #[.int .i64 il, .slice (some ⟨W.heap.size, 0, none⟩) rg rg, .slice (some ⟨W.heap.size + 1 + 1, 0, none⟩) ol ol] 87)).alloc (.cells (slO ol il (fun _ => none)) 31)) [(W.heap.size + 1 + 1, .cells (slO ol il (fun _ => none)) 31 (0, 0)), (W.heap.size + 1, .cells #[.int .i64 il, .slice (some ⟨W.heap.size, 0, none⟩) rg rg, .slice (some ⟨W.heap.size + 1 + 1, 0, none⟩) ol ol] 87 (0, 0)), (W.heap.size, .cells (slO rg il (fun _ => none)) 31 (0, 0))] := by
          have h := holds_new (holds_new (holds_new (holds_nil W) (slO rg il (fun _ => none)) 31) #[.int .i64 il, .slice (some ⟨W.heap.size, 0, none⟩) rg rg, .slice (some ⟨W.heap.size + 1 + 1, 0, none⟩) ol ol] 87) (slO ol il (fun _ => none)) 31
          simp only [World.size_alloc] at h
          exact h
        exact ⟨W.heap.size + 1, W.heap.size, W.heap.size + 1 + 1, rfl, ((((Below.refl W.heap.size W).alloc (by simp <;> omega) _).alloc (by simp <;> omega) _).alloc (by simp <;> omega) _).drew, holds_at hA 1 rfl, holds_at hA 2 rfl, holds_at hA 0 rfl, by omega, by omega, by omega, by omega, by omega, by omega⟩
    · have hS1 : Below W.heap.size W ((W.alloc (.cells (slO ol il (fun _ => none)) 31)).drew) := ((hS0).alloc (by simp <;> omega) _)
      have mkQ := run_makeN ol il (by omega) (W.drew)
      go_simp
      refine hK.out _ _ ?_ (fun hHeld => ?_)
      · exact hS1
      clear hK K
      try simp only [Act.put, List.setIfInBounds_toArray, List.set_cons_zero, List.set_cons_succ]
      refine wpAnyH_ready (rs := [5, 11]) (by kernel_rfl) (by simp) ?_
      refine (AllReadyH.cons (o := { dst := some 22, op := Op.makeSlice 67 (Operand.tmp 21) (Operand.tmp 21), type := 67, pos := "prog.go:162", after := #[{ on := 4, ground := Ground.data }, { on := 4, ground := Ground.data }], guard := none }) rfl (fun K hK => ?_) (AllReadyH.cons (o := { dst := some 5, op := Op.alloc 87, type := 0, pos := "prog.go:162", after := #[], guard := none }) rfl (fun K hK => ?_) AllReadyH.nil))
      · have hS2 : Below W.heap.size W (((W.alloc (.cells (slO ol il (fun _ => none)) 31)).alloc (.cells (slO rg il (fun _ => none)) 31)).drew) := ((hS1).alloc (by simp <;> omega) _)
        have mkM := run_makeN rg il hrgn ((W.alloc (.cells (slO ol il (fun _ => none)) 31)).drew)
        go_simp
        refine hK.out _ _ ?_ (fun hHeld => ?_)
        · exact hS2
        clear hK K
        try simp only [Act.put, List.setIfInBounds_toArray, List.set_cons_zero, List.set_cons_succ]
        refine wpAnyH_take (i := 10) (oi := { dst := some 27, op := Op.build 87 #[(0, Operand.tmp 19), (1, Operand.tmp 22), (2, Operand.tmp 26)], type := 87, pos := "prog.go:162", after := #[{ on := 2, ground := Ground.data }, { on := 5, ground := Ground.data }, { on := 9, ground := Ground.data }], guard := none }) (v := ?_) rfl (by kernel_rfl) (by kernel_rfl) (by kernel_rfl) (fun _ _ _ h => h) (Or.inl ⟨by rfl, ?_⟩) hHeld ?_
        rotate_left
        · intro u hSw
          go_simp
          try with_reducible rfl
        try simp only [Act.put, List.setIfInBounds_toArray, List.set_cons_zero, List.set_cons_succ]
        refine wpAnyH_ready (rs := [11]) (by kernel_rfl) (by simp) ?_
        refine (AllReadyH.cons (o := { dst := some 5, op := Op.alloc 87, type := 0, pos := "prog.go:162", after := #[], guard := none }) rfl (fun K hK => ?_) AllReadyH.nil)
        have hS3 : Below W.heap.size W ((((W.alloc (.cells (slO ol il (fun _ => none)) 31)).alloc (.cells (slO rg il (fun _ => none)) 31)).alloc (.cells #[.int .i64 0, .slice none 0 0, .slice none 0 0] 87)).drew) := ((hS2).alloc (by simp <;> omega) _)
        go_simp
        refine hK.out _ _ ?_ (fun hHeld => ?_)
        · exact hS3
        clear hK K
        try simp only [Act.put, List.setIfInBounds_toArray, List.set_cons_zero, List.set_cons_succ]
        refine wpAnyH_ready (rs := [12]) (by kernel_rfl) (by simp) ?_
        refine (AllReadyH.cons (o := { dst := none, op := Op.store 87 (Operand.tmp 5) (Operand.tmp 27), type := 0, pos := "prog.go:162", after := #[{ on := 11, ground := Ground.data }, { on := 10, ground := Ground.data }, { on := 0, ground := Ground.phase }, { on := 1, ground := Ground.phase }, { on := 2, ground := Ground.phase }, { on := 3, ground := Ground.phase }, { on := 4, ground := Ground.phase }, { on := 5, ground := Ground.phase }, { on := 6, ground := Ground.phase }, { on := 7, ground := Ground.phase }, { on := 8, ground := Ground.phase }, { on := 9, ground := Ground.phase }, { on := 10, ground := Ground.phase }, { on := 11, ground := Ground.phase }], guard := none }) rfl (fun K hK => ?_) AllReadyH.nil)
        go_simp
        refine hK.out _ _ ?_ (fun hHeld => ?_)
        · exact ((((Below.refl W.heap.size W).alloc (by simp <;> omega) _).alloc (by simp <;> omega) _).alloc (by simp <;> omega) _).drew
        clear hK K
        try simp only [Act.put, List.setIfInBounds_toArray, List.set_cons_zero, List.set_cons_succ]
        refine wpAnyH_done (by kernel_rfl) ?_ _
        refine NoPanic.normal ?_
        go_wp2
        go_meet
        have hA : Holds (((W.alloc (.cells (slO ol il (fun _ => none)) 31)).alloc (.cells (slO rg il (fun _ => none)) 31)).alloc (.cells #[.int .i64 il, .slice (some ⟨W.heap.size + 1, 0, none⟩) rg rg, .slice (some ⟨W.heap.size, 0, none⟩) ol ol] 87)) [(W.heap.size + 1 + 1, .cells #[.int .i64 il, .slice (some ⟨W.heap.size + 1, 0, none⟩) rg rg, .slice (some ⟨W.heap.size, 0, none⟩) ol ol] 87 (0, 0)), (W.heap.size + 1, .cells (slO rg il (fun _ => none)) 31 (0, 0)), (W.heap.size, .cells (slO ol il (fun _ => none)) 31 (0, 0))] := by
          have h := holds_new (holds_new (holds_new (holds_nil W) (slO ol il (fun _ => none)) 31) (slO rg il (fun _ => none)) 31) #[.int .i64 il, .slice (some ⟨W.heap.size + 1, 0, none⟩) rg rg, .slice (some ⟨W.heap.size, 0, none⟩) ol ol] 87
          simp only [World.size_alloc] at h
          exact h
        exact ⟨W.heap.size + 1 + 1, W.heap.size + 1, W.heap.size, rfl, ((((Below.refl W.heap.size W).alloc (by simp <;> omega) _).alloc (by simp <;> omega) _).alloc (by simp <;> omega) _).drew, holds_at hA 0 rfl, holds_at hA 1 rfl, holds_at hA 2 rfl, by omega, by omega, by omega, by omega, by omega, by omega⟩
      · have hS2 : Below W.heap.size W (((W.alloc (.cells (slO ol il (fun _ => none)) 31)).alloc (.cells #[.int .i64 0, .slice none 0 0, .slice none 0 0] 87)).drew) := ((hS1).alloc (by simp <;> omega) _)
        go_simp
        refine hK.out _ _ ?_ (fun hHeld => ?_)
        · exact hS2
        clear hK K
        try simp only [Act.put, List.setIfInBounds_toArray, List.set_cons_zero, List.set_cons_succ]
        refine wpAnyH_ready (rs := [5]) (by kernel_rfl) (by simp) ?_
        refine (AllReadyH.cons (o := { dst := some 22, op := Op.makeSlice 67 (Operand.tmp 21) (Operand.tmp 21), type := 67, pos := "prog.go:162", after := #[{ on := 4, ground := Ground.data }, { on := 4, ground := Ground.data }], guard := none }) rfl (fun K hK => ?_) AllReadyH.nil)
        have hS3 : Below W.heap.size W ((((W.alloc (.cells (slO ol il (fun _ => none)) 31)).alloc (.cells #[.int .i64 0, .slice none 0 0, .slice none 0 0] 87)).alloc (.cells (slO rg il (fun _ => none)) 31)).drew) := ((hS2).alloc (by simp <;> omega) _)
        have mkM := run_makeN rg il hrgn (((W.alloc (.cells (slO ol il (fun _ => none)) 31)).alloc (.cells #[.int .i64 0, .slice none 0 0, .slice none 0 0] 87)).drew)
        go_simp
        refine hK.out _ _ ?_ (fun hHeld => ?_)
        · exact hS3
        clear hK K
        try simp only [Act.put, List.setIfInBounds_toArray, List.set_cons_zero, List.set_cons_succ]
        refine wpAnyH_take (i := 10) (oi := { dst := some 27, op := Op.build 87 #[(0, Operand.tmp 19), (1, Operand.tmp 22), (2, Operand.tmp 26)], type := 87, pos := "prog.go:162", after := #[{ on := 2, ground := Ground.data }, { on := 5, ground := Ground.data }, { on := 9, ground := Ground.data }], guard := none }) (v := ?_) rfl (by kernel_rfl) (by kernel_rfl) (by kernel_rfl) (fun _ _ _ h => h) (Or.inl ⟨by rfl, ?_⟩) hHeld ?_
        rotate_left
        · intro u hSw
          go_simp
          try with_reducible rfl
        try simp only [Act.put, List.setIfInBounds_toArray, List.set_cons_zero, List.set_cons_succ]
        refine wpAnyH_ready (rs := [12]) (by kernel_rfl) (by simp) ?_
        refine (AllReadyH.cons (o := { dst := none, op := Op.store 87 (Operand.tmp 5) (Operand.tmp 27), type := 0, pos := "prog.go:162", after := #[{ on := 11, ground := Ground.data }, { on := 10, ground := Ground.data }, { on := 0, ground := Ground.phase }, { on := 1, ground := Ground.phase }, { on := 2, ground := Ground.phase }, { on := 3, ground := Ground.phase }, { on := 4, ground := Ground.phase }, { on := 5, ground := Ground.phase }, { on := 6, ground := Ground.phase }, { on := 7, ground := Ground.phase }, { on := 8, ground := Ground.phase }, { on := 9, ground := Ground.phase }, { on := 10, ground := Ground.phase }, { on := 11, ground := Ground.phase }], guard := none }) rfl (fun K hK => ?_) AllReadyH.nil)
        go_simp
        refine hK.out _ _ ?_ (fun hHeld => ?_)
        · exact ((((Below.refl W.heap.size W).alloc (by simp <;> omega) _).alloc (by simp <;> omega) _).alloc (by simp <;> omega) _).drew
        clear hK K
        try simp only [Act.put, List.setIfInBounds_toArray, List.set_cons_zero, List.set_cons_succ]
        refine wpAnyH_done (by kernel_rfl) ?_ _
        refine NoPanic.normal ?_
        go_wp2
        go_meet
        have hA : Holds (((W.alloc (.cells (slO ol il (fun _ => none)) 31)).alloc (.cells #[.int .i64 il, .slice (some ⟨W.heap.size + 1 + 1, 0, none⟩) rg rg, .slice (some ⟨W.heap.size, 0, none⟩) ol ol] 87)).alloc (.cells (slO rg il (fun _ => none)) 31)) [(W.heap.size + 1 + 1, .cells (slO rg il (fun _ => none)) 31 (0, 0)), (W.heap.size + 1, .cells #[.int .i64 il, .slice (some ⟨W.heap.size + 1 + 1, 0, none⟩) rg rg, .slice (some ⟨W.heap.size, 0, none⟩) ol ol] 87 (0, 0)), (W.heap.size, .cells (slO ol il (fun _ => none)) 31 (0, 0))] := by
          have h := holds_new (holds_new (holds_new (holds_nil W) (slO ol il (fun _ => none)) 31) #[.int .i64 il, .slice (some ⟨W.heap.size + 1 + 1, 0, none⟩) rg rg, .slice (some ⟨W.heap.size, 0, none⟩) ol ol] 87) (slO rg il (fun _ => none)) 31
          simp only [World.size_alloc] at h
          exact h
        exact ⟨W.heap.size + 1, W.heap.size + 1 + 1, W.heap.size, rfl, ((((Below.refl W.heap.size W).alloc (by simp <;> omega) _).alloc (by simp <;> omega) _).alloc (by simp <;> omega) _).drew, holds_at hA 1 rfl, holds_at hA 0 rfl, holds_at hA 2 rfl, by omega, by omega, by omega, by omega, by omega, by omega⟩
    · have hS1 : Below W.heap.size W ((W.alloc (.cells #[.int .i64 0, .slice none 0 0, .slice none 0 0] 87)).drew) := ((hS0).alloc (by simp <;> omega) _)
      go_simp
      refine hK.out _ _ ?_ (fun hHeld => ?_)
      · exact hS1
      clear hK K
      try simp only [Act.put, List.setIfInBounds_toArray, List.set_cons_zero, List.set_cons_succ]
      refine wpAnyH_ready (rs := [5, 9]) (by kernel_rfl) (by simp) ?_
      refine (AllReadyH.cons (o := { dst := some 22, op := Op.makeSlice 67 (Operand.tmp 21) (Operand.tmp 21), type := 67, pos := "prog.go:162", after := #[{ on := 4, ground := Ground.data }, { on := 4, ground := Ground.data }], guard := none }) rfl (fun K hK => ?_) (AllReadyH.cons (o := { dst := some 26, op := Op.makeSlice 67 (Operand.tmp 25) (Operand.tmp 25), type := 67, pos := "prog.go:162", after := #[{ on := 8, ground := Ground.data }, { on := 8, ground := Ground.data }], guard := none }) rfl (fun K hK => ?_) AllReadyH.nil))
      · have hS2 : Below W.heap.size W (((W.alloc (.cells #[.int .i64 0, .slice none 0 0, .slice none 0 0] 87)).alloc (.cells (slO rg il (fun _ => none)) 31)).drew) := ((hS1).alloc (by simp <;> omega) _)
        have mkM := run_makeN rg il hrgn ((W.alloc (.cells #[.int .i64 0, .slice none 0 0, .slice none 0 0] 87)).drew)
        go_simp
        refine hK.out _ _ ?_ (fun hHeld => ?_)
        · exact hS2
        clear hK K
        try simp only [Act.put, List.setIfInBounds_toArray, List.set_cons_zero, List.set_cons_succ]
        refine wpAnyH_ready (rs := [9]) (by kernel_rfl) (by simp) ?_
        refine (AllReadyH.cons (o := { dst := some 26, op := Op.makeSlice 67 (Operand.tmp 25) (Operand.tmp 25), type := 67, pos := "prog.go:162", after := #[{ on := 8, ground := Ground.data }, { on := 8, ground := Ground.data }], guard := none }) rfl (fun K hK => ?_) AllReadyH.nil)
        have hS3 : Below W.heap.size W ((((W.alloc (.cells #[.int .i64 0, .slice none 0 0, .slice none 0 0] 87)).alloc (.cells (slO rg il (fun _ => none)) 31)).alloc (.cells (slO ol il (fun _ => none)) 31)).drew) := ((hS2).alloc (by simp <;> omega) _)
        have mkQ := run_makeN ol il (by omega) (((W.alloc (.cells #[.int .i64 0, .slice none 0 0, .slice none 0 0] 87)).alloc (.cells (slO rg il (fun _ => none)) 31)).drew)
        go_simp
        refine hK.out _ _ ?_ (fun hHeld => ?_)
        · exact hS3
        clear hK K
        try simp only [Act.put, List.setIfInBounds_toArray, List.set_cons_zero, List.set_cons_succ]
        refine wpAnyH_take (i := 10) (oi := { dst := some 27, op := Op.build 87 #[(0, Operand.tmp 19), (1, Operand.tmp 22), (2, Operand.tmp 26)], type := 87, pos := "prog.go:162", after := #[{ on := 2, ground := Ground.data }, { on := 5, ground := Ground.data }, { on := 9, ground := Ground.data }], guard := none }) (v := ?_) rfl (by kernel_rfl) (by kernel_rfl) (by kernel_rfl) (fun _ _ _ h => h) (Or.inl ⟨by rfl, ?_⟩) hHeld ?_
        rotate_left
        · intro u hSw
          go_simp
          try with_reducible rfl
        try simp only [Act.put, List.setIfInBounds_toArray, List.set_cons_zero, List.set_cons_succ]
        refine wpAnyH_ready (rs := [12]) (by kernel_rfl) (by simp) ?_
        refine (AllReadyH.cons (o := { dst := none, op := Op.store 87 (Operand.tmp 5) (Operand.tmp 27), type := 0, pos := "prog.go:162", after := #[{ on := 11, ground := Ground.data }, { on := 10, ground := Ground.data }, { on := 0, ground := Ground.phase }, { on := 1, ground := Ground.phase }, { on := 2, ground := Ground.phase }, { on := 3, ground := Ground.phase }, { on := 4, ground := Ground.phase }, { on := 5, ground := Ground.phase }, { on := 6, ground := Ground.phase }, { on := 7, ground := Ground.phase }, { on := 8, ground := Ground.phase }, { on := 9, ground := Ground.phase }, { on := 10, ground := Ground.phase }, { on := 11, ground := Ground.phase }], guard := none }) rfl (fun K hK => ?_) AllReadyH.nil)
        go_simp
        refine hK.out _ _ ?_ (fun hHeld => ?_)
        · exact ((((Below.refl W.heap.size W).alloc (by simp <;> omega) _).alloc (by simp <;> omega) _).alloc (by simp <;> omega) _).drew
        clear hK K
        try simp only [Act.put, List.setIfInBounds_toArray, List.set_cons_zero, List.set_cons_succ]
        refine wpAnyH_done (by kernel_rfl) ?_ _
        refine NoPanic.normal ?_
        go_wp2
        go_meet
        have hA : Holds (((W.alloc (.cells #[.int .i64 il, .slice (some ⟨W.heap.size + 1, 0, none⟩) rg rg, .slice (some ⟨W.heap.size + 1 + 1, 0, none⟩) ol ol] 87)).alloc (.cells (slO rg il (fun _ => none)) 31)).alloc (.cells (slO ol il (fun _ => none)) 31)) [(W.heap.size + 1 + 1, .cells (slO ol il (fun _ => none)) 31 (0, 0)), (W.heap.size + 1, .cells (slO rg il (fun _ => none)) 31 (0, 0)), (W.heap.size, .cells #[.int .i64 il, .slice (some ⟨W.heap.size + 1, 0, none⟩) rg rg, .slice (some ⟨W.heap.size + 1 + 1, 0, none⟩) ol ol] 87 (0, 0))] := by
          have h := holds_new (holds_new (holds_new (holds_nil W) #[.int .i64 il, .slice (some ⟨W.heap.size + 1, 0, none⟩) rg rg, .slice (some ⟨W.heap.size + 1 + 1, 0, none⟩) ol ol] 87) (slO rg il (fun _ => none)) 31) (slO ol il (fun _ => none)) 31
          simp only [World.size_alloc] at h
          exact h
        exact ⟨W.heap.size, W.heap.size + 1, W.heap.size + 1 + 1, rfl, ((((Below.refl W.heap.size W).alloc (by simp <;> omega) _).alloc (by simp <;> omega) _).alloc (by simp <;> omega) _).drew, holds_at hA 2 rfl, holds_at hA 1 rfl, holds_at hA 0 rfl, by omega, by omega, by omega, by omega, by omega, by omega⟩
      · have hS2 : Below W.heap.size W (((W.alloc (.cells #[.int .i64 0, .slice none 0 0, .slice none 0 0] 87)).alloc (.cells (slO ol il (fun _ => none)) 31)).drew) := ((hS1).alloc (by simp <;> omega) _)
        have mkQ := run_makeN ol il (by omega) ((W.alloc (.cells #[.int .i64 0, .slice none 0 0, .slice none 0 0] 87)).drew)
        go_simp
        refine hK.out _ _ ?_ (fun hHeld => ?_)
        · exact hS2
        clear hK K
        try simp only [Act.put, List.setIfInBounds_toArray, List.set_cons_zero, List.set_cons_succ]
        refine wpAnyH_ready (rs := [5]) (by kernel_rfl) (by simp) ?_
        refine (AllReadyH.cons (o := { dst := some 22, op := Op.makeSlice 67 (Operand.tmp 21) (Operand.tmp 21), type := 67, pos := "prog.go:162", after := #[{ on := 4, ground := Ground.data }, { on := 4, ground := Ground.data }], guard := none }) rfl (fun K hK => ?_) AllReadyH.nil)
        have hS3 : Below W.heap.size W ((((W.alloc (.cells #[.int .i64 0, .slice none 0 0, .slice none 0 0] 87)).alloc (.cells (slO ol il (fun _ => none)) 31)).alloc (.cells (slO rg il (fun _ => none)) 31)).drew) := ((hS2).alloc (by simp <;> omega) _)
        have mkM := run_makeN rg il hrgn (((W.alloc (.cells #[.int .i64 0, .slice none 0 0, .slice none 0 0] 87)).alloc (.cells (slO ol il (fun _ => none)) 31)).drew)
        go_simp
        refine hK.out _ _ ?_ (fun hHeld => ?_)
        · exact hS3
        clear hK K
        try simp only [Act.put, List.setIfInBounds_toArray, List.set_cons_zero, List.set_cons_succ]
        refine wpAnyH_take (i := 10) (oi := { dst := some 27, op := Op.build 87 #[(0, Operand.tmp 19), (1, Operand.tmp 22), (2, Operand.tmp 26)], type := 87, pos := "prog.go:162", after := #[{ on := 2, ground := Ground.data }, { on := 5, ground := Ground.data }, { on := 9, ground := Ground.data }], guard := none }) (v := ?_) rfl (by kernel_rfl) (by kernel_rfl) (by kernel_rfl) (fun _ _ _ h => h) (Or.inl ⟨by rfl, ?_⟩) hHeld ?_
        rotate_left
        · intro u hSw
          go_simp
          try with_reducible rfl
        try simp only [Act.put, List.setIfInBounds_toArray, List.set_cons_zero, List.set_cons_succ]
        refine wpAnyH_ready (rs := [12]) (by kernel_rfl) (by simp) ?_
        refine (AllReadyH.cons (o := { dst := none, op := Op.store 87 (Operand.tmp 5) (Operand.tmp 27), type := 0, pos := "prog.go:162", after := #[{ on := 11, ground := Ground.data }, { on := 10, ground := Ground.data }, { on := 0, ground := Ground.phase }, { on := 1, ground := Ground.phase }, { on := 2, ground := Ground.phase }, { on := 3, ground := Ground.phase }, { on := 4, ground := Ground.phase }, { on := 5, ground := Ground.phase }, { on := 6, ground := Ground.phase }, { on := 7, ground := Ground.phase }, { on := 8, ground := Ground.phase }, { on := 9, ground := Ground.phase }, { on := 10, ground := Ground.phase }, { on := 11, ground := Ground.phase }], guard := none }) rfl (fun K hK => ?_) AllReadyH.nil)
        go_simp
        refine hK.out _ _ ?_ (fun hHeld => ?_)
        · exact ((((Below.refl W.heap.size W).alloc (by simp <;> omega) _).alloc (by simp <;> omega) _).alloc (by simp <;> omega) _).drew
        clear hK K
        try simp only [Act.put, List.setIfInBounds_toArray, List.set_cons_zero, List.set_cons_succ]
        refine wpAnyH_done (by kernel_rfl) ?_ _
        refine NoPanic.normal ?_
        go_wp2
        go_meet
        have hA : Holds (((W.alloc (.cells #[.int .i64 il, .slice (some ⟨W.heap.size + 1 + 1, 0, none⟩) rg rg, .slice (some ⟨W.heap.size + 1, 0, none⟩) ol ol] 87)).alloc (.cells (slO ol il (fun _ => none)) 31)).alloc (.cells (slO rg il (fun _ => none)) 31)) [(W.heap.size + 1 + 1, .cells (slO rg il (fun _ => none)) 31 (0, 0)), (W.heap.size + 1, .cells (slO ol il (fun _ => none)) 31 (0, 0)), (W.heap.size, .cells #[.int .i64 il, .slice (some ⟨W.heap.size + 1 + 1, 0, none⟩) rg rg, .slice (some ⟨W.heap.size + 1, 0, none⟩) ol ol] 87 (0, 0))] := by
          have h := holds_new (holds_new (holds_new (holds_nil W) #[.int .i64 il, .slice (some ⟨W.heap.size + 1 + 1, 0, none⟩) rg rg, .slice (some ⟨W.heap.size + 1, 0, none⟩) ol ol] 87) (slO ol il (fun _ => none)) 31) (slO rg il (fun _ => none)) 31
          simp only [World.size_alloc] at h
          exact h
        exact ⟨W.heap.size, W.heap.size + 1 + 1, W.heap.size + 1, rfl, ((((Below.refl W.heap.size W).alloc (by simp <;> omega) _).alloc (by simp <;> omega) _).alloc (by simp <;> omega) _).drew, holds_at hA 2 rfl, holds_at hA 0 rfl, holds_at hA 1 rfl, by omega, by omega, by omega, by omega, by omega, by omega⟩

  case rest =>
  obtain ⟨cb, M, Q, rfl, hbc, hkc, hkM, hkQ, hl1, hl2, hl3, hn1, hn2, hn3⟩ := hcut
  have HI0 : Hid (IniW W.heap.size wc cb M Q il rg ol 0 (fun _ => none)) := ⟨hkc, hkM, hkQ, fun x hx => absurd hx (Nat.not_lt_zero _), hl1, hl2, hl3, hn1, hn2, hn3⟩
  have HBC : Hid (Below W.heap.size W wc) := hbc
  have c1 := cellAt hkc 1 _ rfl
  clear hbc hkc hkM hkQ hl1 hl2 hl3 hn1 hn2 hn3 P0 P1 P2
  go_wp2
  clear c1
  go_loopw [31] (fun i wr => ∃ (k : Nat) (g : Nat → Option (Option Addr × Nat)), k ≤ rg ∧ i = .int .i64 k ∧ Below W.heap.size W wr ∧ IniW W.heap.size wr cb M Q il rg ol k g) (fun i _ => rg - (intOf i).toNat)
  case atStart => exact ⟨0, _, Nat.zero_le _, rfl, HBC.out, HI0.out⟩
  case round =>
    obtain ⟨k, g, hk, rfl, hbr, hir⟩ := hrel
    have HBR : Hid (Below W.heap.size W wr) := hbr
    have HI : Hid _ := hir
    clear hbr hir
    by_cases hlt : k < rg
    · have HK1 : Hid (∀ u, wr.grownBy u (some M) → u.cell? ⟨cb, 1, none⟩ = some (.slice (some ⟨M, 0, none⟩) rg rg)) := fun u hu => cellAt ((hu.block cb (ltHeap HI.out.blk) (by simpa using HI.out.hcM)).trans HI.out.blk) 1 _ rfl
      go_wp2
      refine wp_region_noPanic ?_
      refine wp_region_held_drew (S := fun u => wr.grownBy u (some M)) (by kernel_rfl) ?_ (fun hHeld => ?_)
      · exact grownBy_drew (World.grownBy.refl _ _)
      refine wpAnyH_take (i := 0) (oi := { dst := some 34, op := Op.fieldAddr 87 (Operand.tmp 5) 1, type := 0, pos := "prog.go:164", after := #[], guard := none }) (v := ?_) rfl (by kernel_rfl) (by kernel_rfl) (by kernel_rfl) (fun _ _ _ h => h) (Or.inl ⟨by rfl, ?_⟩) hHeld ?_
      rotate_left
      · intro u hSw
        go_simp
        try with_reducible rfl
      try simp only [Act.put, List.setIfInBounds_toArray, List.set_cons_zero, List.set_cons_succ]
      refine wpAnyH_take (i := 1) (oi := { dst := some 35, op := Op.load 67 (Operand.tmp 34), type := 67, pos := "prog.go:164", after := #[{ on := 0, ground := Ground.data }], guard := none }) (v := ?_) rfl (by kernel_rfl) (by kernel_rfl) (by kernel_rfl) (fun _ _ _ h => h) (Or.inl ⟨by rfl, ?_⟩) hHeld ?_
      rotate_left
      · intro u hSw
        have k9 := HK1.out u hSw
        go_simp
        try with_reducible rfl
      try simp only [Act.put, List.setIfInBounds_toArray, List.set_cons_zero, List.set_cons_succ]
      refine wpAnyH_take (i := 2) (oi := { dst := some 36, op := Op.move (Operand.tmp 6), type := 3, pos := "prog.go:164", after := #[], guard := none }) (v := ?_) rfl (by kernel_rfl) (by kernel_rfl) (by kernel_rfl) (fun _ _ _ h => h) (Or.inl ⟨by rfl, ?_⟩) hHeld ?_
      rotate_left
      · intro u hSw
        go_simp
        try with_reducible rfl
      try simp only [Act.put, List.setIfInBounds_toArray, List.set_cons_zero, List.set_cons_succ]
      refine wpAnyH_ready (rs := [3]) (by kernel_rfl) (by simp) ?_
      refine (AllReadyH.cons (o := { dst := some 37, op := Op.call { callee := Callee.value (Operand.func 43), args := #[Operand.tmp 5], argTypes := #[87] }, type := 31, pos := "prog.go:164", after := #[], guard := none }) rfl (fun K hK => ?_) AllReadyH.nil)
      go_simp
      refine Calls.mono (nothing_F cb il _ (by omega) (cellAt HI.out.drew.blk 0 _ rfl)) ?_
      rintro e w6 ⟨rfl, hw6⟩
      have hb6 : Below wr.drew.heap.size wr.drew w6 := by rw [hw6]; exact (Below.refl _ _).alloc (Nat.le_refl _) _
      have hr6 : w6.heap[wr.heap.size]? = some (.cells (vfs (zeros il)) 5 (0, 0)) := by rw [hw6]; exact heap_alloc_last _ _
      have hI6 := HI.out.drew.below hb6
      have hS6 : wr.grownBy w6 (some M) := grown_below (grownBy_drew (World.grownBy.refl _ _)) hb6
      clear hw6
      go_wp2_with fail
      refine hK.out _ _ ?_ (fun hHeld => ?_)
      · exact hS6
      clear hK K
      try simp only [Act.put, List.setIfInBounds_toArray, List.set_cons_zero, List.set_cons_succ]
      refine wpAnyH_take (i := 4) (oi := { dst := some 38, op := Op.indexAddr 67 (Operand.tmp 35) (Operand.tmp 36), type := 0, pos := "prog.go:164", after := #[{ on := 1, ground := Ground.data }, { on := 2, ground := Ground.data }, { on := 0, ground := Ground.phase }, { on := 1, ground := Ground.phase }, { on := 2, ground := Ground.phase }, { on := 3, ground := Ground.phase }], guard := none }) (v := ?_) rfl (by kernel_rfl) (by kernel_rfl) (by kernel_rfl) (fun _ _ _ h => h) (Or.inl ⟨by rfl, ?_⟩) hHeld ?_
      rotate_left
      · intro u hSw
        go_simp
        try with_reducible rfl
      try simp only [Act.put, List.setIfInBounds_toArray, List.set_cons_zero, List.set_cons_succ]
      refine wpAnyH_ready (rs := [5]) (by kernel_rfl) (by simp) ?_
      refine (AllReadyH.cons (o := { dst := none, op := Op.store 31 (Operand.tmp 38) (Operand.tmp 37), type := 0, pos := "prog.go:164", after := #[{ on := 4, ground := Ground.data }, { on := 3, ground := Ground.data }, { on := 3, ground := Ground.chain }, { on := 0, ground := Ground.phase }, { on := 1, ground := Ground.phase }, { on := 2, ground := Ground.phase }, { on := 3, ground := Ground.phase }], guard := none }) rfl (fun K hK => ?_) AllReadyH.nil)
      have d8 : w6.frozen? ⟨M, k, none⟩ = false := frozen_of_row _ _ _ _ _ hI6.regs
      obtain ⟨d9, e9⟩ : ∃ d9, w6.cell? ⟨M, k, none⟩ = some d9 := ⟨_, cellAt hI6.regs k _ (slO_at hlt)⟩
      go_simp
      refine hK.out _ _ ?_ (fun hHeld => ?_)
      · exact grownBy_setCell hS6 _
      clear hK K
      try simp only [Act.put, List.setIfInBounds_toArray, List.set_cons_zero, List.set_cons_succ]
      refine wpAnyH_done (by kernel_rfl) ?_ _
      refine NoPanic.normal ?_

      have HP : Hid _ := hI6.put hlt (a := some ⟨wr.heap.size, 0, none⟩) (m := il) (by rw [← zeros_rowF]; exact row8T_own hr6) (Nat.le_refl _) (fun e => by cases e)
      have HPB : Hid _ := ((HBR.out.drew).trans (hb6.mono HBR.out.size)).setCell (p := ⟨M, k, none⟩) HI.out.hM (.slice (some ⟨wr.heap.size, 0, none⟩) il il)
      clear hI6 hr6 hb6 hS6 d8 e9 HK1
      go_wp2
      exact ⟨⟨k + 1, _, by omega, by go_num, HPB.out, HP.out⟩, by simp [intOf]; omega⟩
    · obtain rfl : k = rg := by omega
      have HCM0 : Hid _ := HI.out.done
      have hPA := heap_later (holds_at HA.out 1 rfl) HBR.out
      have p3 := cellAt hPA 3 _ rfl
      clear hPA
      go_wp2
      clear p3
      generalize wr = wq at *
      go_loopw [43] (fun i wr => ∃ (j : Nat) (f : Nat → Option Addr × Nat) (g : Nat → Option (Option Addr × Nat)), j ≤ sl ∧ i = .int .i64 j ∧ Below W.heap.size W wr ∧ CmbW W.heap.size wr cb M Q il k ol f g (runR unX (ss.take j) (fun _ _ => 0)) (runO unX (ss.take j) (fun _ _ => 0) (fun _ _ => 0)) ∧ ∀ d : Nat, (g d).isSome = decide (1 ≤ cntO (ss.take j) d)) (fun i _ => sl - (intOf i).toNat)
      case atStart => exact ⟨0, _, _, Nat.zero_le _, rfl, HBR.out, by rw [List.take_zero]; exact HCM0.out, fun d => by rw [List.take_zero]; rfl⟩
      case round =>
        obtain ⟨j, f, g2, hj, rfl, hbr, hcm, hgs⟩ := hrel
        have HBR2 : Hid (Below W.heap.size W wr) := hbr
        have HCM : Hid _ := hcm
        have HGS : Hid (∀ d : Nat, (g2 d).isSome = decide (1 ≤ cntO (ss.take j) d)) := hgs
        clear hbr hcm hgs
        by_cases hlj : j < sl
        · have hjs : j < ss.length := by rw [← HSL.out]; exact hlj
          obtain ⟨b, off, hsa, hc⟩ := stpW_get (stpW_below HP.out.S (HW.out.trans (HBR2.out.mono HW.out.size))) hjs
          obtain ⟨c0, c1, c2, c3⟩ := hc j hjs
          obtain ⟨⟨op, dst, src, c⟩, hs⟩ : ∃ s, ss[j] = s := ⟨_, rfl⟩
          rw [hs] at c0 c1 c2 c3
          simp only at c0 c1 c2 c3
          have hget : ss[j]? = some ⟨op, dst, src, c⟩ := by rw [List.getElem?_eq_getElem hjs, hs]
          have HTK : Hid (ss.take (j + 1) = ss.take j ++ [⟨op, dst, src, c⟩]) := by show _ = _; rw [List.take_add_one, hget]; rfl
          have hok : OkS il ol k ⟨op, dst, src, c⟩ := by rw [HIL.out, HOL.out]; exact HF.out.2.2.2.2.1 _ (List.mem_of_getElem? hget)
          have HOK : Hid _ := hok
          have hop : 1 ≤ op ∧ op ≤ 5 := by unfold OkS at hok; simp only at hok; omega
          have HO0 : Hid (okN op = true) := decide_eq_true hop
          obtain ⟨s9, f9, so, an, as9, ou, n9, m9, hO, hmm⟩ := op_some hop
          have HMM : Hid _ := hmm
          have HO1 : Hid _ := hO.cells
          have hem := hO.em
          subst hsa
          clear hc hs hget hjs hok hop hO hmm
          have HB1 : Hid (Below W.heap.size W (wr.alloc (.cells #[.int .i64 op, .int .i64 dst, .int .i64 src, .int .u8 (c.toNat : Int)] 48))) := HBR2.out.alloc HBR2.out.size _
          have HS1 : Hid _ := heap_alloc_last wr (.cells #[.int .i64 op, .int .i64 dst, .int .i64 src, .int .u8 (c.toNat : Int)] 48)
          have HC1 : Hid _ := HCM.out.below ((Below.refl _ wr).alloc (Nat.le_refl _) (.cells #[.int .i64 op, .int .i64 dst, .int .i64 src, .int .u8 (c.toNat : Int)] 48))
          go_wp2_with fail
          refine Calls.mono (find_F op _) ?_
          rw [HO0.out, HO1.out]
          rintro e w2 ⟨rfl, hb2⟩
          have HB2 : Hid (Below W.heap.size W w2) := HB1.out.trans (hb2.mono HB1.out.size)
          have HC2 : Hid _ := HC1.out.below hb2
          have hs2 := heap_later HS1.out hb2
          have HS3 : Hid _ := heap_later hs2 ((Below.refl _ w2).alloc (Nat.le_refl _) (.cells #[.string s9, .bool f9, .bool so, .bool an, .bool as9, .bool ou, .func (.func n9) #[] #[], .func (.func m9) #[] #[]] 92))
          have HC3 : Hid _ := HC2.out.below ((Below.refl _ w2).alloc (Nat.le_refl _) (.cells #[.string s9, .bool f9, .bool so, .bool an, .bool as9, .bool ou, .func (.func n9) #[] #[], .func (.func m9) #[] #[]] 92))
          have HB3 : Hid (Below W.heap.size W (w2.alloc (.cells #[.string s9, .bool f9, .bool so, .bool an, .bool as9, .bool ou, .func (.func n9) #[] #[], .func (.func m9) #[] #[]] 92))) := HB2.out.alloc HB2.out.size _
          have s0 := cellAt HS3.out 0 _ rfl
          have s1 := cellAt HS3.out 1 _ rfl
          have s2 := cellAt HS3.out 2 _ rfl
          have s3 := cellAt HS3.out 3 _ rfl
          have q0 := cellAt hs2 0 _ rfl
          clear hb2 hs2 c0 c1 c2 c3
          go_wp2_with fail
          refine Calls.mono (does_F W.heap.size cb M Q il k ol f g2 _ _ ⟨op, dst, src, c⟩ m9 _ (by omega) (by omega) (by omega) HB3.out.size HC3.out HOK.out HMM.out) ?_
          clear hem s0 s1 s2 s3 q0
          rintro e w4 ⟨rfl, ⟨f4, g4, hc4, hg4⟩, hb4⟩
          have HB4 : Hid (Below W.heap.size W w4) := HB3.out.trans hb4
          have HC4 : Hid (CmbW W.heap.size w4 cb M Q il k ol f4 g4 (runR unX (ss.take (j + 1)) (fun _ _ => 0)) (runO unX (ss.take (j + 1)) (fun _ _ => 0) (fun _ _ => 0))) := by
            rw [HTK.out, runR_app, runO_app]; exact hc4
          have HG4 : Hid (∀ d : Nat, (g4 d).isSome = decide (1 ≤ cntO (ss.take (j + 1)) d)) := fun d => by
            rw [hg4, HGS.out, HTK.out]
            by_cases e1 : op = 5
            · by_cases e2 : dst = (d : Int)
              · rw [cnt_out e1 e2]; simp [e1, e2]
              · rw [cnt_other e2]; simp [e2]
            · rw [cnt_not e1]; simp [e1]
          clear hc4 hg4 hb4
          go_wp2
          exact ⟨⟨j + 1, f4, g4, by omega, by go_num, HB4.out, HC4.out, HG4.out⟩, by simp [intOf]; omega⟩
        · obtain rfl : j = sl := by omega
          have hfull : ss.take j = ss := by rw [HSL.out, List.take_length]
          have hcm := HCM.out
          have hgs := HGS.out
          rw [hfull] at hcm hgs
          have HR : Hid (Rows8 wr (some ⟨Q, 0, none⟩) (meanRows il ol ss)) := outs_rows8 hcm (fun d hd => by rw [hgs]; exact decide_eq_true (by have := HF.out.2.2.2.2.2 d (by rw [← HOL.out]; exact hd); omega))
          have q0 := cellAt hcm.blk 0 _ rfl
          have q2 := cellAt hcm.blk 2 _ rfl
          clear hfull hcm hgs
          go_wp2_with fail
          refine Calls.mono (of_F il ol ol (some ⟨Q, 0, none⟩) (meanRows il ol ss) _ (by omega) (meanRows_len _ _ _).symm (by omega) (fun xs h => by obtain ⟨d, _, rfl⟩ := List.mem_map.1 h; exact rowF_len _ _) HR.out) ?_
          rintro e w6 ⟨g6, m6, rfl, hm6, hg6, hh6, hb6⟩
          have HB6 : Hid (Below w.heap.size w w6) := (HW.out.trans (HBR2.out.mono HW.out.size)).trans (hb6.mono (by have := HW.out.size; have := HBR2.out.size; omega))
          have hmk := heap_later (heap_later (holds_at HA.out 0 rfl) HBR2.out) hb6
          have HH6 : Hid _ := hh6
          have HM6 : Hid (m6 = ol * il) := hm6
          have hlt6 : w.heap.size + 1 < g6 := by have := ltHeap (holds_at HA.out 0 rfl); have := HBR2.out.size; omega
          have r0 := cellAt hmk 0 _ rfl
          have r1 := cellAt hmk 1 _ rfl
          have r2 := cellAt hmk 2 _ rfl
          have e0 : w6.frozen? ⟨w.heap.size + 1, 0, none⟩ = false := frozen_of_row _ _ _ _ _ hmk
          have e1 : w6.frozen? ⟨w.heap.size + 1, 1, none⟩ = false := frozen_of_row _ _ _ _ _ hmk
          have e2 : w6.frozen? ⟨w.heap.size + 1, 2, none⟩ = false := frozen_of_row _ _ _ _ _ hmk
          have z6 := ltHeap hmk
          clear hm6 hg6 hh6 hb6 hmk q0 q2
          go_wp2
          refine bodyPost_ret (v := .tuple #[.agg #[.int .i64 ol, .int .i64 il, .slice (some ⟨g6, 0, none⟩) m6 m6], .nilIface]) (by simp [results, Tryd.results10, go_sem, r0, r1, r2, z6]) rfl ⟨g6, m6, rfl, HM6.out, by omega, ?_, ?_⟩
          · exact (heap_setCell_other _ _ _ _ (by show g6 ≠ w.heap.size + 1; omega)).trans ((heap_setCell_other _ _ _ _ (by show g6 ≠ w.heap.size + 1; omega)).trans ((heap_setCell_other _ _ _ _ (by show g6 ≠ w.heap.size + 1; omega)).trans HH6.out))
          · exact ((HB6.out.setCell (by simp) _).setCell (by simp) _).setCell (by simp) _
end Go.Proofs.YtanmgpgiepkogaaDoor

/- Copies of lists of bytes in blocks of one's own; nothing of the program is proved here. -/
namespace Go.Proofs.YtanmgpgiepkogaaDoor
open Go.RowKit Gf
set_option linter.unusedVariables false
set_option maxRecDepth 20000
theorem has8_laterE {w w' : World} {g cap : Nat} {xs : List F} (h : Has8 w g xs cap) (hb : Below w.heap.size w w') : Has8 w' g xs cap := by
  obtain ⟨cur, h1, h2⟩ := h
  exact ⟨cur, heap_later h1 hb, h2⟩
theorem has8_set_otherE {w : World} {g cap M j : Nat} {xs : List F} {v : Value} (h : Has8 w g xs cap) (hne : g ≠ M) : Has8 (w.setCell ⟨M, j, none⟩ v) g xs cap := by
  obtain ⟨cur, h1, h2⟩ := h
  exact ⟨cur, (heap_setCell_other _ _ _ _ hne).trans h1, h2⟩
theorem append8_zeroE (w : World) (p : Addr) (a : Option Addr) (ca : Nat) (ty : TypeId) :
    (Builtin.append_ #[31, 31] ty #[.slice (some p) 0 0, .slice a 0 ca]).run Tryd.prog w = .ok (.slice (some p) 0 0) w := by
  obtain ⟨i, hi, h1, h2, h3⟩ := info8
  cases a <;> simp [Builtin.append_, run_underlying Tryd.underlying31, sizeOf, typeInfo, hi, Builtin.lenOf, Builtin.firstCells, loadCells, loadCellsFrom, storeCells]
/-- a copy in a block of one's own -/
theorem copy8E {w : World} {a : Option Addr} {la ca : Nat} {xs : List F} (ty : TypeId) (hla : la = xs.length) (hl : la ≤ 140737488355328) (hx : Row8 w a xs) :
    ∃ g cap w', (Builtin.append_ #[31, 31] ty #[.slice (some ⟨w.heap.size, 0, none⟩) 0 0, .slice a la ca]).run Tryd.prog (w.alloc (.cells #[] 5)) = .ok (.slice (some ⟨g, 0, none⟩) la cap) w' ∧
      Has8 w' g xs cap ∧ w.heap.size ≤ g ∧ Below w.heap.size w w' := by
  have hB : Below w.heap.size w (w.alloc (.cells #[] 5)) := (Below.refl _ _).alloc (Nat.le_refl _) _
  by_cases h0 : la = 0
  · subst h0
    obtain rfl : xs = [] := List.eq_nil_of_length_eq_zero hla.symm
    exact ⟨w.heap.size, 0, _, append8_zeroE _ _ _ _ _, has8_full (xs := []) (heap_alloc_last w _) (by simp [maxLen]), Nat.le_refl _, hB⟩
  · have hx' := row8_below hx hB
    obtain ⟨b, off, rfl, _, hc⟩ := row8_get hx' (show 0 < xs.length by omega)
    obtain ⟨g', cap', w', h1, h2, h3, h4⟩ := append8_grows (w := w.alloc (.cells #[] 5)) (g := w.heap.size) (n := 0) (cap := 0) (xs := []) (ys := xs) (ad := ⟨b, off, none⟩) (m := la) (c := ca) ty (.inl rfl) rfl hla (by omega) (by omega) (fun j hj => by
      have : (⟨b, off, none⟩ : Addr).add j = ⟨b, off + j, none⟩ := by unfold Addr.add; split <;> simp_all
      rw [this]; exact hc j hj)
    refine ⟨g', cap', w', by rw [h1]; simp, by simpa using h2, by simp at h4; omega, ?_⟩
    exact hB.trans ⟨h3.os, h3.tape, h3.output, h3.size, fun k hk => h3.block k (by simp; omega) (by simp)⟩
theorem own_set9E {w : World} {B n g : Nat} {v u : Value} {xs : List Value} {e : TypeId} {size i : Nat} (ho : w.ownsRow B e size v n xs) (hg : g < B) : (w.setCell ⟨g, i, none⟩ u).ownsRow B e size v n xs :=
  ⟨ho.1, ho.2.imp id fun ⟨g', cap, cur, h1, h2, h3, h4⟩ => ⟨g', cap, cur, h1, h2, (heap_setCell_other _ _ _ _ (by show g' ≠ g; omega)).trans h3, h4⟩⟩
theorem own_mono9E {w : World} {B B' size n : Nat} {v : Value} {e : TypeId} {xs : List Value} (h : w.ownsRow B e size v n xs) (hb : B' ≤ B) : w.ownsRow B' e size v n xs :=
  ⟨h.1, h.2.imp id fun ⟨g, cap, cur, h1, h2, h3⟩ => ⟨g, cap, cur, h1, Nat.le_trans hb h2, h3⟩⟩
end Go.Proofs.YtanmgpgiepkogaaDoor

/- The registers and outputs of the document's own Run in memory. -/
namespace Go.Proofs.YtanmgpgiepkogaaDoor
open Go.RowKit Gf
set_option linter.unusedVariables false
set_option maxRecDepth 20000
/-- the inputs as columns -/
def inX (L : List (List F)) : Int → Nat → F := fun i j => at8 (L.getD i.toNat []) j
theorem inX_at {L : List (List F)} {i : Nat} {xs : List F} (h : L[i]? = some xs) (j : Nat) : inX L (i : Int) j = at8 xs j := by
  simp [inX, List.getD_eq_getElem?_getD, h]
def madeL (X : Int → Nat → F) (ss : List Stp) (no h : Nat) : List (List F) := (List.range no).map fun (d : Nat) => rowF h (runO X ss noR noR (d : Int))
theorem madeL_len (X : Int → Nat → F) (ss : List Stp) (no h : Nat) : (madeL X ss no h).length = no := by simp [madeL]
theorem madeL_at {X : Int → Nat → F} {ss : List Stp} {no h d : Nat} (hd : d < no) : (madeL X ss no h)[d]? = some (rowF h (runO X ss noR noR (d : Int))) := by simp [madeL, hd]
/-- a step done for the first b bytes alone -/
def upTo (X : Int → Nat → F) (s : Stp) (R : Regs) (b : Nat) : Regs := fun r j => if j < b then doR X s R r j else R r j
theorem upTo_zero (X : Int → Nat → F) (s : Stp) (R : Regs) : upTo X s R 0 = R := by funext r j; simp [upTo]
theorem upTo_idle {X : Int → Nat → F} {s : Stp} {R : Regs} {b : Nat} (h : s.op = 5) : upTo X s R b = R := by
  funext r j
  show (if j < b then doR X s R r j else R r j) = R r j
  rw [doR_n (by omega) (by omega) (by omega) (by omega), ite_self]
/-- one cell of one register put -/
def pokeR (R : Regs) (k b : Nat) (x : F) : Regs := fun r j => if r = (k : Int) ∧ j = b then x else R r j
theorem upTo_next {X : Int → Nat → F} {s : Stp} {R : Regs} {b k : Nat} {x : F} (hk : s.dst = (k : Int)) (h5 : s.op ≠ 5) (hx : doR X s R (k : Int) b = x) : upTo X s R (b + 1) = pokeR (upTo X s R b) k b x := by
  funext r j
  show (if j < b + 1 then doR X s R r j else R r j) = (if r = (k : Int) ∧ j = b then x else (if j < b then doR X s R r j else R r j))
  by_cases e : j = b
  · subst e
    rw [if_pos (Nat.lt_succ_self _)]
    by_cases e2 : r = (k : Int)
    · rw [if_pos ⟨e2, rfl⟩, ← hx, e2]
    · rw [if_neg (fun h => e2 h.1), if_neg (Nat.lt_irrefl _)]
      have e3 : r ≠ s.dst := by rw [hk]; exact e2
      by_cases h1 : s.op = 1
      · rw [doR_1 h1, setR_other e3]
      by_cases h2 : s.op = 2
      · rw [doR_2 h2, setR_other e3]
      by_cases h3 : s.op = 3
      · rw [doR_3 h3, setR_other e3]
      by_cases h4 : s.op = 4
      · rw [doR_4 h4, setR_other e3]
      · rw [doR_n h1 h2 h3 h4]
  · rw [if_neg (c := r = (k : Int) ∧ j = b) (fun h => e h.2)]
    by_cases e3 : j < b
    · rw [if_pos (by omega), if_pos e3]
    · rw [if_neg (by omega), if_neg e3]
theorem upTo_at {X : Int → Nat → F} {s : Stp} {R : Regs} {b : Nat} (r : Int) : upTo X s R b r b = R r b := by unfold upTo; rw [if_neg (Nat.lt_irrefl b)]
structure RunW (B : Nat) (w : World) (M F0 Q rg no h : Nat) (g : Nat → Option (Nat × Nat)) (R O : Regs) : Prop where
  regs : w.heap[M]? = some (.cells (slF rg h (fun k => (some ⟨F0 + k, 0, none⟩, h))) 31 (0, 0))
  row : ∀ k, k < rg → w.heap[F0 + k]? = some (.cells (vfs (rowF h (R (k : Int)))) 5 (0, 0))
  outs : w.heap[Q]? = some (.cells (slO no h (fun d => (g d).map fun p => (some ⟨p.1, 0, none⟩, p.2))) 31 (0, 0))
  out : ∀ d, d < no → ∀ p, g d = some p → Has8 w p.1 (rowF h (O (d : Int))) p.2 ∧ Q < p.1
  hM : B ≤ M
  hMF : M < F0
  hFQ : F0 + rg ≤ Q
theorem RunW.below {B : Nat} {w w' : World} {M F0 Q rg no h : Nat} {g : Nat → Option (Nat × Nat)} {R O : Regs} (hr : RunW B w M F0 Q rg no h g R O) (hb : Below w.heap.size w w') : RunW B w' M F0 Q rg no h g R O :=
  { hr with regs := heap_later hr.regs hb, row := fun k hk => heap_later (hr.row k hk) hb, outs := heap_later hr.outs hb, out := fun d hd p hp => ⟨has8_below (hr.out d hd p hp).1 hb, (hr.out d hd p hp).2⟩ }
theorem RunW.drew {B : Nat} {w : World} {M F0 Q rg no h : Nat} {g : Nat → Option (Nat × Nat)} {R O : Regs} (hr : RunW B w M F0 Q rg no h g R O) : RunW B w.drew M F0 Q rg no h g R O :=
  { hr with regs := hr.regs, row := hr.row, outs := hr.outs, out := hr.out }
theorem RunW.poke {B : Nat} {w : World} {M F0 Q rg no h : Nat} {g : Nat → Option (Nat × Nat)} {R O : Regs} (hr : RunW B w M F0 Q rg no h g R O) {k b : Nat} (hk : k < rg) (hb : b < h) (x : F) : RunW B (w.setCell ⟨F0 + k, b, none⟩ (.int .u8 (x.toNat : Int))) M F0 Q rg no h g (pokeR R k b x) O := by
  have h1 := hr.hMF
  have h2 := hr.hFQ
  refine { hr with regs := ?_, row := fun j hj => ?_, outs := ?_, out := fun d hd p hp => ?_ }
  · exact (heap_setCell_other _ _ _ _ (by show M ≠ F0 + k; omega)).trans hr.regs
  · by_cases e : j = k
    · subst e
      rw [heap_setCell_same _ _ _ _ _ _ (hr.row j hj)]
      have e9 := vfs_set (rowF h (R (j : Int))) b x
      have : (vfs (rowF h (R (j : Int)))).setIfInBounds b (.int .u8 (x.toNat : Int)) = vfs (rowF h (pokeR R j b x (j : Int))) := by
        rw [e9, rowF_set]
        congr 1
        exact rowF_congr fun i hi => by simp [pokeR]
      rw [this]
    · rw [heap_setCell_other _ _ _ _ (by show F0 + j ≠ F0 + k; omega), hr.row j hj]
      congr 3
      exact rowF_congr fun i hi => by simp only [pokeR]; rw [if_neg (fun hh => e (by omega))]
  · exact (heap_setCell_other _ _ _ _ (by show Q ≠ F0 + k; omega)).trans hr.outs
  · obtain ⟨h3, h4⟩ := hr.out d hd p hp
    exact ⟨has8_set_otherE h3 (by omega), h4⟩
theorem RunW.congr {B : Nat} {w : World} {M F0 Q rg no h : Nat} {g : Nat → Option (Nat × Nat)} {R R' O : Regs} (hr : RunW B w M F0 Q rg no h g R O) (e : ∀ r : Nat, r < rg → ∀ j, j < h → R (r : Int) j = R' (r : Int) j) : RunW B w M F0 Q rg no h g R' O :=
  { hr with row := fun k hk => by rw [hr.row k hk, rowF_congr (e k hk)] }
theorem RunW.full {B : Nat} {w : World} {M F0 Q rg no h : Nat} {g : Nat → Option (Nat × Nat)} {X : Int → Nat → F} {s : Stp} {R O : Regs} (hr : RunW B w M F0 Q rg no h g (upTo X s R h) O) : RunW B w M F0 Q rg no h g (doR X s R) O :=
  hr.congr fun r _ j hj => by unfold upTo; rw [if_pos hj]
/-- an output made -/
theorem RunW.putO {B : Nat} {w : World} {M F0 Q rg no h q c d k : Nat} {g : Nat → Option (Nat × Nat)} {R O : Regs} (hr : RunW B w M F0 Q rg no h g R O) (hd : d < no) (h8 : Has8 w q (rowF h (R (k : Int))) c) (hq : Q < q) :
    RunW B (w.setCell ⟨Q, d, none⟩ (.slice (some ⟨q, 0, none⟩) h c)) M F0 Q rg no h (fun x => if x = d then some (q, c) else g x) R (setR O d (R k)) := by
  have h1 := hr.hMF
  have h2 := hr.hFQ
  refine { hr with regs := ?_, row := fun j hj => ?_, outs := ?_, out := fun x hx p hp => ?_ }
  · exact (heap_setCell_other _ _ _ _ (by show M ≠ Q; omega)).trans hr.regs
  · exact (heap_setCell_other _ _ _ _ (by show F0 + j ≠ Q; omega)).trans (hr.row j hj)
  · rw [heap_setCell_same _ _ _ _ _ _ hr.outs, slO_set (some ⟨q, 0, none⟩, c) hd]
    congr 3
    funext x
    by_cases e : x = d <;> simp [e]
  · by_cases e : x = d
    · subst e
      simp only [if_true, Option.some.injEq] at hp
      subst hp
      rw [setR_same]
      exact ⟨has8_set_otherE h8 (by show q ≠ Q; omega), hq⟩
    · simp only [e, if_false] at hp
      rw [setR_other (show (x : Int) ≠ (d : Int) by omega)]
      obtain ⟨h3, h4⟩ := hr.out x hx p hp
      exact ⟨has8_set_otherE h3 (by show p.1 ≠ Q; omega), h4⟩
/-- while the registers are laid -/
structure RunI (B : Nat) (w : World) (M F0 rg h k : Nat) : Prop where
  regs : w.heap[M]? = some (.cells (slO rg h (fun j => if j < k then some (some ⟨F0 + j, 0, none⟩, h) else none)) 31 (0, 0))
  row : ∀ j, j < k → w.heap[F0 + j]? = some (.cells (vfs (zeros h)) 5 (0, 0))
  size : w.heap.size = F0 + k
  hM : B ≤ M
  hMF : M < F0
theorem RunI.next {B : Nat} {w : World} {M F0 rg h k : Nat} (hr : RunI B w M F0 rg h k) (hk : k < rg) : RunI B ((w.alloc (.cells (vfs (zeros h)) 5)).setCell ⟨M, k, none⟩ (.slice (some ⟨w.heap.size, 0, none⟩) h h)) M F0 rg h (k + 1) := by
  have hb : Below w.heap.size w (w.alloc (.cells (vfs (zeros h)) 5)) := (Below.refl _ _).alloc (Nat.le_refl _) _
  have h1 := hr.hMF
  have h2 := hr.size
  refine { hr with regs := ?_, row := fun j hj => ?_, size := ?_ }
  · rw [heap_setCell_same _ _ _ _ _ _ (heap_later hr.regs hb), slO_set (some ⟨w.heap.size, 0, none⟩, h) hk]
    congr 3
    funext x
    by_cases e : x = k
    · subst e; simp [h2]
    · by_cases e2 : x < k
      · rw [if_neg e, if_pos e2, if_pos (by omega)]
      · rw [if_neg e, if_neg e2, if_neg (by omega)]
  · rw [heap_setCell_other _ _ _ _ (by show F0 + j ≠ M; omega)]
    by_cases e : j = k
    · subst e; rw [← h2]; exact heap_alloc_last _ _
    · exact heap_later (hr.row j (by omega)) hb
  · simp [h2]; omega
theorem RunI.done {B : Nat} {w : World} {M F0 rg no h : Nat} (hr : RunI B w M F0 rg h rg) : RunW B (w.alloc (.cells (slO no h (fun _ => none)) 31)) M F0 w.heap.size rg no h (fun _ => none) noR noR := by
  have hb : Below w.heap.size w (w.alloc (.cells (slO no h (fun _ => none)) 31)) := (Below.refl _ _).alloc (Nat.le_refl _) _
  refine { hM := hr.hM, hMF := hr.hMF, hFQ := by rw [hr.size]; exact Nat.le_refl _, regs := ?_, row := fun k hk => ?_, outs := heap_alloc_last _ _, out := fun d hd p hp => by cases hp }
  · rw [heap_later hr.regs hb]
    congr 2
    apply Array.ext_getElem?
    intro i
    by_cases hi : i < rg
    · rw [slO_at hi, slF_at hi, svO, if_pos hi]
    · rw [Array.getElem?_eq_none (by rw [slO_size]; omega), Array.getElem?_eq_none (by rw [slF_size]; omega)]
  · rw [heap_later (hr.row k hk) hb, zeros_rowF]; rfl
theorem has8_U {w : World} {g cap : Nat} {xs : List F} (h : Has8 w g xs cap) : Row8T w (some ⟨g, 0, none⟩) xs := by
  have h2 := row8_has h
  obtain ⟨cur, hg, _⟩ := h
  rcases h2 with e | ⟨b, off, e, h2⟩
  · exact .inl e
  · cases e
    exact .inr ⟨g, 0, _, _, rfl, hg, h2⟩
/-- what is made, row by row -/
def OutsW (w : World) (Q ol h : Nat) (X : Int → Nat → F) (ss : List Stp) : Prop := ∀ d, d < ol → ∃ q c, w.cell? ⟨Q, d, none⟩ = some (.slice (some ⟨q, 0, none⟩) h c) ∧ Row8 w (some ⟨q, 0, none⟩) (rowF h (runO X ss noR noR (d : Int)))
theorem OutsW.below {w w' : World} {Q ol h : Nat} {X : Int → Nat → F} {ss : List Stp} (ho : OutsW w Q ol h X ss) (hb : Below w.heap.size w w') : OutsW w' Q ol h X ss := fun d hd => by
  obtain ⟨q, c, h1, h2⟩ := ho d hd
  exact ⟨q, c, cell_later hb h1, row8_below h2 hb⟩
theorem OutsW.rows {w : World} {Q ol h : Nat} {X : Int → Nat → F} {ss : List Stp} (ho : OutsW w Q ol h X ss) : Rows8 w (some ⟨Q, 0, none⟩) (madeL X ss ol h) := by
  refine .inr ⟨Q, 0, rfl, fun j x hx => ?_⟩
  have hj : j < ol := by have := (List.getElem?_eq_some_iff.1 hx).1; rwa [madeL_len] at this
  rw [madeL_at hj] at hx
  obtain rfl := Option.some.inj hx
  obtain ⟨q, c, h1, h2⟩ := ho j hj
  exact ⟨_, c, by rw [Nat.zero_add, rowF_len]; exact h1, h2⟩
theorem RunW.made {B : Nat} {w : World} {M F0 Q rg no h : Nat} {g : Nat → Option (Nat × Nat)} {X : Int → Nat → F} {ss : List Stp} {R : Regs} (hr : RunW B w M F0 Q rg no h g R (runO X ss noR noR)) (hg : ∀ d, d < no → (g d).isSome = true) : OutsW w Q no h X ss := fun j hj => by
  obtain ⟨p, hp⟩ := Option.isSome_iff_exists.1 (hg j hj)
  refine ⟨p.1, p.2, ?_, (has8_U (hr.out j hj p hp).1).row8⟩
  have := cellAt hr.outs j _ (slO_at hj)
  simp only [svO, hp, Option.map_some] at this
  exact this
end Go.Proofs.YtanmgpgiepkogaaDoor

/- What exec asks of the library: places in lists, copies of lists; exec.own. -/
namespace Go.Proofs.YtanmgpgiepkogaaDoor
open Go.RowKit Gf
set_option linter.unusedVariables false
set_option maxRecDepth 20000
set_option linter.unusedSimpArgs false
set_option maxHeartbeats 1000000 in
theorem index_Q (l cap : Nat) (a : Option Addr) (ns : List Int) (x : Int) (w : World) (hl : l = ns.length) (hl9 : l ≤ 1000000) (hX : RowI w a ns) :
    Calls Tryd.prog 62 #[.slice a l cap, .int .i64 x] w fun e w' => ∃ y : Int, e = .returned (.int .i64 y) ∧ ((y = -1 ∧ x ∉ ns) ∨ ∃ p : Nat, y = p ∧ ns[p]? = some x ∧ ∀ q, q < p → ns[q]? ≠ some x) ∧ w = w' := by
  have HL : Hid (l = ns.length) := hl
  have HX : Hid (RowI w a ns) := hX
  clear hl hX
  go_enter Tryd.func62, Tryd.ntmps62
  go_wp2
  go_loopw [8] (fun i wr => ∃ j : Nat, j ≤ l ∧ i = .int .i64 j ∧ wr = w ∧ (∀ q, q < j → ns[q]? ≠ some x)) (fun i _ => l - (intOf i).toNat)
  case atStart => exact ⟨0, by omega, rfl, rfl, fun q h => by omega⟩
  case round =>
    obtain ⟨j, hj, rfl, rfl, hq⟩ := hrel
    have HQ : Hid (∀ q, q < j → ns[q]? ≠ some x) := hq
    clear hq
    by_cases hlt : j < l
    · obtain ⟨b, off, rfl, hb, hc⟩ := rowI_cell HX.out (show j < ns.length by rw [← HL.out]; exact hlt)
      have c1 := hc j (by rw [← HL.out]; exact hlt)
      obtain ⟨y, hy⟩ : ∃ y, y = ns.getD j 0 := ⟨_, rfl⟩
      rw [← hy] at c1
      have HY : Hid (ns[j]? = some y) := by
        show _ = _
        rw [hy, List.getD_eq_getElem?_getD, List.getElem?_eq_getElem (by rw [← HL.out]; exact hlt)]; rfl
      clear hc hy
      by_cases he : x = y
      · have he' : (x == y) = true := by simp [he]
        have HE : Hid (x = y) := he
        clear he
        go_wp2
        go_ret
        exact ⟨j, rfl, .inr ⟨j, rfl, by rw [HE.out]; exact HY.out, HQ.out⟩, rfl⟩
      · have he' : (x == y) = false := by simp [he]
        have HE : Hid (¬ x = y) := he
        clear he
        go_wp2
        refine ⟨⟨j + 1, by omega, by go_num, by first | rfl | trivial, fun q hq => ?_⟩, by simp [intOf]; omega⟩
        by_cases hqj : q < j
        · exact HQ.out q hqj
        · obtain rfl : q = j := by omega
          rw [HY.out]
          exact fun h => HE.out (Option.some.inj h).symm
    · obtain rfl : j = l := by omega
      go_wp2
      go_ret
      exact ⟨-1, rfl, .inl ⟨rfl, fun h => by
        obtain ⟨q, hq, e⟩ := List.getElem_of_mem h
        exact HQ.out q (by rw [HL.out]; exact hq) (by rw [List.getElem?_eq_getElem hq, e])⟩, rfl⟩
theorem index_at (l cap : Nat) (a : Option Addr) (ns : List Int) (x : Int) (p : Nat) (w : World) (hl : l = ns.length) (hl9 : l ≤ 1000000) (hX : RowI w a ns) (hp : ns[p]? = some x) (hu : ∀ p q : Nat, ns[p]? = some x → ns[q]? = some x → p = q) :
    Calls Tryd.prog 62 #[.slice a l cap, .int .i64 x] w fun e w' => e = .returned (.int .i64 (p : Int)) ∧ w = w' :=
  (index_Q l cap a ns x w hl hl9 hX).mono fun e w' ⟨y, h1, h2, h3⟩ => ⟨by
    rcases h2 with ⟨_, h⟩ | ⟨q, e2, h, _⟩
    · exact absurd (List.mem_of_getElem? hp) h
    · rw [h1, e2, hu q p h hp], h3⟩
theorem index_no (l cap : Nat) (a : Option Addr) (ns : List Int) (x : Int) (w : World) (hl : l = ns.length) (hl9 : l ≤ 1000000) (hX : RowI w a ns) (hx : x ∉ ns) :
    Calls Tryd.prog 62 #[.slice a l cap, .int .i64 x] w fun e w' => e = .returned (.int .i64 (-1)) ∧ w = w' :=
  (index_Q l cap a ns x w hl hl9 hX).mono fun e w' ⟨y, h1, h2, h3⟩ => ⟨by
    rcases h2 with ⟨e2, _⟩ | ⟨q, _, h, _⟩
    · rw [h1, e2]
    · exact absurd (List.mem_of_getElem? h) hx, h3⟩
theorem good_at {n : Nat} {ns : List Int} (h : GoodH n ns) (x : Int) (p q : Nat) (h1 : ns[p]? = some x) (h2 : ns[q]? = some x) : p = q := by
  have hp := (List.getElem?_eq_some_iff.1 h1)
  have hq := (List.getElem?_eq_some_iff.1 h2)
  obtain ⟨hp1, hp2⟩ := hp
  obtain ⟨hq1, hq2⟩ := hq
  have hs : ns.Pairwise (· < ·) := h.1
  rcases Nat.lt_trichotomy p q with hl | hl | hl
  · have := List.pairwise_iff_getElem.1 hs p q hp1 hq1 hl
    omega
  · exact hl
  · have := List.pairwise_iff_getElem.1 hs q p hq1 hp1 hl
    omega
/-- a copy of a list of bytes, in a block of its own -/
theorem clone8_F (l cap g : Nat) (xs : List F) (w : World) (hl : l = xs.length) (hl9 : l ≤ 140737488355328) (hX : Row8 w (some ⟨g, 0, none⟩) xs) :
    Calls Tryd.prog 63 #[.slice (some ⟨g, 0, none⟩) l cap] w fun e w' => ∃ q c, e = .returned (.slice (some ⟨q, 0, none⟩) l c) ∧ Has8 w' q xs c ∧ w.heap.size ≤ q ∧ Below w.heap.size w w' := by
  have q22 : ∀ (w : World) (a : Option Addr) (n c n' c' : Nat), (binOp .eql 31 (.slice a n c) (.slice none n' c')).run Tryd.prog w = .ok (.bool a.isNone) w := fun w a n c n' c' => Lib.run_eql_slice_nil w _ _ a n c n' c' Tryd.underlying31
  obtain ⟨q, c, w1, hrun, h8, hq, hb⟩ := copy8E (ca := cap) 31 hl hl9 hX
  have HAP : Hid _ := hrun
  have H8 : Hid (Has8 w1 q xs c) := h8
  have HB : Hid (Below w.heap.size w w1) := hb
  have HQ : Hid (w.heap.size ≤ q) := hq
  clear hl hX hrun h8 hq hb
  go_enter Tryd.func63, Tryd.ntmps63
  go_wp2_with (at_builtin; refine wpList_append_run rfl _ _ 31 rfl _ _ _ _ rfl rfl HAP.out ?_)
  go_ret
  exact ⟨q, c, rfl, H8.out, HQ.out, HB.out⟩
/-- of a list that begins anywhere -/
theorem clone8_A (l cap : Nat) (p : Addr) (xs : List F) (w : World) (hl : l = xs.length) (hl9 : l ≤ 140737488355328) (hX : Row8 w (some p) xs) :
    Calls Tryd.prog 63 #[.slice (some p) l cap] w fun e w' => ∃ q c, e = .returned (.slice (some ⟨q, 0, none⟩) l c) ∧ Has8 w' q xs c ∧ w.heap.size ≤ q ∧ Below w.heap.size w w' := by
  have q22 : ∀ (w : World) (a : Option Addr) (n c n' c' : Nat), (binOp .eql 31 (.slice a n c) (.slice none n' c')).run Tryd.prog w = .ok (.bool a.isNone) w := fun w a n c n' c' => Lib.run_eql_slice_nil w _ _ a n c n' c' Tryd.underlying31
  obtain ⟨q, c, w1, hrun, h8, hq, hb⟩ := copy8E (ca := cap) 31 hl hl9 hX
  have HAP : Hid _ := hrun
  have H8 : Hid (Has8 w1 q xs c) := h8
  have HB : Hid (Below w.heap.size w w1) := hb
  have HQ : Hid (w.heap.size ≤ q) := hq
  clear hl hX hrun h8 hq hb
  go_enter Tryd.func63, Tryd.ntmps63
  go_wp2_with (at_builtin; refine wpList_append_run rfl _ _ 31 rfl _ _ _ _ rfl rfl HAP.out ?_)
  go_ret
  exact ⟨q, c, rfl, H8.out, HQ.out, HB.out⟩
theorem cloneT_F (l cap : Nat) (a : Option Addr) (ss : List Stp) (w : World) (hl : l = ss.length) (hl9 : l ≤ 5000) (hcap : l ≤ cap) (hnil : a = none → cap = 0) (hX : StpW w a ss) :
    Calls Tryd.prog 77 #[.slice a l cap] w fun e w' => ∃ a' c', e = .returned (.slice a' l c') ∧ w'.ownsRow w.heap.size 48 4 (.slice a' l c') l (stpsL ss) ∧ Below w.heap.size w w' := by
  have q22 : ∀ (w : World) (a : Option Addr) (n c n' c' : Nat), (binOp .eql 23 (.slice a n c) (.slice none n' c')).run Tryd.prog w = .ok (.bool a.isNone) w := fun w a n c n' c' => Lib.run_eql_slice_nil w _ _ a n c n' c' Tryd.underlying23
  cases a with
  | none =>
    obtain rfl := hnil rfl
    obtain rfl : l = 0 := by omega
    obtain rfl : ss = [] := List.eq_nil_of_length_eq_zero hl.symm
    have HX : Hid (w.ownsRow w.heap.size 48 4 (.slice none 0 0) 0 (stpsL [])) := World.ownsRow_nil _ _ _ _
    clear hX hl
    go_enter Tryd.func77, Tryd.ntmps77
    go_wp2
    go_ret
    exact ⟨none, 0, rfl, HX.out, Below.refl _ _⟩
  | some p =>
    have hb := (Below.refl w.heap.size w).alloc (Nat.le_refl _) (.cells #[] 48)
    have ho := own_empty (size := 4) (B := w.heap.size) (heap_alloc_last w (.cells #[] 48)) (Nat.le_refl _)
    obtain ⟨g, cp, w', h1, h2, h3, h4⟩ := copyT (ca := cap) 23 ho hl (by omega) (stpW_below hX hb) hb.size
    have HAP : Hid _ := h1
    have HR : Hid (w'.ownsRow w.heap.size 48 4 (.slice (some ⟨g, 0, none⟩) l cp) l (stpsL ss)) := h2
    have HB : Hid (Below w.heap.size w w') := below_own hb ho h3 hb.size
    clear hX hl hb ho h1 h2 h3 h4
    go_enter Tryd.func77, Tryd.ntmps77
    go_wp2_with (at_builtin; refine wpList_append_run rfl _ _ 23 rfl _ _ _ _ rfl rfl HAP.out ?_)
    go_ret
    exact ⟨some ⟨g, 0, none⟩, cp, rfl, HR.out, HB.out⟩
set_option maxRecDepth 100000 in
set_option maxHeartbeats 4000000 in
/-- exec.own: a program in lists of its own -/
theorem own_F (ia oa sa : Option Addr) (il ic ol oc sl sc : Nat) (rg : Int) (ins outs : List Int) (ss : List Stp) (w : World) (hP : PrgW w ia oa sa il ic ol oc sl sc ins outs ss) (hi9 : il ≤ 1000) (ho9 : ol ≤ 1000) (hs9 : sl ≤ 5000) :
    Calls Tryd.prog 54 #[.agg #[.slice ia il ic, .slice oa ol oc, .int .i64 rg, .slice sa sl sc]] w fun e w' => ∃ ia' ic' oa' oc' sa' sc', e = .returned (.agg #[.slice ia' il ic', .slice oa' ol oc', .int .i64 rg, .slice sa' sl sc']) ∧
      w'.ownsRow w.heap.size 3 1 (.slice ia' il ic') il (ins.map (Value.int .i64)) ∧ w'.ownsRow w.heap.size 3 1 (.slice oa' ol oc') ol (outs.map (Value.int .i64)) ∧ w'.ownsRow w.heap.size 48 4 (.slice sa' sl sc') sl (stpsL ss) ∧ Below w.heap.size w w' := by
  have HP : Hid (PrgW w ia oa sa il ic ol oc sl sc ins outs ss) := hP
  obtain ⟨N, hN⟩ : ∃ N, N = w.heap.size := ⟨_, rfl⟩
  obtain ⟨W, hW⟩ : ∃ W, W = (w.alloc (.cells #[.slice ia il ic, .slice oa ol oc, .int .i64 rg, .slice sa sl sc] 25)).alloc (.cells #[.slice none 0 0, .slice none 0 0, .int .i64 0, .slice none 0 0] 25) := ⟨_, rfl⟩
  have hA0 := holds_new (holds_new (holds_nil w) #[.slice ia il ic, .slice oa ol oc, .int .i64 rg, .slice sa sl sc] 25) #[.slice none 0 0, .slice none 0 0, .int .i64 0, .slice none 0 0] 25
  simp only [World.size_alloc] at hA0
  rw [← hW, ← hN] at hA0
  have hb0 : Below N w W := by rw [hW, hN]; exact ((Below.refl _ w).alloc (Nat.le_refl _) _).alloc (by simp) _
  have HB0 : Hid (Below N w W) := hb0
  have HK0 : Hid (W.heap[N]? = some (.cells #[.slice ia il ic, .slice oa ol oc, .int .i64 rg, .slice sa sl sc] 25 (0, 0))) := holds_at hA0 1 rfl
  have HR0 : Hid (W.heap[N + 1]? = some (.cells #[.slice none 0 0, .slice none 0 0, .int .i64 0, .slice none 0 0] 25 (0, 0))) := holds_at hA0 0 rfl
  have HWE : Hid (W = (w.alloc (.cells #[.slice ia il ic, .slice oa ol oc, .int .i64 rg, .slice sa sl sc] 25)).alloc (.cells #[.slice none 0 0, .slice none 0 0, .int .i64 0, .slice none 0 0] 25)) := hW
  have HNE : Hid (N = w.heap.size) := hN
  have HWS : Hid (N + 2 ≤ W.heap.size) := by show _ ≤ _; rw [hW, hN]; simp
  clear hP hW hA0 hb0 hN
  go_enter Tryd.func54, Tryd.ntmps54
  go_upto_region 1 with fail
  rw [← HWE.out, ← HNE.out]
  clear HWE
  have k0 := cellAt HK0.out 0 _ rfl
  go_wp2_with fail
  refine Calls.mono (clone_F il ic ia ins _ HP.out.eil hi9 HP.out.cil HP.out.inil (rowI_below HP.out.I (by rw [← HNE.out]; exact HB0.out))) ?_
  rintro e w1 ⟨ia', ic', rfl, ho1, hb1⟩
  have HB1 : Hid (Below N w w1) := HB0.out.trans (hb1.mono (by have := HWS.out; omega))
  have HK1 : Hid _ := heap_later HK0.out hb1
  have HR1 : Hid _ := heap_later HR0.out hb1
  have HO1 : Hid (w1.ownsRow (N + 2) 3 1 (.slice ia' il ic') il (ins.map (Value.int .i64))) := own_mono9E ho1 HWS.out
  have q0 := cellAt HK1.out 0 _ rfl
  have q1 : w1.frozen? ⟨N, 0, none⟩ = false := frozen_of_row _ _ _ _ _ HK1.out
  clear ho1 hb1 k0
  go_upto_region 2 with fail
  obtain ⟨X1, hX1⟩ : ∃ X1, X1 = w1.setCell ⟨N, 0, none⟩ (.slice ia' il ic') := ⟨_, rfl⟩
  have HB1' : Hid (Below N w X1) := by show Below ..; rw [hX1]; exact HB1.out.setCell (p := ⟨N, 0, none⟩) (Nat.le_refl _) _
  have HK1' : Hid (X1.heap[N]? = some (.cells #[.slice ia' il ic', .slice oa ol oc, .int .i64 rg, .slice sa sl sc] 25 (0, 0))) := by show _ = _; rw [hX1, heap_setCell_same _ _ _ _ _ _ HK1.out]; rfl
  have HR1' : Hid (X1.heap[N + 1]? = some (.cells #[.slice none 0 0, .slice none 0 0, .int .i64 0, .slice none 0 0] 25 (0, 0))) := by show _ = _; rw [hX1]; exact (heap_setCell_other _ _ _ _ (by show N + 1 ≠ N; omega)).trans HR1.out
  have HO1' : Hid (X1.ownsRow (N + 2) 3 1 (.slice ia' il ic') il (ins.map (Value.int .i64))) := by show World.ownsRow ..; rw [hX1]; exact own_set9E HO1.out (by omega)
  rw [← hX1]
  clear hX1 HB1 HK1 HR1 HO1 q0 q1 HK0 HR0
  have k1 := cellAt HK1'.out 1 _ rfl
  go_wp2_with fail
  refine Calls.mono (clone_F ol oc oa outs _ HP.out.eol ho9 HP.out.col HP.out.onil (rowI_below HP.out.O (by rw [← HNE.out]; exact HB1'.out))) ?_
  rintro e w2 ⟨oa', oc', rfl, ho2, hb2⟩
  have hz2 : N + 2 ≤ X1.heap.size := by have := ltHeap HR1'.out; omega
  have HB2 : Hid (Below N w w2) := HB1'.out.trans (hb2.mono (by omega))
  have HK2 : Hid _ := heap_later HK1'.out hb2
  have HR2 : Hid _ := heap_later HR1'.out hb2
  have HO2 : Hid _ := own_below HO1'.out hb2
  have HQ2 : Hid (w2.ownsRow (N + 2) 3 1 (.slice oa' ol oc') ol (outs.map (Value.int .i64))) := own_mono9E ho2 hz2
  have q0 := cellAt HK2.out 1 _ rfl
  have q1 : w2.frozen? ⟨N, 1, none⟩ = false := frozen_of_row _ _ _ _ _ HK2.out
  clear ho2 hb2 k1 hz2
  go_upto_region 3 with fail
  obtain ⟨X2, hX2⟩ : ∃ X2, X2 = w2.setCell ⟨N, 1, none⟩ (.slice oa' ol oc') := ⟨_, rfl⟩
  have HB2' : Hid (Below N w X2) := by show Below ..; rw [hX2]; exact HB2.out.setCell (p := ⟨N, 1, none⟩) (Nat.le_refl _) _
  have HK2' : Hid (X2.heap[N]? = some (.cells #[.slice ia' il ic', .slice oa' ol oc', .int .i64 rg, .slice sa sl sc] 25 (0, 0))) := by show _ = _; rw [hX2, heap_setCell_same _ _ _ _ _ _ HK2.out]; rfl
  have HR2' : Hid (X2.heap[N + 1]? = some (.cells #[.slice none 0 0, .slice none 0 0, .int .i64 0, .slice none 0 0] 25 (0, 0))) := by show _ = _; rw [hX2]; exact (heap_setCell_other _ _ _ _ (by show N + 1 ≠ N; omega)).trans HR2.out
  have HO2' : Hid (X2.ownsRow (N + 2) 3 1 (.slice ia' il ic') il (ins.map (Value.int .i64))) := by show World.ownsRow ..; rw [hX2]; exact own_set9E HO2.out (by omega)
  have HQ2' : Hid (X2.ownsRow (N + 2) 3 1 (.slice oa' ol oc') ol (outs.map (Value.int .i64))) := by show World.ownsRow ..; rw [hX2]; exact own_set9E HQ2.out (by omega)
  rw [← hX2]
  clear hX2 HB2 HK2 HR2 HO2 HQ2 q0 q1 HB1' HK1' HR1' HO1'
  have k1 := cellAt HK2'.out 3 _ rfl
  go_wp2_with fail
  refine Calls.mono (cloneT_F sl sc sa ss _ HP.out.esl hs9 HP.out.csl HP.out.snil (stpW_below HP.out.S (by rw [← HNE.out]; exact HB2'.out))) ?_
  rintro e w3 ⟨sa', sc', rfl, ho3, hb3⟩
  have hz3 : N + 2 ≤ X2.heap.size := by have := ltHeap HR2'.out; omega
  have HB3 : Hid (Below N w w3) := HB2'.out.trans (hb3.mono (by omega))
  have hk3 := heap_later HK2'.out hb3
  have hr3 := heap_later HR2'.out hb3
  have ho1 := own_below HO2'.out hb3
  have ho2 := own_below HQ2'.out hb3
  have ho3' : w3.ownsRow (N + 2) 48 4 (.slice sa' sl sc') sl (stpsL ss) := own_mono9E ho3 hz3
  have q0 := cellAt hk3 3 _ rfl
  have q1 : w3.frozen? ⟨N, 3, none⟩ = false := frozen_of_row _ _ _ _ _ hk3
  have HK3 : Hid _ := hk3
  have HR3 : Hid _ := hr3
  have HO1 : Hid _ := ho1
  have HO2 : Hid _ := ho2
  have HO3 : Hid _ := ho3'
  clear ho3 hb3 k1 hz3 hk3 hr3 ho1 ho2 ho3'
  go_upto_region 4 with fail
  obtain ⟨X3, hX3⟩ : ∃ X3, X3 = w3.setCell ⟨N, 3, none⟩ (.slice sa' sl sc') := ⟨_, rfl⟩
  have hb3 : Below N w X3 := by rw [hX3]; exact HB3.out.setCell (p := ⟨N, 3, none⟩) (Nat.le_refl _) _
  have hk3 : X3.heap[N]? = some (.cells #[.slice ia' il ic', .slice oa' ol oc', .int .i64 rg, .slice sa' sl sc'] 25 (0, 0)) := by rw [hX3, heap_setCell_same _ _ _ _ _ _ HK3.out]; rfl
  have hr3 : X3.heap[N + 1]? = some (.cells #[.slice none 0 0, .slice none 0 0, .int .i64 0, .slice none 0 0] 25 (0, 0)) := by rw [hX3]; exact (heap_setCell_other _ _ _ _ (by show N + 1 ≠ N; omega)).trans HR3.out
  have ho1 : X3.ownsRow (N + 2) 3 1 (.slice ia' il ic') il (ins.map (Value.int .i64)) := by rw [hX3]; exact own_set9E HO1.out (by omega)
  have ho2 : X3.ownsRow (N + 2) 3 1 (.slice oa' ol oc') ol (outs.map (Value.int .i64)) := by rw [hX3]; exact own_set9E HO2.out (by omega)
  have ho3 : X3.ownsRow (N + 2) 48 4 (.slice sa' sl sc') sl (stpsL ss) := by rw [hX3]; exact own_set9E HO3.out (by omega)
  rw [← hX3]
  clear hX3 HK3 HR3 HO1 HO2 HO3 HB3 HB2' HK2' HR2' HO2' HQ2' q0 q1
  have a0 := cellAt hk3 0 _ rfl
  have a1 := cellAt hk3 1 _ rfl
  have a2 := cellAt hk3 2 _ rfl
  have a3 := cellAt hk3 3 _ rfl
  have d0 := cellAt hr3 0 _ rfl
  have d1 := cellAt hr3 1 _ rfl
  have d2 := cellAt hr3 2 _ rfl
  have d3 := cellAt hr3 3 _ rfl
  have e0 : X3.frozen? ⟨N + 1, 0, none⟩ = false := frozen_of_row _ _ _ _ _ hr3
  have e1 : X3.frozen? ⟨N + 1, 1, none⟩ = false := frozen_of_row _ _ _ _ _ hr3
  have e2 : X3.frozen? ⟨N + 1, 2, none⟩ = false := frozen_of_row _ _ _ _ _ hr3
  have e3 : X3.frozen? ⟨N + 1, 3, none⟩ = false := frozen_of_row _ _ _ _ _ hr3
  have z3 := ltHeap hr3
  have HB3 : Hid _ := hb3
  have HO1 : Hid _ := ho1
  have HO2 : Hid _ := ho2
  have HO3 : Hid _ := ho3
  clear hb3 hk3 hr3 ho1 ho2 ho3
  go_wp2
  refine bodyPost_ret (v := .agg #[.slice ia' il ic', .slice oa' ol oc', .int .i64 rg, .slice sa' sl sc']) (by simp [results, Tryd.results54, go_sem, d0, d1, d2, d3, z3]) rfl ⟨ia', ic', oa', oc', sa', sc', rfl, ?_, ?_, ?_, ?_⟩
  · rw [← HNE.out]; exact own_mono9E (own_set9E (own_set9E (own_set9E (own_set9E HO1.out (by omega)) (by omega)) (by omega)) (by omega)) (by omega)
  · rw [← HNE.out]; exact own_mono9E (own_set9E (own_set9E (own_set9E (own_set9E HO2.out (by omega)) (by omega)) (by omega)) (by omega)) (by omega)
  · rw [← HNE.out]; exact own_mono9E (own_set9E (own_set9E (own_set9E (own_set9E HO3.out (by omega)) (by omega)) (by omega)) (by omega)) (by omega)
  · rw [← HNE.out]; exact (((HB3.out.setCell (by simp) _).setCell (by simp) _).setCell (by simp) _).setCell (by simp) _
end Go.Proofs.YtanmgpgiepkogaaDoor

/- What each operation of exec's Run does to the machine's registers and outputs. -/
namespace Go.Proofs.YtanmgpgiepkogaaDoor
open Go.RowKit Gf
set_option linter.unusedVariables false
set_option maxRecDepth 20000
set_option linter.unusedSimpArgs false
/-- a machine that runs, in memory -/
structure RnW (B : Nat) (w : World) (cb M Q Fd n rg no il : Nat) (v0 v1 v2 v3 v6 : Value) (fd : Nat → Option (Option Addr × Nat)) (X : Int → Nat → F) (f : Nat → Option Addr × Nat) (g : Nat → Option (Option Addr × Nat)) (R O : Regs) : Prop where
  blk : w.heap[cb]? = some (.cells #[v0, v1, v2, v3, .int .i64 n, .slice (some ⟨Fd, 0, none⟩) il il, v6, .slice (some ⟨M, 0, none⟩) rg rg, .slice (some ⟨Q, 0, none⟩) no no] 105 (0, 0))
  regs : RowsW w M rg n f (fun k => R (k : Int))
  outs : w.heap[Q]? = some (.cells (slO no n g) 31 (0, 0))
  out : ∀ d, d < no → ∀ p, g d = some p → Row8T w p.1 (rowF n (O (d : Int))) ∧ n ≤ p.2 ∧ (p.1 = none → p.2 = 0)
  fed : w.heap[Fd]? = some (.cells (slO il n fd) 31 (0, 0))
  frow : ∀ i, i < il → ∃ p, fd i = some p ∧ Row8T w p.1 (rowF n (X (i : Int))) ∧ n ≤ p.2 ∧ (p.1 = none → p.2 = 0)
  hM : B ≤ M
  hQ : B ≤ Q
  hMQ : M ≠ Q
  hcM : cb ≠ M
  hcQ : cb ≠ Q
  hFM : Fd ≠ M
  hFQ : Fd ≠ Q
variable {B cb M Q Fd n rg no il : Nat} {v0 v1 v2 v3 v6 : Value} {fd : Nat → Option (Option Addr × Nat)} {X : Int → Nat → F} {f : Nat → Option Addr × Nat} {g : Nat → Option (Option Addr × Nat)} {R O : Regs}
theorem RnW.below {w w' : World} (h : RnW B w cb M Q Fd n rg no il v0 v1 v2 v3 v6 fd X f g R O) (hb : Below w.heap.size w w') : RnW B w' cb M Q Fd n rg no il v0 v1 v2 v3 v6 fd X f g R O :=
  { h with blk := heap_later h.blk hb, regs := h.regs.below hb, outs := heap_later h.outs hb, out := fun d hd p hp => ⟨row8T_below (h.out d hd p hp).1 hb, (h.out d hd p hp).2⟩, fed := heap_later h.fed hb, frow := fun i hi => by obtain ⟨p, h1, h2, h3⟩ := h.frow i hi; exact ⟨p, h1, row8T_below h2 hb, h3⟩ }
theorem RnW.drew {w : World} (h : RnW B w cb M Q Fd n rg no il v0 v1 v2 v3 v6 fd X f g R O) : RnW B w.drew cb M Q Fd n rg no il v0 v1 v2 v3 v6 fd X f g R O :=
  { h with blk := h.blk, regs := h.regs.drew, outs := h.outs, out := h.out, fed := h.fed, frow := h.frow }
theorem RnW.put {w : World} (h : RnW B w cb M Q Fd n rg no il v0 v1 v2 v3 v6 fd X f g R O) {k : Nat} (hk : k < rg) {a : Option Addr} {m : Nat} {v : Nat → F} (ha : Row8T w a (rowF n v)) (hm : n ≤ m) (hn : a = none → m = 0) :
    RnW B (w.setCell ⟨M, k, none⟩ (.slice a n m)) cb M Q Fd n rg no il v0 v1 v2 v3 v6 fd X (fun x => if x = k then (a, m) else f x) g (setR R k v) O := by
  have hg : w.grownBy (w.setCell ⟨M, k, none⟩ (.slice a n m)) (some M) := grownBy_setCell (World.grownBy.refl _ _) _
  refine { h with blk := ?_, regs := ?_, outs := ?_, out := fun d hd p hp => ⟨?_, (h.out d hd p hp).2⟩, fed := ?_, frow := fun i hi => ?_ }
  · exact (heap_setCell_other _ _ _ _ h.hcM).trans h.blk
  · refine (h.regs.put hk ha hm hn).congr fun x hx j hj => ?_
    simp only [setR]
    by_cases e : x = k
    · simp [e]
    · simp [e, show ¬ (x : Int) = (k : Int) by omega]
  · exact (heap_setCell_other _ _ _ _ (fun e => h.hMQ e.symm)).trans h.outs
  · exact row8_other h.regs.blk hg (h.out d hd p hp).1
  · exact (heap_setCell_other _ _ _ _ h.hFM).trans h.fed
  · obtain ⟨p, h1, h2, h3⟩ := h.frow i hi
    exact ⟨p, h1, row8_other h.regs.blk hg h2, h3⟩
theorem RnW.putO {w : World} (h : RnW B w cb M Q Fd n rg no il v0 v1 v2 v3 v6 fd X f g R O) {d k : Nat} (hd : d < no) (hk : k < rg) :
    RnW B (w.setCell ⟨Q, d, none⟩ (.slice (f k).1 n (f k).2)) cb M Q Fd n rg no il v0 v1 v2 v3 v6 fd X f (fun x => if x = d then some (f k) else g x) R (setR O d (R k)) := by
  have hg : w.grownBy (w.setCell ⟨Q, d, none⟩ (.slice (f k).1 n (f k).2)) (some Q) := grownBy_setCell (World.grownBy.refl _ _) _
  have hne : NoElems w (some Q) := noElems_some h.outs (by decide)
  refine { h with blk := ?_, regs := ?_, outs := ?_, out := fun x hx p hp => ?_, fed := ?_, frow := fun i hi => ?_ }
  · exact (heap_setCell_other _ _ _ _ h.hcQ).trans h.blk
  · exact ⟨(heap_setCell_other _ _ _ _ h.hMQ).trans h.regs.blk, fun x hx => row8T_grown (h.regs.row x hx) hg hne, h.regs.cap, h.regs.nil⟩
  · rw [heap_setCell_same _ _ _ _ _ _ h.outs, slO_set (f k) hd]
  · by_cases e : x = d
    · subst e
      simp only [if_true, Option.some.injEq] at hp
      subst hp
      rw [setR_same]
      exact ⟨row8T_grown (h.regs.row k hk) hg hne, h.regs.cap k hk, h.regs.nil k hk⟩
    · simp only [e, if_false] at hp
      rw [setR_other (show (x : Int) ≠ (d : Int) by omega)]
      exact ⟨row8T_grown (h.out x hx p hp).1 hg hne, (h.out x hx p hp).2⟩
  · exact (heap_setCell_other _ _ _ _ h.hFQ).trans h.fed
  · obtain ⟨p, h1, h2, h3⟩ := h.frow i hi
    exact ⟨p, h1, row8T_grown h2 hg hne, h3⟩
theorem noughts_F (cb n : Nat) (w : World) (hn : n ≤ 64) (hc : w.cell? ⟨cb, 4, none⟩ = some (.int .i64 n)) :
    Calls Tryd.prog 64 #[.pointer (some ⟨cb, 0, none⟩)] w fun e w' => e = .returned (.slice (some ⟨w.heap.size, 0, none⟩) n n) ∧ w' = w.alloc (.cells (vfs (zeros n)) 5) := by
  have hmk := run_make8 n (by omega) w
  go_enter Tryd.func64, Tryd.ntmps64
  go_wp2
  go_ret
  exact ⟨rfl, rfl⟩
set_option maxRecDepth 100000 in
set_option maxHeartbeats 4000000 in
theorem xdoes_zero (B cb M Q Fd n rg no il : Nat) (v0 v1 v2 v3 v6 : Value) (fd : Nat → Option (Option Addr × Nat)) (X : Int → Nat → F) (f : Nat → Option Addr × Nat) (g : Nat → Option (Option Addr × Nat)) (R O : Regs) (op : Int) (dst : Nat) (src cv : Int) (hd : dst < rg) (w : World) (hn : n ≤ 64) (hrg : rg ≤ 64) (hno : no ≤ 64) (hBw : B ≤ w.heap.size) (h : RnW B w cb M Q Fd n rg no il v0 v1 v2 v3 v6 fd X f g R O) :
    Calls Tryd.prog 80 #[.pointer (some ⟨cb, 0, none⟩), .agg #[.int .i64 op, .int .i64 (dst : Int), .int .i64 src, .int .u8 cv]] w fun e w' => e = .returned (.tuple #[]) ∧ (∃ f' g', RnW B w' cb M Q Fd n rg no il v0 v1 v2 v3 v6 fd X f' g' (setR R (dst : Int) (fun _ => 0)) (O) ∧ g' = g) ∧ Below B w w' ∧ (∀ (k : Nat) (o : Obj), k ≠ M → k ≠ Q → w.heap[k]? = some o → w'.heap[k]? = some o) := by
  obtain ⟨W, hW⟩ : ∃ W, W = w.alloc (.cells #[.int .i64 op, .int .i64 (dst : Int), .int .i64 src, .int .u8 cv] 48) := ⟨_, rfl⟩
  have hBW : Below w.heap.size w W := by rw [hW]; exact (Below.refl _ _).alloc (Nat.le_refl _) _
  have hbox : W.heap[w.heap.size]? = some (.cells #[.int .i64 op, .int .i64 (dst : Int), .int .i64 src, .int .u8 cv] 48 (0, 0)) := by rw [hW]; exact heap_alloc_last _ _
  have HNE : Hid (w.heap.size ≠ M) := by have := ltHeap h.regs.blk; show _ ≠ _; omega
  have HCW : Hid _ := h.below hBW
  have HBOX : Hid _ := hbox
  have HBW : Hid _ := hBW
  have HWE : Hid _ := hW
  clear h hBW hbox hW
  have HK1 : Hid (∀ u, W.grownBy u (some M) → u.cell? ⟨cb, 7, none⟩ = some (.slice (some ⟨M, 0, none⟩) rg rg)) := fun u hu => cellAt ((hu.block cb (ltHeap HCW.out.blk) (by simpa using HCW.out.hcM)).trans HCW.out.blk) 7 _ rfl
  have HS0 : Hid (∀ u, W.grownBy u (some M) → u.cell? ⟨w.heap.size, 1, none⟩ = some (.int .i64 (dst : Int))) := fun u hu => cellAt ((hu.block w.heap.size (ltHeap HBOX.out) (by simpa using HNE.out)).trans HBOX.out) 1 _ rfl
  go_enter Tryd.func80, Tryd.ntmps80
  go_wp2
  rw [← HWE.out]
  clear HWE
  refine wp_region_noPanic ?_
  refine wp_region_held_drew (S := fun u => W.grownBy u (some M)) (by kernel_rfl) ?_ (fun hHeld => ?_)
  · exact grownBy_drew (World.grownBy.refl _ _)
  refine wpAnyH_take (i := 0) (oi := { dst := some 4, op := Op.move (Operand.tmp 0), type := 54, pos := "exec.go:107", after := #[], guard := none }) (v := ?_) rfl (by kernel_rfl) (by kernel_rfl) (by kernel_rfl) (fun _ _ _ h => h) (Or.inl ⟨by rfl, ?_⟩) hHeld ?_
  rotate_left
  · intro u hSw
    go_simp
    try with_reducible rfl
  try simp only [Act.put, List.setIfInBounds_toArray, List.set_cons_zero, List.set_cons_succ]
  refine wpAnyH_take (i := 1) (oi := { dst := some 5, op := Op.nilCheck (Operand.tmp 4), type := 0, pos := "exec.go:107", after := #[{ on := 0, ground := Ground.data }], guard := none }) (v := ?_) rfl (by kernel_rfl) (by kernel_rfl) (by kernel_rfl) (fun _ _ _ h => h) (Or.inl ⟨by rfl, ?_⟩) hHeld ?_
  rotate_left
  · intro u hSw
    go_simp
    try with_reducible rfl
  try simp only [Act.put, List.setIfInBounds_toArray, List.set_cons_zero, List.set_cons_succ]
  refine wpAnyH_take (i := 2) (oi := { dst := some 6, op := Op.fieldAddr 105 (Operand.tmp 5) 4, type := 0, pos := "exec.go:107", after := #[{ on := 1, ground := Ground.data }], guard := none }) (v := ?_) rfl (by kernel_rfl) (by kernel_rfl) (by kernel_rfl) (fun _ _ _ h => h) (Or.inl ⟨by rfl, ?_⟩) hHeld ?_
  rotate_left
  · intro u hSw
    go_simp
    try with_reducible rfl
  try simp only [Act.put, List.setIfInBounds_toArray, List.set_cons_zero, List.set_cons_succ]
  refine wpAnyH_take (i := 3) (oi := { dst := some 7, op := Op.load 67 (Operand.tmp 6), type := 67, pos := "exec.go:107", after := #[{ on := 2, ground := Ground.data }], guard := none }) (v := ?_) rfl (by kernel_rfl) (by kernel_rfl) (by kernel_rfl) (fun _ _ _ h => h) (Or.inl ⟨by rfl, ?_⟩) hHeld ?_
  rotate_left
  · intro u hSw
    have k9 := HK1.out u hSw
    go_simp
    try with_reducible rfl
  try simp only [Act.put, List.setIfInBounds_toArray, List.set_cons_zero, List.set_cons_succ]
  refine wpAnyH_take (i := 4) (oi := { dst := some 8, op := Op.fieldAddr 48 (Operand.tmp 3) 1, type := 0, pos := "exec.go:107", after := #[], guard := none }) (v := ?_) rfl (by kernel_rfl) (by kernel_rfl) (by kernel_rfl) (fun _ _ _ h => h) (Or.inl ⟨by rfl, ?_⟩) hHeld ?_
  rotate_left
  · intro u hSw
    go_simp
    try with_reducible rfl
  try simp only [Act.put, List.setIfInBounds_toArray, List.set_cons_zero, List.set_cons_succ]
  refine wpAnyH_take (i := 5) (oi := { dst := some 9, op := Op.load 3 (Operand.tmp 8), type := 3, pos := "exec.go:107", after := #[{ on := 4, ground := Ground.data }], guard := none }) (v := ?_) rfl (by kernel_rfl) (by kernel_rfl) (by kernel_rfl) (fun _ _ _ h => h) (Or.inl ⟨by rfl, ?_⟩) hHeld ?_
  rotate_left
  · intro u hSw
    have k9 := HS0.out u hSw
    go_simp
    try with_reducible rfl
  try simp only [Act.put, List.setIfInBounds_toArray, List.set_cons_zero, List.set_cons_succ]
  refine wpAnyH_take (i := 6) (oi := { dst := some 10, op := Op.move (Operand.tmp 0), type := 54, pos := "exec.go:107", after := #[], guard := none }) (v := ?_) rfl (by kernel_rfl) (by kernel_rfl) (by kernel_rfl) (fun _ _ _ h => h) (Or.inl ⟨by rfl, ?_⟩) hHeld ?_
  rotate_left
  · intro u hSw
    go_simp
    try with_reducible rfl
  try simp only [Act.put, List.setIfInBounds_toArray, List.set_cons_zero, List.set_cons_succ]
  refine wpAnyH_ready (rs := [7]) (by kernel_rfl) (by simp) ?_
  refine (AllReadyH.cons (o := { dst := some 11, op := Op.call { callee := Callee.value (Operand.func 64), args := #[Operand.tmp 10], argTypes := #[54] }, type := 31, pos := "exec.go:107", after := #[{ on := 6, ground := Ground.data }], guard := none }) rfl (fun K hK => ?_) AllReadyH.nil)
  go_simp
  refine Calls.mono (noughts_F cb n _ hn (cellAt HCW.out.drew.blk 4 _ rfl)) ?_
  rintro e w6 ⟨rfl, hw6⟩
  have hb6 : Below W.drew.heap.size W.drew w6 := by rw [hw6]; exact (Below.refl _ _).alloc (Nat.le_refl _) _
  have hr6 : w6.heap[W.heap.size]? = some (.cells (vfs (zeros n)) 5 (0, 0)) := by rw [hw6]; exact heap_alloc_last _ _
  have hC6 := HCW.out.drew.below hb6
  have hS6 : W.grownBy w6 (some M) := grown_below (grownBy_drew (World.grownBy.refl _ _)) hb6
  clear hw6
  go_wp2_with fail
  refine hK.out _ _ ?_ (fun hHeld => ?_)
  · exact hS6
  clear hK K
  try simp only [Act.put, List.setIfInBounds_toArray, List.set_cons_zero, List.set_cons_succ]
  refine wpAnyH_take (i := 8) (oi := { dst := some 12, op := Op.indexAddr 67 (Operand.tmp 7) (Operand.tmp 9), type := 0, pos := "exec.go:107", after := #[{ on := 3, ground := Ground.data }, { on := 5, ground := Ground.data }, { on := 0, ground := Ground.phase }, { on := 1, ground := Ground.phase }, { on := 2, ground := Ground.phase }, { on := 3, ground := Ground.phase }, { on := 4, ground := Ground.phase }, { on := 5, ground := Ground.phase }, { on := 6, ground := Ground.phase }, { on := 7, ground := Ground.phase }], guard := none }) (v := ?_) rfl (by kernel_rfl) (by kernel_rfl) (by kernel_rfl) (fun _ _ _ h => h) (Or.inl ⟨by rfl, ?_⟩) hHeld ?_
  rotate_left
  · intro u hSw
    go_simp
    try with_reducible rfl
  try simp only [Act.put, List.setIfInBounds_toArray, List.set_cons_zero, List.set_cons_succ]
  refine wpAnyH_ready (rs := [9]) (by kernel_rfl) (by simp) ?_
  refine (AllReadyH.cons (o := { dst := none, op := Op.store 31 (Operand.tmp 12) (Operand.tmp 11), type := 0, pos := "exec.go:107", after := #[{ on := 8, ground := Ground.data }, { on := 7, ground := Ground.data }, { on := 7, ground := Ground.chain }, { on := 0, ground := Ground.phase }, { on := 1, ground := Ground.phase }, { on := 2, ground := Ground.phase }, { on := 3, ground := Ground.phase }, { on := 4, ground := Ground.phase }, { on := 5, ground := Ground.phase }, { on := 6, ground := Ground.phase }, { on := 7, ground := Ground.phase }], guard := none }) rfl (fun K hK => ?_) AllReadyH.nil)
  have hblk := hC6.regs.blk
  have d8 : w6.frozen? ⟨M, dst, none⟩ = false := frozen_of_row _ _ _ _ _ hblk
  have d9 := cellAt hblk dst _ (slF_at hd)
  go_simp
  refine hK.out _ _ ?_ (fun hHeld => ?_)
  · exact grownBy_setCell hS6 _
  clear hK K
  try simp only [Act.put, List.setIfInBounds_toArray, List.set_cons_zero, List.set_cons_succ]
  refine wpAnyH_done (by kernel_rfl) ?_ _
  refine NoPanic.normal ?_
  have HP : Hid _ := hC6.put hd (a := some ⟨W.heap.size, 0, none⟩) (m := n) (v := fun _ => 0) (by rw [← zeros_rowF]; exact row8T_own hr6) (Nat.le_refl _) (fun e => by cases e)
  have HPB : Hid _ := (((HBW.out.mono hBw).drew).trans (hb6.mono (by have := HBW.out.size; simp; omega))).setCell (p := ⟨M, dst, none⟩) HCW.out.hM (.slice (some ⟨W.heap.size, 0, none⟩) n n)
  have HKX : Hid (∀ (k : Nat) (o : Obj), k ≠ M → k ≠ Q → w.heap[k]? = some o → (w6.setCell ⟨M, dst, none⟩ (.slice (some ⟨W.heap.size, 0, none⟩) n n)).heap[k]? = some o) := fun k o h1 _ ho => (heap_setCell_other _ _ _ _ h1).trans (heap_later (w := W.drew) (show W.heap[k]? = some o from heap_later ho HBW.out) hb6)
  go_wp2
  exact ⟨rfl, .tuple #[], by simp [results, Tryd.results80, go_sem], rfl, ⟨_, _, HP.out, rfl⟩, HPB.out, HKX.out⟩
set_option maxRecDepth 100000 in
set_option maxHeartbeats 4000000 in
theorem xdoes_mul (B cb M Q Fd n rg no il : Nat) (v0 v1 v2 v3 v6 : Value) (fd : Nat → Option (Option Addr × Nat)) (X : Int → Nat → F) (f : Nat → Option Addr × Nat) (g : Nat → Option (Option Addr × Nat)) (R O : Regs) (op : Int) (dst : Nat) (src : Int) (c : F) (hd : dst < rg) (w : World) (hn : n ≤ 64) (hrg : rg ≤ 64) (hno : no ≤ 64) (hBw : B ≤ w.heap.size) (h : RnW B w cb M Q Fd n rg no il v0 v1 v2 v3 v6 fd X f g R O) :
    Calls Tryd.prog 81 #[.pointer (some ⟨cb, 0, none⟩), .agg #[.int .i64 op, .int .i64 (dst : Int), .int .i64 src, .int .u8 (c.toNat : Int)]] w fun e w' => e = .returned (.tuple #[]) ∧ (∃ f' g', RnW B w' cb M Q Fd n rg no il v0 v1 v2 v3 v6 fd X f' g' (setR R (dst : Int) (fun b => gm c (R (dst : Int) b))) (O) ∧ g' = g) ∧ Below B w w' ∧ (∀ (k : Nat) (o : Obj), k ≠ M → k ≠ Q → w.heap[k]? = some o → w'.heap[k]? = some o) := by
  obtain ⟨W, hW⟩ : ∃ W, W = w.alloc (.cells #[.int .i64 op, .int .i64 (dst : Int), .int .i64 src, .int .u8 (c.toNat : Int)] 48) := ⟨_, rfl⟩
  have hBW : Below w.heap.size w W := by rw [hW]; exact (Below.refl _ _).alloc (Nat.le_refl _) _
  have hbox : W.heap[w.heap.size]? = some (.cells #[.int .i64 op, .int .i64 (dst : Int), .int .i64 src, .int .u8 (c.toNat : Int)] 48 (0, 0)) := by rw [hW]; exact heap_alloc_last _ _
  have HNE : Hid (w.heap.size ≠ M) := by have := ltHeap h.regs.blk; show _ ≠ _; omega
  have HCW : Hid _ := h.below hBW
  have HBOX : Hid _ := hbox
  have HBW : Hid _ := hBW
  have HWE : Hid _ := hW
  clear h hBW hbox hW
  have HK1 : Hid (∀ u, W.grownBy u (some M) → u.cell? ⟨cb, 7, none⟩ = some (.slice (some ⟨M, 0, none⟩) rg rg)) := fun u hu => cellAt ((hu.block cb (ltHeap HCW.out.blk) (by simpa using HCW.out.hcM)).trans HCW.out.blk) 7 _ rfl
  have HS0 : Hid (∀ u, W.grownBy u (some M) → u.cell? ⟨w.heap.size, 1, none⟩ = some (.int .i64 (dst : Int))) := fun u hu => cellAt ((hu.block w.heap.size (ltHeap HBOX.out) (by simpa using HNE.out)).trans HBOX.out) 1 _ rfl
  have HS2 : Hid (∀ u, W.grownBy u (some M) → u.cell? ⟨w.heap.size, 2, none⟩ = some (.int .i64 src)) := fun u hu => cellAt ((hu.block w.heap.size (ltHeap HBOX.out) (by simpa using HNE.out)).trans HBOX.out) 2 _ rfl
  have HS3 : Hid (∀ u, W.grownBy u (some M) → u.cell? ⟨w.heap.size, 3, none⟩ = some (.int .u8 (c.toNat : Int))) := fun u hu => cellAt ((hu.block w.heap.size (ltHeap HBOX.out) (by simpa using HNE.out)).trans HBOX.out) 3 _ rfl
  go_enter Tryd.func81, Tryd.ntmps81
  go_wp2
  rw [← HWE.out]
  clear HWE
  refine wp_region_noPanic ?_
  refine wp_region_held_drew (S := fun u => W.grownBy u (some M)) (by kernel_rfl) ?_ (fun hHeld => ?_)
  · exact grownBy_drew (World.grownBy.refl _ _)
  refine wpAnyH_take (i := 0) (oi := { dst := some 4, op := Op.move (Operand.tmp 0), type := 54, pos := "exec.go:111", after := #[], guard := none }) (v := ?_) rfl (by kernel_rfl) (by kernel_rfl) (by kernel_rfl) (fun _ _ _ h => h) (Or.inl ⟨by rfl, ?_⟩) hHeld ?_
  rotate_left
  · intro u hSw
    go_simp
    try with_reducible rfl
  try simp only [Act.put, List.setIfInBounds_toArray, List.set_cons_zero, List.set_cons_succ]
  refine wpAnyH_take (i := 1) (oi := { dst := some 5, op := Op.nilCheck (Operand.tmp 4), type := 0, pos := "exec.go:111", after := #[{ on := 0, ground := Ground.data }], guard := none }) (v := ?_) rfl (by kernel_rfl) (by kernel_rfl) (by kernel_rfl) (fun _ _ _ h => h) (Or.inl ⟨by rfl, ?_⟩) hHeld ?_
  rotate_left
  · intro u hSw
    go_simp
    try with_reducible rfl
  try simp only [Act.put, List.setIfInBounds_toArray, List.set_cons_zero, List.set_cons_succ]
  refine wpAnyH_take (i := 2) (oi := { dst := some 6, op := Op.fieldAddr 105 (Operand.tmp 5) 4, type := 0, pos := "exec.go:111", after := #[{ on := 1, ground := Ground.data }], guard := none }) (v := ?_) rfl (by kernel_rfl) (by kernel_rfl) (by kernel_rfl) (fun _ _ _ h => h) (Or.inl ⟨by rfl, ?_⟩) hHeld ?_
  rotate_left
  · intro u hSw
    go_simp
    try with_reducible rfl
  try simp only [Act.put, List.setIfInBounds_toArray, List.set_cons_zero, List.set_cons_succ]
  refine wpAnyH_take (i := 3) (oi := { dst := some 7, op := Op.load 67 (Operand.tmp 6), type := 67, pos := "exec.go:111", after := #[{ on := 2, ground := Ground.data }], guard := none }) (v := ?_) rfl (by kernel_rfl) (by kernel_rfl) (by kernel_rfl) (fun _ _ _ h => h) (Or.inl ⟨by rfl, ?_⟩) hHeld ?_
  rotate_left
  · intro u hSw
    have k9 := HK1.out u hSw
    go_simp
    try with_reducible rfl
  try simp only [Act.put, List.setIfInBounds_toArray, List.set_cons_zero, List.set_cons_succ]
  refine wpAnyH_take (i := 4) (oi := { dst := some 8, op := Op.fieldAddr 48 (Operand.tmp 3) 1, type := 0, pos := "exec.go:111", after := #[], guard := none }) (v := ?_) rfl (by kernel_rfl) (by kernel_rfl) (by kernel_rfl) (fun _ _ _ h => h) (Or.inl ⟨by rfl, ?_⟩) hHeld ?_
  rotate_left
  · intro u hSw
    go_simp
    try with_reducible rfl
  try simp only [Act.put, List.setIfInBounds_toArray, List.set_cons_zero, List.set_cons_succ]
  refine wpAnyH_take (i := 5) (oi := { dst := some 9, op := Op.load 3 (Operand.tmp 8), type := 3, pos := "exec.go:111", after := #[{ on := 4, ground := Ground.data }], guard := none }) (v := ?_) rfl (by kernel_rfl) (by kernel_rfl) (by kernel_rfl) (fun _ _ _ h => h) (Or.inl ⟨by rfl, ?_⟩) hHeld ?_
  rotate_left
  · intro u hSw
    have k9 := HS0.out u hSw
    go_simp
    try with_reducible rfl
  try simp only [Act.put, List.setIfInBounds_toArray, List.set_cons_zero, List.set_cons_succ]
  refine wpAnyH_take (i := 6) (oi := { dst := some 10, op := Op.fieldAddr 48 (Operand.tmp 3) 3, type := 0, pos := "exec.go:111", after := #[], guard := none }) (v := ?_) rfl (by kernel_rfl) (by kernel_rfl) (by kernel_rfl) (fun _ _ _ h => h) (Or.inl ⟨by rfl, ?_⟩) hHeld ?_
  rotate_left
  · intro u hSw
    go_simp
    try with_reducible rfl
  try simp only [Act.put, List.setIfInBounds_toArray, List.set_cons_zero, List.set_cons_succ]
  refine wpAnyH_take (i := 7) (oi := { dst := some 11, op := Op.load 5 (Operand.tmp 10), type := 5, pos := "exec.go:111", after := #[{ on := 6, ground := Ground.data }], guard := none }) (v := ?_) rfl (by kernel_rfl) (by kernel_rfl) (by kernel_rfl) (fun _ _ _ h => h) (Or.inl ⟨by rfl, ?_⟩) hHeld ?_
  rotate_left
  · intro u hSw
    have k9 := HS3.out u hSw
    go_simp
    try with_reducible rfl
  try simp only [Act.put, List.setIfInBounds_toArray, List.set_cons_zero, List.set_cons_succ]
  refine wpAnyH_take (i := 8) (oi := { dst := some 12, op := Op.move (Operand.tmp 0), type := 54, pos := "exec.go:111", after := #[], guard := none }) (v := ?_) rfl (by kernel_rfl) (by kernel_rfl) (by kernel_rfl) (fun _ _ _ h => h) (Or.inl ⟨by rfl, ?_⟩) hHeld ?_
  rotate_left
  · intro u hSw
    go_simp
    try with_reducible rfl
  try simp only [Act.put, List.setIfInBounds_toArray, List.set_cons_zero, List.set_cons_succ]
  refine wpAnyH_take (i := 9) (oi := { dst := some 13, op := Op.nilCheck (Operand.tmp 12), type := 0, pos := "exec.go:111", after := #[{ on := 8, ground := Ground.data }], guard := none }) (v := ?_) rfl (by kernel_rfl) (by kernel_rfl) (by kernel_rfl) (fun _ _ _ h => h) (Or.inl ⟨by rfl, ?_⟩) hHeld ?_
  rotate_left
  · intro u hSw
    go_simp
    try with_reducible rfl
  try simp only [Act.put, List.setIfInBounds_toArray, List.set_cons_zero, List.set_cons_succ]
  refine wpAnyH_take (i := 10) (oi := { dst := some 14, op := Op.fieldAddr 105 (Operand.tmp 13) 4, type := 0, pos := "exec.go:111", after := #[{ on := 9, ground := Ground.data }], guard := none }) (v := ?_) rfl (by kernel_rfl) (by kernel_rfl) (by kernel_rfl) (fun _ _ _ h => h) (Or.inl ⟨by rfl, ?_⟩) hHeld ?_
  rotate_left
  · intro u hSw
    go_simp
    try with_reducible rfl
  try simp only [Act.put, List.setIfInBounds_toArray, List.set_cons_zero, List.set_cons_succ]
  refine wpAnyH_take (i := 11) (oi := { dst := some 15, op := Op.load 67 (Operand.tmp 14), type := 67, pos := "exec.go:111", after := #[{ on := 10, ground := Ground.data }], guard := none }) (v := ?_) rfl (by kernel_rfl) (by kernel_rfl) (by kernel_rfl) (fun _ _ _ h => h) (Or.inl ⟨by rfl, ?_⟩) hHeld ?_
  rotate_left
  · intro u hSw
    have k9 := HK1.out u hSw
    go_simp
    try with_reducible rfl
  try simp only [Act.put, List.setIfInBounds_toArray, List.set_cons_zero, List.set_cons_succ]
  refine wpAnyH_take (i := 12) (oi := { dst := some 16, op := Op.fieldAddr 48 (Operand.tmp 3) 1, type := 0, pos := "exec.go:111", after := #[], guard := none }) (v := ?_) rfl (by kernel_rfl) (by kernel_rfl) (by kernel_rfl) (fun _ _ _ h => h) (Or.inl ⟨by rfl, ?_⟩) hHeld ?_
  rotate_left
  · intro u hSw
    go_simp
    try with_reducible rfl
  try simp only [Act.put, List.setIfInBounds_toArray, List.set_cons_zero, List.set_cons_succ]
  refine wpAnyH_take (i := 13) (oi := { dst := some 17, op := Op.load 3 (Operand.tmp 16), type := 3, pos := "exec.go:111", after := #[{ on := 12, ground := Ground.data }], guard := none }) (v := ?_) rfl (by kernel_rfl) (by kernel_rfl) (by kernel_rfl) (fun _ _ _ h => h) (Or.inl ⟨by rfl, ?_⟩) hHeld ?_
  rotate_left
  · intro u hSw
    have k9 := HS0.out u hSw
    go_simp
    try with_reducible rfl
  try simp only [Act.put, List.setIfInBounds_toArray, List.set_cons_zero, List.set_cons_succ]
  refine wpAnyH_take (i := 14) (oi := { dst := some 18, op := Op.indexAddr 67 (Operand.tmp 15) (Operand.tmp 17), type := 0, pos := "exec.go:111", after := #[{ on := 11, ground := Ground.data }, { on := 13, ground := Ground.data }], guard := none }) (v := ?_) rfl (by kernel_rfl) (by kernel_rfl) (by kernel_rfl) (fun _ _ _ h => h) (Or.inl ⟨by rfl, ?_⟩) hHeld ?_
  rotate_left
  · intro u hSw
    go_simp
    try with_reducible rfl
  try simp only [Act.put, List.setIfInBounds_toArray, List.set_cons_zero, List.set_cons_succ]
  refine wpAnyH_ready (rs := [15]) (by kernel_rfl) (by simp) ?_
  refine (AllReadyH.cons (o := { dst := some 19, op := Op.load 31 (Operand.tmp 18), type := 31, pos := "exec.go:111", after := #[{ on := 14, ground := Ground.data }], guard := none }) rfl (fun K hK => ?_) AllReadyH.nil)
  have m15 := cellAt HCW.out.drew.regs.blk dst _ (slF_at ‹dst < rg›)
  go_simp
  refine hK.out _ _ ?_ (fun hHeld => ?_)
  · exact grownBy_drew (World.grownBy.refl _ _)
  clear hK K
  try simp only [Act.put, List.setIfInBounds_toArray, List.set_cons_zero, List.set_cons_succ]
  refine wpAnyH_ready (rs := [16]) (by kernel_rfl) (by simp) ?_
  refine (AllReadyH.cons (o := { dst := some 20, op := Op.call { callee := Callee.value (Operand.func 100), args := #[Operand.tmp 11, Operand.tmp 19], argTypes := #[5, 31] }, type := 31, pos := "exec.go:111", after := #[{ on := 7, ground := Ground.data }, { on := 15, ground := Ground.data }], guard := none }) rfl (fun K hK => ?_) AllReadyH.nil)
  go_simp
  refine Calls.mono (scale_R c _ n _ _ _ (by omega) (HCW.out.drew.regs.row dst hd).row8) ?_
  rintro e w6 ⟨q6, rfl, hb6, hr6, hg6⟩
  have hC6 := HCW.out.drew.below hb6
  have hS6 : W.grownBy w6 (some M) := grown_below (grownBy_drew (World.grownBy.refl _ _)) hb6
  go_wp2_with fail
  refine hK.out _ _ ?_ (fun hHeld => ?_)
  · exact hS6
  clear hK K
  try simp only [Act.put, List.setIfInBounds_toArray, List.set_cons_zero, List.set_cons_succ]
  refine wpAnyH_take (i := 17) (oi := { dst := some 21, op := Op.indexAddr 67 (Operand.tmp 7) (Operand.tmp 9), type := 0, pos := "exec.go:111", after := #[{ on := 3, ground := Ground.data }, { on := 5, ground := Ground.data }, { on := 0, ground := Ground.phase }, { on := 1, ground := Ground.phase }, { on := 2, ground := Ground.phase }, { on := 3, ground := Ground.phase }, { on := 4, ground := Ground.phase }, { on := 5, ground := Ground.phase }, { on := 6, ground := Ground.phase }, { on := 7, ground := Ground.phase }, { on := 8, ground := Ground.phase }, { on := 9, ground := Ground.phase }, { on := 10, ground := Ground.phase }, { on := 11, ground := Ground.phase }, { on := 12, ground := Ground.phase }, { on := 13, ground := Ground.phase }, { on := 14, ground := Ground.phase }, { on := 15, ground := Ground.phase }, { on := 16, ground := Ground.phase }], guard := none }) (v := ?_) rfl (by kernel_rfl) (by kernel_rfl) (by kernel_rfl) (fun _ _ _ h => h) (Or.inl ⟨by rfl, ?_⟩) hHeld ?_
  rotate_left
  · intro u hSw
    go_simp
    try with_reducible rfl
  try simp only [Act.put, List.setIfInBounds_toArray, List.set_cons_zero, List.set_cons_succ]
  refine wpAnyH_ready (rs := [18]) (by kernel_rfl) (by simp) ?_
  refine (AllReadyH.cons (o := { dst := none, op := Op.store 31 (Operand.tmp 21) (Operand.tmp 20), type := 0, pos := "exec.go:111", after := #[{ on := 17, ground := Ground.data }, { on := 16, ground := Ground.data }, { on := 16, ground := Ground.chain }, { on := 0, ground := Ground.phase }, { on := 1, ground := Ground.phase }, { on := 2, ground := Ground.phase }, { on := 3, ground := Ground.phase }, { on := 4, ground := Ground.phase }, { on := 5, ground := Ground.phase }, { on := 6, ground := Ground.phase }, { on := 7, ground := Ground.phase }, { on := 8, ground := Ground.phase }, { on := 9, ground := Ground.phase }, { on := 10, ground := Ground.phase }, { on := 11, ground := Ground.phase }, { on := 12, ground := Ground.phase }, { on := 13, ground := Ground.phase }, { on := 14, ground := Ground.phase }, { on := 15, ground := Ground.phase }, { on := 16, ground := Ground.phase }], guard := none }) rfl (fun K hK => ?_) AllReadyH.nil)
  have hblk := hC6.regs.blk
  have d8 : w6.frozen? ⟨M, dst, none⟩ = false := frozen_of_row _ _ _ _ _ hblk
  have d9 := cellAt hblk dst _ (slF_at hd)
  go_simp
  refine hK.out _ _ ?_ (fun hHeld => ?_)
  · exact grownBy_setCell hS6 _
  clear hK K
  try simp only [Act.put, List.setIfInBounds_toArray, List.set_cons_zero, List.set_cons_succ]
  refine wpAnyH_done (by kernel_rfl) ?_ _
  refine NoPanic.normal ?_
  have HP : Hid _ := hC6.put hd (a := some ⟨q6, 0, none⟩) (m := n) (v := fun b => gm c (R (dst : Int) b)) hr6 (Nat.le_refl _) (fun e => by cases e)
  have HPB : Hid _ := (((HBW.out.mono hBw).drew).trans (hb6.mono (by have := HBW.out.size; simp; omega))).setCell (p := ⟨M, dst, none⟩) HCW.out.hM (.slice (some ⟨q6, 0, none⟩) n n)
  have HKX : Hid (∀ (k : Nat) (o : Obj), k ≠ M → k ≠ Q → w.heap[k]? = some o → (w6.setCell ⟨M, dst, none⟩ (.slice (some ⟨q6, 0, none⟩) n n)).heap[k]? = some o) := fun k o h1 _ ho => (heap_setCell_other _ _ _ _ h1).trans (heap_later (w := W.drew) (show W.heap[k]? = some o from heap_later ho HBW.out) hb6)
  go_wp2
  exact ⟨rfl, .tuple #[], by simp [results, Tryd.results81, go_sem], rfl, ⟨_, _, HP.out, rfl⟩, HPB.out, HKX.out⟩
set_option maxRecDepth 100000 in
set_option maxHeartbeats 4000000 in
theorem xdoes_add (B cb M Q Fd n rg no il : Nat) (v0 v1 v2 v3 v6 : Value) (fd : Nat → Option (Option Addr × Nat)) (X : Int → Nat → F) (f : Nat → Option Addr × Nat) (g : Nat → Option (Option Addr × Nat)) (R O : Regs) (op : Int) (dst : Nat) (src : Nat) (c : F) (hd : dst < rg) (hs : src < rg) (w : World) (hn : n ≤ 64) (hrg : rg ≤ 64) (hno : no ≤ 64) (hBw : B ≤ w.heap.size) (h : RnW B w cb M Q Fd n rg no il v0 v1 v2 v3 v6 fd X f g R O) :
    Calls Tryd.prog 82 #[.pointer (some ⟨cb, 0, none⟩), .agg #[.int .i64 op, .int .i64 (dst : Int), .int .i64 (src : Int), .int .u8 (c.toNat : Int)]] w fun e w' => e = .returned (.tuple #[]) ∧ (∃ f' g', RnW B w' cb M Q Fd n rg no il v0 v1 v2 v3 v6 fd X f' g' (setR R (dst : Int) (fun b => ga (R (dst : Int) b) (gm c (R (src : Int) b)))) (O) ∧ g' = g) ∧ Below B w w' ∧ (∀ (k : Nat) (o : Obj), k ≠ M → k ≠ Q → w.heap[k]? = some o → w'.heap[k]? = some o) := by
  obtain ⟨W, hW⟩ : ∃ W, W = w.alloc (.cells #[.int .i64 op, .int .i64 (dst : Int), .int .i64 (src : Int), .int .u8 (c.toNat : Int)] 48) := ⟨_, rfl⟩
  have hBW : Below w.heap.size w W := by rw [hW]; exact (Below.refl _ _).alloc (Nat.le_refl _) _
  have hbox : W.heap[w.heap.size]? = some (.cells #[.int .i64 op, .int .i64 (dst : Int), .int .i64 (src : Int), .int .u8 (c.toNat : Int)] 48 (0, 0)) := by rw [hW]; exact heap_alloc_last _ _
  have HNE : Hid (w.heap.size ≠ M) := by have := ltHeap h.regs.blk; show _ ≠ _; omega
  have HCW : Hid _ := h.below hBW
  have HBOX : Hid _ := hbox
  have HBW : Hid _ := hBW
  have HWE : Hid _ := hW
  clear h hBW hbox hW
  have HK1 : Hid (∀ u, W.grownBy u (some M) → u.cell? ⟨cb, 7, none⟩ = some (.slice (some ⟨M, 0, none⟩) rg rg)) := fun u hu => cellAt ((hu.block cb (ltHeap HCW.out.blk) (by simpa using HCW.out.hcM)).trans HCW.out.blk) 7 _ rfl
  have HS0 : Hid (∀ u, W.grownBy u (some M) → u.cell? ⟨w.heap.size, 1, none⟩ = some (.int .i64 (dst : Int))) := fun u hu => cellAt ((hu.block w.heap.size (ltHeap HBOX.out) (by simpa using HNE.out)).trans HBOX.out) 1 _ rfl
  have HS2 : Hid (∀ u, W.grownBy u (some M) → u.cell? ⟨w.heap.size, 2, none⟩ = some (.int .i64 (src : Int))) := fun u hu => cellAt ((hu.block w.heap.size (ltHeap HBOX.out) (by simpa using HNE.out)).trans HBOX.out) 2 _ rfl
  have HS3 : Hid (∀ u, W.grownBy u (some M) → u.cell? ⟨w.heap.size, 3, none⟩ = some (.int .u8 (c.toNat : Int))) := fun u hu => cellAt ((hu.block w.heap.size (ltHeap HBOX.out) (by simpa using HNE.out)).trans HBOX.out) 3 _ rfl
  go_enter Tryd.func82, Tryd.ntmps82
  go_wp2
  rw [← HWE.out]
  clear HWE
  refine wp_region_noPanic ?_
  refine wp_region_held_drew (S := fun u => W.grownBy u (some M)) (by kernel_rfl) ?_ (fun hHeld => ?_)
  · exact grownBy_drew (World.grownBy.refl _ _)
  refine wpAnyH_take (i := 0) (oi := { dst := some 4, op := Op.move (Operand.tmp 0), type := 54, pos := "exec.go:115", after := #[], guard := none }) (v := ?_) rfl (by kernel_rfl) (by kernel_rfl) (by kernel_rfl) (fun _ _ _ h => h) (Or.inl ⟨by rfl, ?_⟩) hHeld ?_
  rotate_left
  · intro u hSw
    go_simp
    try with_reducible rfl
  try simp only [Act.put, List.setIfInBounds_toArray, List.set_cons_zero, List.set_cons_succ]
  refine wpAnyH_take (i := 1) (oi := { dst := some 5, op := Op.nilCheck (Operand.tmp 4), type := 0, pos := "exec.go:115", after := #[{ on := 0, ground := Ground.data }], guard := none }) (v := ?_) rfl (by kernel_rfl) (by kernel_rfl) (by kernel_rfl) (fun _ _ _ h => h) (Or.inl ⟨by rfl, ?_⟩) hHeld ?_
  rotate_left
  · intro u hSw
    go_simp
    try with_reducible rfl
  try simp only [Act.put, List.setIfInBounds_toArray, List.set_cons_zero, List.set_cons_succ]
  refine wpAnyH_take (i := 2) (oi := { dst := some 6, op := Op.fieldAddr 105 (Operand.tmp 5) 4, type := 0, pos := "exec.go:115", after := #[{ on := 1, ground := Ground.data }], guard := none }) (v := ?_) rfl (by kernel_rfl) (by kernel_rfl) (by kernel_rfl) (fun _ _ _ h => h) (Or.inl ⟨by rfl, ?_⟩) hHeld ?_
  rotate_left
  · intro u hSw
    go_simp
    try with_reducible rfl
  try simp only [Act.put, List.setIfInBounds_toArray, List.set_cons_zero, List.set_cons_succ]
  refine wpAnyH_take (i := 3) (oi := { dst := some 7, op := Op.load 67 (Operand.tmp 6), type := 67, pos := "exec.go:115", after := #[{ on := 2, ground := Ground.data }], guard := none }) (v := ?_) rfl (by kernel_rfl) (by kernel_rfl) (by kernel_rfl) (fun _ _ _ h => h) (Or.inl ⟨by rfl, ?_⟩) hHeld ?_
  rotate_left
  · intro u hSw
    have k9 := HK1.out u hSw
    go_simp
    try with_reducible rfl
  try simp only [Act.put, List.setIfInBounds_toArray, List.set_cons_zero, List.set_cons_succ]
  refine wpAnyH_take (i := 4) (oi := { dst := some 8, op := Op.fieldAddr 48 (Operand.tmp 3) 1, type := 0, pos := "exec.go:115", after := #[], guard := none }) (v := ?_) rfl (by kernel_rfl) (by kernel_rfl) (by kernel_rfl) (fun _ _ _ h => h) (Or.inl ⟨by rfl, ?_⟩) hHeld ?_
  rotate_left
  · intro u hSw
    go_simp
    try with_reducible rfl
  try simp only [Act.put, List.setIfInBounds_toArray, List.set_cons_zero, List.set_cons_succ]
  refine wpAnyH_take (i := 5) (oi := { dst := some 9, op := Op.load 3 (Operand.tmp 8), type := 3, pos := "exec.go:115", after := #[{ on := 4, ground := Ground.data }], guard := none }) (v := ?_) rfl (by kernel_rfl) (by kernel_rfl) (by kernel_rfl) (fun _ _ _ h => h) (Or.inl ⟨by rfl, ?_⟩) hHeld ?_
  rotate_left
  · intro u hSw
    have k9 := HS0.out u hSw
    go_simp
    try with_reducible rfl
  try simp only [Act.put, List.setIfInBounds_toArray, List.set_cons_zero, List.set_cons_succ]
  refine wpAnyH_take (i := 6) (oi := { dst := some 10, op := Op.move (Operand.tmp 0), type := 54, pos := "exec.go:115", after := #[], guard := none }) (v := ?_) rfl (by kernel_rfl) (by kernel_rfl) (by kernel_rfl) (fun _ _ _ h => h) (Or.inl ⟨by rfl, ?_⟩) hHeld ?_
  rotate_left
  · intro u hSw
    go_simp
    try with_reducible rfl
  try simp only [Act.put, List.setIfInBounds_toArray, List.set_cons_zero, List.set_cons_succ]
  refine wpAnyH_take (i := 7) (oi := { dst := some 11, op := Op.nilCheck (Operand.tmp 10), type := 0, pos := "exec.go:115", after := #[{ on := 6, ground := Ground.data }], guard := none }) (v := ?_) rfl (by kernel_rfl) (by kernel_rfl) (by kernel_rfl) (fun _ _ _ h => h) (Or.inl ⟨by rfl, ?_⟩) hHeld ?_
  rotate_left
  · intro u hSw
    go_simp
    try with_reducible rfl
  try simp only [Act.put, List.setIfInBounds_toArray, List.set_cons_zero, List.set_cons_succ]
  refine wpAnyH_take (i := 8) (oi := { dst := some 12, op := Op.fieldAddr 105 (Operand.tmp 11) 4, type := 0, pos := "exec.go:115", after := #[{ on := 7, ground := Ground.data }], guard := none }) (v := ?_) rfl (by kernel_rfl) (by kernel_rfl) (by kernel_rfl) (fun _ _ _ h => h) (Or.inl ⟨by rfl, ?_⟩) hHeld ?_
  rotate_left
  · intro u hSw
    go_simp
    try with_reducible rfl
  try simp only [Act.put, List.setIfInBounds_toArray, List.set_cons_zero, List.set_cons_succ]
  refine wpAnyH_take (i := 9) (oi := { dst := some 13, op := Op.load 67 (Operand.tmp 12), type := 67, pos := "exec.go:115", after := #[{ on := 8, ground := Ground.data }], guard := none }) (v := ?_) rfl (by kernel_rfl) (by kernel_rfl) (by kernel_rfl) (fun _ _ _ h => h) (Or.inl ⟨by rfl, ?_⟩) hHeld ?_
  rotate_left
  · intro u hSw
    have k9 := HK1.out u hSw
    go_simp
    try with_reducible rfl
  try simp only [Act.put, List.setIfInBounds_toArray, List.set_cons_zero, List.set_cons_succ]
  refine wpAnyH_take (i := 10) (oi := { dst := some 14, op := Op.fieldAddr 48 (Operand.tmp 3) 1, type := 0, pos := "exec.go:115", after := #[], guard := none }) (v := ?_) rfl (by kernel_rfl) (by kernel_rfl) (by kernel_rfl) (fun _ _ _ h => h) (Or.inl ⟨by rfl, ?_⟩) hHeld ?_
  rotate_left
  · intro u hSw
    go_simp
    try with_reducible rfl
  try simp only [Act.put, List.setIfInBounds_toArray, List.set_cons_zero, List.set_cons_succ]
  refine wpAnyH_take (i := 11) (oi := { dst := some 15, op := Op.load 3 (Operand.tmp 14), type := 3, pos := "exec.go:115", after := #[{ on := 10, ground := Ground.data }], guard := none }) (v := ?_) rfl (by kernel_rfl) (by kernel_rfl) (by kernel_rfl) (fun _ _ _ h => h) (Or.inl ⟨by rfl, ?_⟩) hHeld ?_
  rotate_left
  · intro u hSw
    have k9 := HS0.out u hSw
    go_simp
    try with_reducible rfl
  try simp only [Act.put, List.setIfInBounds_toArray, List.set_cons_zero, List.set_cons_succ]
  refine wpAnyH_take (i := 12) (oi := { dst := some 16, op := Op.indexAddr 67 (Operand.tmp 13) (Operand.tmp 15), type := 0, pos := "exec.go:115", after := #[{ on := 9, ground := Ground.data }, { on := 11, ground := Ground.data }], guard := none }) (v := ?_) rfl (by kernel_rfl) (by kernel_rfl) (by kernel_rfl) (fun _ _ _ h => h) (Or.inl ⟨by rfl, ?_⟩) hHeld ?_
  rotate_left
  · intro u hSw
    go_simp
    try with_reducible rfl
  try simp only [Act.put, List.setIfInBounds_toArray, List.set_cons_zero, List.set_cons_succ]
  refine wpAnyH_take (i := 14) (oi := { dst := some 18, op := Op.fieldAddr 48 (Operand.tmp 3) 3, type := 0, pos := "exec.go:115", after := #[], guard := none }) (v := ?_) rfl (by kernel_rfl) (by kernel_rfl) (by kernel_rfl) (fun _ _ _ h => h) (Or.inl ⟨by rfl, ?_⟩) hHeld ?_
  rotate_left
  · intro u hSw
    go_simp
    try with_reducible rfl
  try simp only [Act.put, List.setIfInBounds_toArray, List.set_cons_zero, List.set_cons_succ]
  refine wpAnyH_take (i := 15) (oi := { dst := some 19, op := Op.load 5 (Operand.tmp 18), type := 5, pos := "exec.go:115", after := #[{ on := 14, ground := Ground.data }], guard := none }) (v := ?_) rfl (by kernel_rfl) (by kernel_rfl) (by kernel_rfl) (fun _ _ _ h => h) (Or.inl ⟨by rfl, ?_⟩) hHeld ?_
  rotate_left
  · intro u hSw
    have k9 := HS3.out u hSw
    go_simp
    try with_reducible rfl
  try simp only [Act.put, List.setIfInBounds_toArray, List.set_cons_zero, List.set_cons_succ]
  refine wpAnyH_take (i := 16) (oi := { dst := some 20, op := Op.move (Operand.tmp 0), type := 54, pos := "exec.go:115", after := #[], guard := none }) (v := ?_) rfl (by kernel_rfl) (by kernel_rfl) (by kernel_rfl) (fun _ _ _ h => h) (Or.inl ⟨by rfl, ?_⟩) hHeld ?_
  rotate_left
  · intro u hSw
    go_simp
    try with_reducible rfl
  try simp only [Act.put, List.setIfInBounds_toArray, List.set_cons_zero, List.set_cons_succ]
  refine wpAnyH_take (i := 17) (oi := { dst := some 21, op := Op.nilCheck (Operand.tmp 20), type := 0, pos := "exec.go:115", after := #[{ on := 16, ground := Ground.data }], guard := none }) (v := ?_) rfl (by kernel_rfl) (by kernel_rfl) (by kernel_rfl) (fun _ _ _ h => h) (Or.inl ⟨by rfl, ?_⟩) hHeld ?_
  rotate_left
  · intro u hSw
    go_simp
    try with_reducible rfl
  try simp only [Act.put, List.setIfInBounds_toArray, List.set_cons_zero, List.set_cons_succ]
  refine wpAnyH_take (i := 18) (oi := { dst := some 22, op := Op.fieldAddr 105 (Operand.tmp 21) 4, type := 0, pos := "exec.go:115", after := #[{ on := 17, ground := Ground.data }], guard := none }) (v := ?_) rfl (by kernel_rfl) (by kernel_rfl) (by kernel_rfl) (fun _ _ _ h => h) (Or.inl ⟨by rfl, ?_⟩) hHeld ?_
  rotate_left
  · intro u hSw
    go_simp
    try with_reducible rfl
  try simp only [Act.put, List.setIfInBounds_toArray, List.set_cons_zero, List.set_cons_succ]
  refine wpAnyH_take (i := 19) (oi := { dst := some 23, op := Op.load 67 (Operand.tmp 22), type := 67, pos := "exec.go:115", after := #[{ on := 18, ground := Ground.data }], guard := none }) (v := ?_) rfl (by kernel_rfl) (by kernel_rfl) (by kernel_rfl) (fun _ _ _ h => h) (Or.inl ⟨by rfl, ?_⟩) hHeld ?_
  rotate_left
  · intro u hSw
    have k9 := HK1.out u hSw
    go_simp
    try with_reducible rfl
  try simp only [Act.put, List.setIfInBounds_toArray, List.set_cons_zero, List.set_cons_succ]
  refine wpAnyH_take (i := 20) (oi := { dst := some 24, op := Op.fieldAddr 48 (Operand.tmp 3) 2, type := 0, pos := "exec.go:115", after := #[], guard := none }) (v := ?_) rfl (by kernel_rfl) (by kernel_rfl) (by kernel_rfl) (fun _ _ _ h => h) (Or.inl ⟨by rfl, ?_⟩) hHeld ?_
  rotate_left
  · intro u hSw
    go_simp
    try with_reducible rfl
  try simp only [Act.put, List.setIfInBounds_toArray, List.set_cons_zero, List.set_cons_succ]
  refine wpAnyH_take (i := 21) (oi := { dst := some 25, op := Op.load 3 (Operand.tmp 24), type := 3, pos := "exec.go:115", after := #[{ on := 20, ground := Ground.data }], guard := none }) (v := ?_) rfl (by kernel_rfl) (by kernel_rfl) (by kernel_rfl) (fun _ _ _ h => h) (Or.inl ⟨by rfl, ?_⟩) hHeld ?_
  rotate_left
  · intro u hSw
    have k9 := HS2.out u hSw
    go_simp
    try with_reducible rfl
  try simp only [Act.put, List.setIfInBounds_toArray, List.set_cons_zero, List.set_cons_succ]
  refine wpAnyH_take (i := 22) (oi := { dst := some 26, op := Op.indexAddr 67 (Operand.tmp 23) (Operand.tmp 25), type := 0, pos := "exec.go:115", after := #[{ on := 19, ground := Ground.data }, { on := 21, ground := Ground.data }], guard := none }) (v := ?_) rfl (by kernel_rfl) (by kernel_rfl) (by kernel_rfl) (fun _ _ _ h => h) (Or.inl ⟨by rfl, ?_⟩) hHeld ?_
  rotate_left
  · intro u hSw
    go_simp
    try with_reducible rfl
  try simp only [Act.put, List.setIfInBounds_toArray, List.set_cons_zero, List.set_cons_succ]
  refine wpAnyH_ready (rs := [13, 23]) (by kernel_rfl) (by simp) ?_
  refine (AllReadyH.cons (o := { dst := some 17, op := Op.load 31 (Operand.tmp 16), type := 31, pos := "exec.go:115", after := #[{ on := 12, ground := Ground.data }], guard := none }) rfl (fun K hK => ?_) (AllReadyH.cons (o := { dst := some 27, op := Op.load 31 (Operand.tmp 26), type := 31, pos := "exec.go:115", after := #[{ on := 22, ground := Ground.data }], guard := none }) rfl (fun K hK => ?_) AllReadyH.nil))
  · have m13 := cellAt HCW.out.drew.regs.blk dst _ (slF_at ‹dst < rg›)
    go_simp
    refine hK.out _ _ ?_ (fun hHeld => ?_)
    · exact grownBy_drew (World.grownBy.refl _ _)
    clear hK K
    try simp only [Act.put, List.setIfInBounds_toArray, List.set_cons_zero, List.set_cons_succ]
    refine wpAnyH_ready (rs := [23]) (by kernel_rfl) (by simp) ?_
    refine (AllReadyH.cons (o := { dst := some 27, op := Op.load 31 (Operand.tmp 26), type := 31, pos := "exec.go:115", after := #[{ on := 22, ground := Ground.data }], guard := none }) rfl (fun K hK => ?_) AllReadyH.nil)
    have m23 := cellAt HCW.out.drew.regs.blk src _ (slF_at ‹src < rg›)
    go_simp
    refine hK.out _ _ ?_ (fun hHeld => ?_)
    · exact grownBy_drew (World.grownBy.refl _ _)
    clear hK K
    try simp only [Act.put, List.setIfInBounds_toArray, List.set_cons_zero, List.set_cons_succ]
    refine wpAnyH_ready (rs := [24]) (by kernel_rfl) (by simp) ?_
    refine (AllReadyH.cons (o := { dst := some 28, op := Op.call { callee := Callee.value (Operand.func 101), args := #[Operand.tmp 17, Operand.tmp 19, Operand.tmp 27], argTypes := #[31, 5, 31] }, type := 31, pos := "exec.go:115", after := #[{ on := 13, ground := Ground.data }, { on := 15, ground := Ground.data }, { on := 23, ground := Ground.data }], guard := none }) rfl (fun K hK => ?_) AllReadyH.nil)
    go_simp
    refine Calls.mono (addScaled_R c _ _ n _ _ _ _ _ (by omega) (HCW.out.drew.regs.row dst hd).row8 (HCW.out.drew.regs.row src hs).row8) ?_
    rintro e w6 ⟨q6, rfl, hb6, hr6, hg6⟩
    have hC6 := HCW.out.drew.below hb6
    have hS6 : W.grownBy w6 (some M) := grown_below (grownBy_drew (World.grownBy.refl _ _)) hb6
    go_wp2_with fail
    refine hK.out _ _ ?_ (fun hHeld => ?_)
    · exact hS6
    clear hK K
    try simp only [Act.put, List.setIfInBounds_toArray, List.set_cons_zero, List.set_cons_succ]
    refine wpAnyH_take (i := 25) (oi := { dst := some 29, op := Op.indexAddr 67 (Operand.tmp 7) (Operand.tmp 9), type := 0, pos := "exec.go:115", after := #[{ on := 3, ground := Ground.data }, { on := 5, ground := Ground.data }, { on := 0, ground := Ground.phase }, { on := 1, ground := Ground.phase }, { on := 2, ground := Ground.phase }, { on := 3, ground := Ground.phase }, { on := 4, ground := Ground.phase }, { on := 5, ground := Ground.phase }, { on := 6, ground := Ground.phase }, { on := 7, ground := Ground.phase }, { on := 8, ground := Ground.phase }, { on := 9, ground := Ground.phase }, { on := 10, ground := Ground.phase }, { on := 11, ground := Ground.phase }, { on := 12, ground := Ground.phase }, { on := 13, ground := Ground.phase }, { on := 14, ground := Ground.phase }, { on := 15, ground := Ground.phase }, { on := 16, ground := Ground.phase }, { on := 17, ground := Ground.phase }, { on := 18, ground := Ground.phase }, { on := 19, ground := Ground.phase }, { on := 20, ground := Ground.phase }, { on := 21, ground := Ground.phase }, { on := 22, ground := Ground.phase }, { on := 23, ground := Ground.phase }, { on := 24, ground := Ground.phase }], guard := none }) (v := ?_) rfl (by kernel_rfl) (by kernel_rfl) (by kernel_rfl) (fun _ _ _ h => h) (Or.inl ⟨by rfl, ?_⟩) hHeld ?_
    rotate_left
    · intro u hSw
      go_simp
      try with_reducible rfl
    try simp only [Act.put, List.setIfInBounds_toArray, List.set_cons_zero, List.set_cons_succ]
    refine wpAnyH_ready (rs := [26]) (by kernel_rfl) (by simp) ?_
    refine (AllReadyH.cons (o := { dst := none, op := Op.store 31 (Operand.tmp 29) (Operand.tmp 28), type := 0, pos := "exec.go:115", after := #[{ on := 25, ground := Ground.data }, { on := 24, ground := Ground.data }, { on := 24, ground := Ground.chain }, { on := 0, ground := Ground.phase }, { on := 1, ground := Ground.phase }, { on := 2, ground := Ground.phase }, { on := 3, ground := Ground.phase }, { on := 4, ground := Ground.phase }, { on := 5, ground := Ground.phase }, { on := 6, ground := Ground.phase }, { on := 7, ground := Ground.phase }, { on := 8, ground := Ground.phase }, { on := 9, ground := Ground.phase }, { on := 10, ground := Ground.phase }, { on := 11, ground := Ground.phase }, { on := 12, ground := Ground.phase }, { on := 13, ground := Ground.phase }, { on := 14, ground := Ground.phase }, { on := 15, ground := Ground.phase }, { on := 16, ground := Ground.phase }, { on := 17, ground := Ground.phase }, { on := 18, ground := Ground.phase }, { on := 19, ground := Ground.phase }, { on := 20, ground := Ground.phase }, { on := 21, ground := Ground.phase }, { on := 22, ground := Ground.phase }, { on := 23, ground := Ground.phase }, { on := 24, ground := Ground.phase }], guard := none }) rfl (fun K hK => ?_) AllReadyH.nil)
    have hblk := hC6.regs.blk
    have d8 : w6.frozen? ⟨M, dst, none⟩ = false := frozen_of_row _ _ _ _ _ hblk
    have d9 := cellAt hblk dst _ (slF_at hd)
    go_simp
    refine hK.out _ _ ?_ (fun hHeld => ?_)
    · exact grownBy_setCell hS6 _
    clear hK K
    try simp only [Act.put, List.setIfInBounds_toArray, List.set_cons_zero, List.set_cons_succ]
    refine wpAnyH_done (by kernel_rfl) ?_ _
    refine NoPanic.normal ?_
    have HP : Hid _ := hC6.put hd (a := some ⟨q6, 0, none⟩) (m := n) (v := fun b => ga (R (dst : Int) b) (gm c (R (src : Int) b))) hr6 (Nat.le_refl _) (fun e => by cases e)
    have HPB : Hid _ := (((HBW.out.mono hBw).drew).trans (hb6.mono (by have := HBW.out.size; simp; omega))).setCell (p := ⟨M, dst, none⟩) HCW.out.hM (.slice (some ⟨q6, 0, none⟩) n n)
    have HKX : Hid (∀ (k : Nat) (o : Obj), k ≠ M → k ≠ Q → w.heap[k]? = some o → (w6.setCell ⟨M, dst, none⟩ (.slice (some ⟨q6, 0, none⟩) n n)).heap[k]? = some o) := fun k o h1 _ ho => (heap_setCell_other _ _ _ _ h1).trans (heap_later (w := W.drew) (show W.heap[k]? = some o from heap_later ho HBW.out) hb6)
    go_wp2
    exact ⟨rfl, .tuple #[], by simp [results, Tryd.results82, go_sem], rfl, ⟨_, _, HP.out, rfl⟩, HPB.out, HKX.out⟩
  · have m23 := cellAt HCW.out.drew.regs.blk src _ (slF_at ‹src < rg›)
    go_simp
    refine hK.out _ _ ?_ (fun hHeld => ?_)
    · exact grownBy_drew (World.grownBy.refl _ _)
    clear hK K
    try simp only [Act.put, List.setIfInBounds_toArray, List.set_cons_zero, List.set_cons_succ]
    refine wpAnyH_ready (rs := [13]) (by kernel_rfl) (by simp) ?_
    refine (AllReadyH.cons (o := { dst := some 17, op := Op.load 31 (Operand.tmp 16), type := 31, pos := "exec.go:115", after := #[{ on := 12, ground := Ground.data }], guard := none }) rfl (fun K hK => ?_) AllReadyH.nil)
    have m13 := cellAt HCW.out.drew.regs.blk dst _ (slF_at ‹dst < rg›)
    go_simp
    refine hK.out _ _ ?_ (fun hHeld => ?_)
    · exact grownBy_drew (World.grownBy.refl _ _)
    clear hK K
    try simp only [Act.put, List.setIfInBounds_toArray, List.set_cons_zero, List.set_cons_succ]
    refine wpAnyH_ready (rs := [24]) (by kernel_rfl) (by simp) ?_
    refine (AllReadyH.cons (o := { dst := some 28, op := Op.call { callee := Callee.value (Operand.func 101), args := #[Operand.tmp 17, Operand.tmp 19, Operand.tmp 27], argTypes := #[31, 5, 31] }, type := 31, pos := "exec.go:115", after := #[{ on := 13, ground := Ground.data }, { on := 15, ground := Ground.data }, { on := 23, ground := Ground.data }], guard := none }) rfl (fun K hK => ?_) AllReadyH.nil)
    go_simp
    refine Calls.mono (addScaled_R c _ _ n _ _ _ _ _ (by omega) (HCW.out.drew.regs.row dst hd).row8 (HCW.out.drew.regs.row src hs).row8) ?_
    rintro e w6 ⟨q6, rfl, hb6, hr6, hg6⟩
    have hC6 := HCW.out.drew.below hb6
    have hS6 : W.grownBy w6 (some M) := grown_below (grownBy_drew (World.grownBy.refl _ _)) hb6
    go_wp2_with fail
    refine hK.out _ _ ?_ (fun hHeld => ?_)
    · exact hS6
    clear hK K
    try simp only [Act.put, List.setIfInBounds_toArray, List.set_cons_zero, List.set_cons_succ]
    refine wpAnyH_take (i := 25) (oi := { dst := some 29, op := Op.indexAddr 67 (Operand.tmp 7) (Operand.tmp 9), type := 0, pos := "exec.go:115", after := #[{ on := 3, ground := Ground.data }, { on := 5, ground := Ground.data }, { on := 0, ground := Ground.phase }, { on := 1, ground := Ground.phase }, { on := 2, ground := Ground.phase }, { on := 3, ground := Ground.phase }, { on := 4, ground := Ground.phase }, { on := 5, ground := Ground.phase }, { on := 6, ground := Ground.phase }, { on := 7, ground := Ground.phase }, { on := 8, ground := Ground.phase }, { on := 9, ground := Ground.phase }, { on := 10, ground := Ground.phase }, { on := 11, ground := Ground.phase }, { on := 12, ground := Ground.phase }, { on := 13, ground := Ground.phase }, { on := 14, ground := Ground.phase }, { on := 15, ground := Ground.phase }, { on := 16, ground := Ground.phase }, { on := 17, ground := Ground.phase }, { on := 18, ground := Ground.phase }, { on := 19, ground := Ground.phase }, { on := 20, ground := Ground.phase }, { on := 21, ground := Ground.phase }, { on := 22, ground := Ground.phase }, { on := 23, ground := Ground.phase }, { on := 24, ground := Ground.phase }], guard := none }) (v := ?_) rfl (by kernel_rfl) (by kernel_rfl) (by kernel_rfl) (fun _ _ _ h => h) (Or.inl ⟨by rfl, ?_⟩) hHeld ?_
    rotate_left
    · intro u hSw
      go_simp
      try with_reducible rfl
    try simp only [Act.put, List.setIfInBounds_toArray, List.set_cons_zero, List.set_cons_succ]
    refine wpAnyH_ready (rs := [26]) (by kernel_rfl) (by simp) ?_
    refine (AllReadyH.cons (o := { dst := none, op := Op.store 31 (Operand.tmp 29) (Operand.tmp 28), type := 0, pos := "exec.go:115", after := #[{ on := 25, ground := Ground.data }, { on := 24, ground := Ground.data }, { on := 24, ground := Ground.chain }, { on := 0, ground := Ground.phase }, { on := 1, ground := Ground.phase }, { on := 2, ground := Ground.phase }, { on := 3, ground := Ground.phase }, { on := 4, ground := Ground.phase }, { on := 5, ground := Ground.phase }, { on := 6, ground := Ground.phase }, { on := 7, ground := Ground.phase }, { on := 8, ground := Ground.phase }, { on := 9, ground := Ground.phase }, { on := 10, ground := Ground.phase }, { on := 11, ground := Ground.phase }, { on := 12, ground := Ground.phase }, { on := 13, ground := Ground.phase }, { on := 14, ground := Ground.phase }, { on := 15, ground := Ground.phase }, { on := 16, ground := Ground.phase }, { on := 17, ground := Ground.phase }, { on := 18, ground := Ground.phase }, { on := 19, ground := Ground.phase }, { on := 20, ground := Ground.phase }, { on := 21, ground := Ground.phase }, { on := 22, ground := Ground.phase }, { on := 23, ground := Ground.phase }, { on := 24, ground := Ground.phase }], guard := none }) rfl (fun K hK => ?_) AllReadyH.nil)
    have hblk := hC6.regs.blk
    have d8 : w6.frozen? ⟨M, dst, none⟩ = false := frozen_of_row _ _ _ _ _ hblk
    have d9 := cellAt hblk dst _ (slF_at hd)
    go_simp
    refine hK.out _ _ ?_ (fun hHeld => ?_)
    · exact grownBy_setCell hS6 _
    clear hK K
    try simp only [Act.put, List.setIfInBounds_toArray, List.set_cons_zero, List.set_cons_succ]
    refine wpAnyH_done (by kernel_rfl) ?_ _
    refine NoPanic.normal ?_
    have HP : Hid _ := hC6.put hd (a := some ⟨q6, 0, none⟩) (m := n) (v := fun b => ga (R (dst : Int) b) (gm c (R (src : Int) b))) hr6 (Nat.le_refl _) (fun e => by cases e)
    have HPB : Hid _ := (((HBW.out.mono hBw).drew).trans (hb6.mono (by have := HBW.out.size; simp; omega))).setCell (p := ⟨M, dst, none⟩) HCW.out.hM (.slice (some ⟨q6, 0, none⟩) n n)
    have HKX : Hid (∀ (k : Nat) (o : Obj), k ≠ M → k ≠ Q → w.heap[k]? = some o → (w6.setCell ⟨M, dst, none⟩ (.slice (some ⟨q6, 0, none⟩) n n)).heap[k]? = some o) := fun k o h1 _ ho => (heap_setCell_other _ _ _ _ h1).trans (heap_later (w := W.drew) (show W.heap[k]? = some o from heap_later ho HBW.out) hb6)
    go_wp2
    exact ⟨rfl, .tuple #[], by simp [results, Tryd.results82, go_sem], rfl, ⟨_, _, HP.out, rfl⟩, HPB.out, HKX.out⟩
set_option maxRecDepth 100000 in
set_option maxHeartbeats 4000000 in
theorem xdoes_out (B cb M Q Fd n rg no il : Nat) (v0 v1 v2 v3 v6 : Value) (fd : Nat → Option (Option Addr × Nat)) (X : Int → Nat → F) (f : Nat → Option Addr × Nat) (g : Nat → Option (Option Addr × Nat)) (R O : Regs) (op : Int) (dst : Nat) (src : Nat) (cv : Int) (hd : dst < no) (hs : src < rg) (w : World) (hn : n ≤ 64) (hrg : rg ≤ 64) (hno : no ≤ 64) (hBw : B ≤ w.heap.size) (h : RnW B w cb M Q Fd n rg no il v0 v1 v2 v3 v6 fd X f g R O) :
    Calls Tryd.prog 83 #[.pointer (some ⟨cb, 0, none⟩), .agg #[.int .i64 op, .int .i64 (dst : Int), .int .i64 (src : Int), .int .u8 cv]] w fun e w' => e = .returned (.tuple #[]) ∧ (∃ f' g', RnW B w' cb M Q Fd n rg no il v0 v1 v2 v3 v6 fd X f' g' (R) (setR O (dst : Int) (R (src : Int))) ∧ g' = (fun x => if x = dst then some (f src) else g x)) ∧ Below B w w' ∧ (∀ (k : Nat) (o : Obj), k ≠ M → k ≠ Q → w.heap[k]? = some o → w'.heap[k]? = some o) := by
  obtain ⟨W, hW⟩ : ∃ W, W = w.alloc (.cells #[.int .i64 op, .int .i64 (dst : Int), .int .i64 (src : Int), .int .u8 cv] 48) := ⟨_, rfl⟩
  have hBW : Below w.heap.size w W := by rw [hW]; exact (Below.refl _ _).alloc (Nat.le_refl _) _
  have hbox : W.heap[w.heap.size]? = some (.cells #[.int .i64 op, .int .i64 (dst : Int), .int .i64 (src : Int), .int .u8 cv] 48 (0, 0)) := by rw [hW]; exact heap_alloc_last _ _
  have HNE : Hid (w.heap.size ≠ Q) := by have := ltHeap h.outs; show _ ≠ _; omega
  have HCW : Hid _ := h.below hBW
  have HBOX : Hid _ := hbox
  have HBW : Hid _ := hBW
  have HWE : Hid _ := hW
  clear h hBW hbox hW
  go_enter Tryd.func83, Tryd.ntmps83
  go_wp2
  rw [← HWE.out]
  clear HWE
  have k1 := cellAt HCW.out.blk 7 _ rfl
  have k2 := cellAt HCW.out.blk 8 _ rfl
  have k3 := cellAt HBOX.out 1 _ rfl
  have k4 := cellAt HBOX.out 2 _ rfl
  have k5 := cellAt HCW.out.regs.blk src _ (slF_at hs)
  have k6 := cellAt HCW.out.outs dst _ (slO_at hd)
  have k7 : W.frozen? ⟨Q, dst, none⟩ = false := frozen_of_row _ _ _ _ _ HCW.out.outs
  go_region
  have HP : Hid _ := HCW.out.drew.putO hd hs
  have HPB : Hid _ := ((HBW.out.mono hBw).drew).setCell (p := ⟨Q, dst, none⟩) HCW.out.hQ (.slice (f src).1 n (f src).2)
  clear k1 k2 k3 k4 k5 k6 k7
  go_wp2
  exact ⟨rfl, .tuple #[], by simp [results, Tryd.results83, go_sem], rfl, ⟨_, _, HP.out, rfl⟩, HPB.out, fun k o _ h2 ho => (heap_setCell_other _ _ _ _ h2).trans (heap_later ho HBW.out)⟩
set_option maxRecDepth 100000 in
set_option maxHeartbeats 4000000 in
theorem xdoes_load (B cb M Q Fd n rg no il : Nat) (v0 v1 v2 v3 v6 : Value) (fd : Nat → Option (Option Addr × Nat)) (X : Int → Nat → F) (f : Nat → Option Addr × Nat) (g : Nat → Option (Option Addr × Nat)) (R O : Regs) (op : Int) (dst : Nat) (src : Nat) (cv : Int) (hd : dst < rg) (hs : src < il) (w : World) (hn : n ≤ 64) (hrg : rg ≤ 64) (hno : no ≤ 64) (hBw : B ≤ w.heap.size) (h : RnW B w cb M Q Fd n rg no il v0 v1 v2 v3 v6 fd X f g R O) :
    Calls Tryd.prog 79 #[.pointer (some ⟨cb, 0, none⟩), .agg #[.int .i64 op, .int .i64 (dst : Int), .int .i64 (src : Int), .int .u8 cv]] w fun e w' => e = .returned (.tuple #[]) ∧ (∃ f' g', RnW B w' cb M Q Fd n rg no il v0 v1 v2 v3 v6 fd X f' g' (setR R (dst : Int) (X (src : Int))) (O) ∧ g' = g) ∧ Below B w w' ∧ (∀ (k : Nat) (o : Obj), k ≠ M → k ≠ Q → w.heap[k]? = some o → w'.heap[k]? = some o) := by
  obtain ⟨W, hW⟩ : ∃ W, W = w.alloc (.cells #[.int .i64 op, .int .i64 (dst : Int), .int .i64 (src : Int), .int .u8 cv] 48) := ⟨_, rfl⟩
  have hBW : Below w.heap.size w W := by rw [hW]; exact (Below.refl _ _).alloc (Nat.le_refl _) _
  have hbox : W.heap[w.heap.size]? = some (.cells #[.int .i64 op, .int .i64 (dst : Int), .int .i64 (src : Int), .int .u8 cv] 48 (0, 0)) := by rw [hW]; exact heap_alloc_last _ _
  have HNE : Hid (w.heap.size ≠ M) := by have := ltHeap h.regs.blk; show _ ≠ _; omega
  have HCW : Hid _ := h.below hBW
  have HBOX : Hid _ := hbox
  have HBW : Hid _ := hBW
  have HWE : Hid _ := hW
  clear h hBW hbox hW
  obtain ⟨p, hp1, hp2, hp3, hp4⟩ := HCW.out.frow src hs
  have HP2 : Hid _ := hp2
  have HP3 : Hid _ := hp3
  have HP4 : Hid _ := hp4
  have k5 := cellAt HCW.out.fed src _ (slO_at hs)
  rw [svO, hp1] at k5
  clear hp1 hp2 hp3 hp4
  go_enter Tryd.func79, Tryd.ntmps79
  go_wp2
  rw [← HWE.out]
  clear HWE
  have k1 := cellAt HCW.out.blk 7 _ rfl
  have k2 := cellAt HCW.out.blk 5 _ rfl
  have k3 := cellAt HBOX.out 1 _ rfl
  have k4 := cellAt HBOX.out 2 _ rfl
  have k6 := cellAt HCW.out.regs.blk dst _ (slF_at hd)
  have k7 : W.frozen? ⟨M, dst, none⟩ = false := frozen_of_row _ _ _ _ _ HCW.out.regs.blk
  go_region
  have HP : Hid _ := HCW.out.drew.put hd (a := p.1) (m := p.2) (v := X (src : Int)) HP2.out HP3.out HP4.out
  have HPB : Hid _ := ((HBW.out.mono hBw).drew).setCell (p := ⟨M, dst, none⟩) HCW.out.hM (.slice p.1 n p.2)
  clear k1 k2 k3 k4 k5 k6 k7
  go_wp2
  exact ⟨rfl, .tuple #[], by simp [results, Tryd.results79, go_sem], rfl, ⟨_, _, HP.out, rfl⟩, HPB.out, fun k o h1 _ ho => (heap_setCell_other _ _ _ _ h1).trans (heap_later ho HBW.out)⟩
end Go.Proofs.YtanmgpgiepkogaaDoor

/- What the document's own Run makes of inputs, of programs in form. -/
namespace Go.Proofs.YtanmgpgiepkogaaDoor
open Go.RowKit Gf
set_option linter.unusedVariables false
set_option maxRecDepth 20000
set_option linter.unusedSimpArgs false
theorem cell_lt9 {w : World} {b o : Nat} {v : Value} (h : w.cell? ⟨b, o, none⟩ = some v) : b < w.heap.size := by
  by_cases hb : b < w.heap.size
  · exact hb
  · rw [World.cell?, Array.getElem?_eq_none (by show w.heap.size ≤ b; omega)] at h
    cases h
theorem cell_grown9 {w u : World} {r b o : Nat} {v : Value} (hu : w.grownBy u (some r)) (h : w.cell? ⟨b, o, none⟩ = some v) (hne : b ≠ r) : u.cell? ⟨b, o, none⟩ = some v := by
  have hb := hu.block b (cell_lt9 h) (fun e => hne (Option.some.inj e))
  rw [World.cell?] at h ⊢
  rw [hb]
  exact h
set_option maxRecDepth 100000 in
set_option maxHeartbeats 16000000 in
theorem rrun_F (ia oa sa xa : Option Addr) (il ic ol oc sl sc rg n nc h : Nat) (ins outs : List Int) (ss : List Stp) (L : List (List F)) (w : World) (hP : PrgW w ia oa sa il ic ol oc sl sc ins outs ss) (hF : InF ins outs rg ss) (hn : n = L.length) (hil : il ≤ n) (hn9 : n ≤ 4611686018427387904) (hh : h ≤ 64) (hX : Rows8 w xa L) (hL : ∀ i xs, i < il → L[i]? = some xs → h ≤ xs.length) :
    Calls Tryd.prog 30 #[.agg #[.slice ia il ic, .slice oa ol oc, .int .i64 rg, .slice sa sl sc], .slice xa n nc, .int .i64 h] w fun e w' => ∃ Q, e = .returned (.slice (some ⟨Q, 0, none⟩) ol ol) ∧ w.heap.size ≤ Q ∧ OutsW w' Q ol h (inX L) ss ∧ Below w.heap.size w w' := by
  have hol32 : ol ≤ 32 := by rw [hP.eol]; exact goodH_len hF.2.1
  have hrgn : rg ≤ 64 := by have := hF.2.2.1.2; omega
  have hsl9 : sl ≤ 4096 := by rw [hP.esl]; exact hF.2.2.2.1
  have hcsl := hP.csl
  have HP : Hid _ := hP
  have HF : Hid (InF ins outs rg ss) := hF
  have HIL : Hid (il = ins.length) := hP.eil
  have HOL : Hid (ol = outs.length) := hP.eol
  have HSL : Hid (sl = ss.length) := hP.esl
  have HX : Hid (Rows8 w xa L) := hX
  have HLL : Hid (∀ i xs, i < il → L[i]? = some xs → h ≤ xs.length) := hL
  have HN : Hid (n = L.length) := hn
  have mk1 := fun u : World => run_makeN rg h hrgn u
  have hA : Holds ((w.alloc (.cells #[.slice ia il ic, .slice oa ol oc, .int .i64 rg, .slice sa sl sc] 25)).alloc (.cells (slO rg h (fun _ => none)) 31)) [(w.heap.size + 1, .cells (slO rg h (fun _ => none)) 31), (w.heap.size, .cells #[.slice ia il ic, .slice oa ol oc, .int .i64 rg, .slice sa sl sc] 25)] := by
    have h := holds_new (holds_new (holds_nil w) #[.slice ia il ic, .slice oa ol oc, .int .i64 rg, .slice sa sl sc] 25) (slO rg h (fun _ => none)) 31
    simp only [World.size_alloc] at h
    exact h
  have HI0 : Hid (RunI w.heap.size ((w.alloc (.cells #[.slice ia il ic, .slice oa ol oc, .int .i64 rg, .slice sa sl sc] 25)).alloc (.cells (slO rg h (fun _ => none)) 31)) (w.heap.size + 1) (w.heap.size + 1 + 1) rg h 0) :=
    { regs := by simp only [Nat.not_lt_zero, if_false]; exact holds_at hA 0 rfl, row := fun j hj => absurd hj (Nat.not_lt_zero _), size := by simp, hM := by omega, hMF := by omega }
  have HB0 : Hid (Below w.heap.size w ((w.alloc (.cells #[.slice ia il ic, .slice oa ol oc, .int .i64 rg, .slice sa sl sc] 25)).alloc (.cells (slO rg h (fun _ => none)) 31))) := ((Below.refl _ w).alloc (Nat.le_refl _) _).alloc (by simp) _
  have HX0 : Hid _ := holds_at hA 1 rfl
  clear hP hF hn hX hL hA
  go_enter Tryd.func30, Tryd.ntmps30
  go_wp2
  clear mk1
  go_loopw [18] (fun i wr => ∃ k : Nat, k ≤ rg ∧ i = .int .i64 k ∧ Below w.heap.size w wr ∧ RunI w.heap.size wr (w.heap.size + 1) (w.heap.size + 1 + 1) rg h k ∧ wr.heap[w.heap.size]? = some (.cells #[.slice ia il ic, .slice oa ol oc, .int .i64 rg, .slice sa sl sc] 25 (0, 0))) (fun i _ => rg - (intOf i).toNat)
  case atStart => exact ⟨0, Nat.zero_le _, rfl, HB0.out, HI0.out, HX0.out⟩
  case round =>
    obtain ⟨k, hk, rfl, hb, hi, hx⟩ := hrel
    have HB : Hid (Below w.heap.size w wr) := hb
    have HI : Hid (RunI w.heap.size wr (w.heap.size + 1) (w.heap.size + 1 + 1) rg h k) := hi
    have HXB : Hid (wr.heap[w.heap.size]? = some (.cells #[.slice ia il ic, .slice oa ol oc, .int .i64 rg, .slice sa sl sc] 25 (0, 0))) := hx
    clear hb hi hx HB0 HI0 HX0
    by_cases hlt : k < rg
    · have mk3 := fun u : World => run_make8 h (by omega) u
      have hba : Below wr.heap.size wr (wr.alloc (.cells (vfs (zeros h)) 5)) := (Below.refl _ _).alloc (Nat.le_refl _) _
      have k1 : (wr.alloc (.cells (vfs (zeros h)) 5)).cell? ⟨w.heap.size + 1, k, none⟩ = some (.slice none 0 0) := by
        have := cellAt (heap_later HI.out.regs hba) k _ (slO_at hlt)
        rw [svO, if_neg (Nat.lt_irrefl k)] at this
        exact this
      have k2 : (wr.alloc (.cells (vfs (zeros h)) 5)).frozen? ⟨w.heap.size + 1, k, none⟩ = false := frozen_of_row _ _ _ _ _ (heap_later HI.out.regs hba)
      have HIN : Hid _ := HI.out.next hlt
      have HBN : Hid (Below w.heap.size w ((wr.alloc (.cells (vfs (zeros h)) 5)).setCell ⟨w.heap.size + 1, k, none⟩ (.slice (some ⟨wr.heap.size, 0, none⟩) h h))) := (HB.out.alloc HB.out.size _).setCell (p := ⟨w.heap.size + 1, k, none⟩) (by show w.heap.size ≤ w.heap.size + 1; omega) _
      have HXN : Hid (((wr.alloc (.cells (vfs (zeros h)) 5)).setCell ⟨w.heap.size + 1, k, none⟩ (.slice (some ⟨wr.heap.size, 0, none⟩) h h)).heap[w.heap.size]? = some (.cells #[.slice ia il ic, .slice oa ol oc, .int .i64 rg, .slice sa sl sc] 25 (0, 0))) := (heap_setCell_other _ _ _ _ (by show w.heap.size ≠ w.heap.size + 1; omega)).trans (heap_later HXB.out hba)
      clear hba
      go_wp2
      exact ⟨⟨k + 1, by omega, by go_num, HBN.out, HIN.out, HXN.out⟩, by simp [intOf]; omega⟩
    · obtain rfl : k = rg := by omega
      have mk2 := fun u : World => run_makeN ol h (by omega) u
      obtain ⟨M, hM⟩ : ∃ M, M = w.heap.size + 1 := ⟨_, rfl⟩
      obtain ⟨F0, hF0⟩ : ∃ F0, F0 = w.heap.size + 1 + 1 := ⟨_, rfl⟩
      obtain ⟨Q, hQ⟩ : ∃ Q, Q = wr.heap.size := ⟨_, rfl⟩
      have hi : RunI w.heap.size wr M F0 k h k := by rw [hM, hF0]; exact HI.out
      have hr0 := hi.done (no := ol)
      rw [← hQ] at hr0
      have hba : Below wr.heap.size wr (wr.alloc (.cells (slO ol h (fun _ => none)) 31)) := (Below.refl _ _).alloc (Nat.le_refl _) _
      have HR0 : Hid _ := hr0
      have HBQ : Hid (Below w.heap.size w (wr.alloc (.cells (slO ol h (fun _ => none)) 31))) := HB.out.alloc HB.out.size _
      have k1 := cellAt HXB.out 1 _ rfl
      have k3 := cellAt (heap_later HXB.out hba) 3 _ rfl
      have HMB : Hid (w.heap.size < F0) := by show _ < _; omega
      have HME : Hid (M = w.heap.size + 1) := hM
      have HQE : Hid (Q = wr.heap.size) := hQ
      clear hM hF0 hQ hi hr0 hba HI HXB HB
      go_wp2
      rw [← HME.out, ← HQE.out]
      clear k1 k3 mk2 HME HQE
      go_loopw [34] (fun i wr => ∃ (j : Nat) (g : Nat → Option (Nat × Nat)), j ≤ sl ∧ i = .int .i64 j ∧ Below w.heap.size w wr ∧ RunW w.heap.size wr M F0 Q k ol h g (runR (inX L) (ss.take j) noR) (runO (inX L) (ss.take j) noR noR) ∧ ∀ d : Nat, (g d).isSome = decide (1 ≤ cntO (ss.take j) d)) (fun i _ => sl - (intOf i).toNat)
      case atStart => exact ⟨0, _, Nat.zero_le _, rfl, HBQ.out, by rw [List.take_zero]; exact HR0.out, fun d => by rw [List.take_zero]; rfl⟩
      case round =>
        obtain ⟨j, g, hj, rfl, hbr, hrr, hgs⟩ := hrel
        have HBO : Hid (Below w.heap.size w wr) := hbr
        obtain ⟨R9, hR9⟩ : ∃ R9, R9 = runR (inX L) (ss.take j) noR := ⟨_, rfl⟩
        obtain ⟨O9, hO9⟩ : ∃ O9, O9 = runO (inX L) (ss.take j) noR noR := ⟨_, rfl⟩
        rw [← hR9, ← hO9] at hrr
        have HRO : Hid (RunW w.heap.size wr M F0 Q k ol h g R9 O9) := hrr
        have HGS : Hid (∀ d : Nat, (g d).isSome = decide (1 ≤ cntO (ss.take j) d)) := hgs
        have HRE9 : Hid (R9 = runR (inX L) (ss.take j) noR) := hR9
        have HOE9 : Hid (O9 = runO (inX L) (ss.take j) noR noR) := hO9
        clear hbr hrr hgs hR9 hO9 HR0 HBQ
        by_cases hlj : j < sl
        · have hjs : j < ss.length := by rw [← HSL.out]; exact hlj
          obtain ⟨b0, off, hsa, hc⟩ := stpW_get (stpW_below HP.out.S HBO.out) hjs
          obtain ⟨c0, c1, c2, c3⟩ := hc j hjs
          obtain ⟨⟨op, dst, src, c⟩, hs⟩ : ∃ s, ss[j] = s := ⟨_, rfl⟩
          rw [hs] at c0 c1 c2 c3
          simp only at c0 c1 c2 c3
          have hget : ss[j]? = some ⟨op, dst, src, c⟩ := by rw [List.getElem?_eq_getElem hjs, hs]
          have HTK : Hid (ss.take (j + 1) = ss.take j ++ [⟨op, dst, src, c⟩]) := by show _ = _; rw [List.take_add_one, hget]; rfl
          have hok : OkS il ol k ⟨op, dst, src, c⟩ := by rw [HIL.out, HOL.out]; exact HF.out.2.2.2.2.1 _ (List.mem_of_getElem? hget)
          have HOK : Hid (OkS il ol k ⟨op, dst, src, c⟩) := hok
          have HR1 : Hid (runR (inX L) (ss.take (j + 1)) noR = doR (inX L) ⟨op, dst, src, c⟩ R9) := by show _ = _; rw [HTK.out, runR_app, ← HRE9.out]; rfl
          have HO1 : Hid (runO (inX L) (ss.take (j + 1)) noR noR = doO ⟨op, dst, src, c⟩ R9 O9) := by show _ = _; rw [HTK.out, runO_app, ← HRE9.out, ← HOE9.out]; rfl
          subst hsa
          clear hc hs hget hjs hok
          generalize wr = wo at *
          have hba : Below wo.heap.size wo (wo.alloc (.cells #[.int .i64 op, .int .i64 dst, .int .i64 src, .int .u8 (c.toNat : Int)] 48)) := (Below.refl _ _).alloc (Nat.le_refl _) _
          have HB1 : Hid (Below w.heap.size w (wo.alloc (.cells #[.int .i64 op, .int .i64 dst, .int .i64 src, .int .u8 (c.toNat : Int)] 48))) := HBO.out.alloc HBO.out.size _
          have HS1 : Hid ((wo.alloc (.cells #[.int .i64 op, .int .i64 dst, .int .i64 src, .int .u8 (c.toNat : Int)] 48)).heap[wo.heap.size]? = some (.cells #[.int .i64 op, .int .i64 dst, .int .i64 src, .int .u8 (c.toNat : Int)] 48 (0, 0))) := heap_alloc_last wo _
          have HR2 : Hid (RunW w.heap.size (wo.alloc (.cells #[.int .i64 op, .int .i64 dst, .int .i64 src, .int .u8 (c.toNat : Int)] 48)) M F0 Q k ol h g (upTo (inX L) ⟨op, dst, src, c⟩ R9 0) O9) := by show RunW ..; rw [upTo_zero]; exact HRO.out.below hba
          have HSQ : Hid (wo.heap.size ≠ Q) := by show _ ≠ _; have := ltHeap HRO.out.outs; omega
          have HSN : Hid (∀ x, x < k → wo.heap.size ≠ F0 + x) := fun x hx => by have := ltHeap (HRO.out.row x hx); omega
          clear hba
          go_wp2
          clear c0 c1 c2 c3
          go_loopw [12] (fun i wr => ∃ b : Nat, b ≤ h ∧ i = .int .i64 b ∧ Below w.heap.size w wr ∧ RunW w.heap.size wr M F0 Q k ol h g (upTo (inX L) ⟨op, dst, src, c⟩ R9 b) O9 ∧ wr.heap[wo.heap.size]? = some (.cells #[.int .i64 op, .int .i64 dst, .int .i64 src, .int .u8 (c.toNat : Int)] 48 (0, 0))) (fun i _ => h - (intOf i).toNat)
          case atStart => exact ⟨0, Nat.zero_le _, rfl, HB1.out, HR2.out, HS1.out⟩
          case round =>
            obtain ⟨b, hb, rfl, hbr, hrr, hsr⟩ := hrel
            have HB : Hid (Below w.heap.size w wr) := hbr
            have HR : Hid (RunW w.heap.size wr M F0 Q k ol h g (upTo (inX L) ⟨op, dst, src, c⟩ R9 b) O9) := hrr
            have HS : Hid (wr.heap[wo.heap.size]? = some (.cells #[.int .i64 op, .int .i64 dst, .int .i64 src, .int .u8 (c.toNat : Int)] 48 (0, 0))) := hsr
            have g0 := cellAt hsr 0 _ rfl
            clear hbr hrr hsr HB1 HR2 HS1
            have hok := HOK.out
            unfold OkS at hok
            simp only at hok
            by_cases hbh : b < h
            · rcases hok with ⟨rfl, ⟨hd0, hd1⟩, ⟨hs0, hs1⟩, hz1⟩ | ⟨rfl, ⟨hd0, hd1⟩, hz1, hz2⟩ | ⟨rfl, ⟨hd0, hd1⟩, hz1⟩ | ⟨rfl, ⟨hd0, hd1⟩, hs0, hs1⟩ | ⟨rfl, hz1⟩
              · obtain ⟨dq, rfl⟩ := Int.eq_ofNat_of_zero_le hd0
                obtain ⟨sq, rfl⟩ := Int.eq_ofNat_of_zero_le hs0
                have hdq : dq < k := by omega
                have hsq : sq < il := by omega
                have hsn : sq < n := by omega
                obtain ⟨xs, hxs⟩ : ∃ xs, L[sq]? = some xs := ⟨_, List.getElem?_eq_getElem (by rw [← HN.out]; exact hsn)⟩
                have HXS : Hid (L[sq]? = some xs) := hxs
                have hlen := HLL.out sq xs hsq hxs
                have hbx : b < xs.length := by omega
                obtain ⟨ib, ioff, rb, ro, rc, rfl, HIC, HRB⟩ : ∃ ib ioff rb ro rc, xa = some ⟨ib, ioff, none⟩ ∧ Hid (w.cell? ⟨ib, ioff + sq, none⟩ = some (.slice (some ⟨rb, ro, none⟩) xs.length rc)) ∧ Hid (∀ i, i < xs.length → w.cell? ⟨rb, ro + i, none⟩ = some (.int .u8 ((at8 xs i).toNat : Int))) := by
                  rcases HX.out with rfl | ⟨ib, ioff, e, hc⟩
                  · cases hxs
                  · obtain ⟨a', cap', h1, h2⟩ := hc sq xs hxs
                    rcases h2 with rfl | ⟨rb, ro, rfl, h3⟩
                    · exact absurd hbx (Nat.not_lt_zero _)
                    · exact ⟨ib, ioff, rb, ro, cap', e, h1, h3⟩
                clear hxs hd0 hd1 hs0 hs1 hz1
                go_wp2
                have P1 : Hid (∀ u, wr.grownBy u (some (F0 + dq)) → u.cell? ⟨wo.heap.size, 1, none⟩ = some (.int .i64 (dq : Int))) := fun u hu => cellAt ((hu.block _ (ltHeap HS.out) (fun e => HSN.out dq hdq (Option.some.inj e))).trans HS.out) 1 _ rfl
                have P2 : Hid (∀ u, wr.grownBy u (some (F0 + dq)) → u.cell? ⟨wo.heap.size, 2, none⟩ = some (.int .i64 (sq : Int))) := fun u hu => cellAt ((hu.block _ (ltHeap HS.out) (fun e => HSN.out dq hdq (Option.some.inj e))).trans HS.out) 2 _ rfl
                have PM : Hid (∀ u, wr.grownBy u (some (F0 + dq)) → u.cell? ⟨M, dq, none⟩ = some (.slice (some ⟨F0 + dq, 0, none⟩) h h)) := fun u hu => cellAt ((hu.block _ (ltHeap HR.out.regs) (fun e => by have := Option.some.inj e; have := HR.out.hMF; omega)).trans HR.out.regs) dq _ (slF_at (by assumption))
                have PI : Hid (∀ u, wr.grownBy u (some (F0 + dq)) → u.cell? ⟨ib, ioff + sq, none⟩ = some (.slice (some ⟨rb, ro, none⟩) xs.length rc)) := fun u hu => cell_grown9 hu (cell_later HB.out HIC.out) (by have := cell_lt9 HIC.out; have := HMB.out; omega)
                have PB : Hid (∀ u, wr.grownBy u (some (F0 + dq)) → u.cell? ⟨rb, ro + b, none⟩ = some (.int .u8 ((at8 xs b).toNat : Int))) := fun u hu => cell_grown9 hu (cell_later HB.out (HRB.out b hbx)) (by have := cell_lt9 (HRB.out b hbx); have := HMB.out; omega)
                refine wp_region_noPanic ?_
                refine wp_region_held_drew (S := fun u => wr.grownBy u (some (F0 + dq))) (by kernel_rfl) ?_ (fun hHeld => ?_)
                · exact grownBy_drew (World.grownBy.refl _ _)
                obtain ⟨X, hX⟩ : ∃ X, X = wr.drew := ⟨_, rfl⟩
                have GX : wr.grownBy X (some (F0 + dq)) := by rw [hX]; exact grownBy_drew (World.grownBy.refl _ _)
                have HRX : Hid (RunW w.heap.size X M F0 Q k ol h g (upTo (inX L) ⟨1, (dq : Int), (sq : Int), c⟩ R9 b) O9) := by show RunW ..; rw [hX]; exact HR.out.drew
                have HBX : Hid (Below w.heap.size w X) := by show Below ..; rw [hX]; exact HB.out.drew
                have HSX : Hid (X.heap[wo.heap.size]? = some (.cells #[.int .i64 1, .int .i64 (dq : Int), .int .i64 (sq : Int), .int .u8 (c.toNat : Int)] 48 (0, 0))) := by show _ = _; rw [hX]; exact HS.out
                rw [← hX] at hHeld ⊢
                clear hX
                refine wpAnyH_take (i := 0) (oi := { dst := some 47, op := Op.move (Operand.tmp 7), type := 67, pos := "ref.go:68", after := #[], guard := none }) (v := ?_) rfl (by kernel_rfl) (by kernel_rfl) (by kernel_rfl) (fun _ _ _ h => h) (Or.inl ⟨by rfl, ?_⟩) hHeld ?_
                rotate_left
                · intro u hSw
                  go_simp
                  try with_reducible rfl
                try simp only [Act.put, List.setIfInBounds_toArray, List.set_cons_zero, List.set_cons_succ]
                refine wpAnyH_take (i := 1) (oi := { dst := some 48, op := Op.fieldAddr 48 (Operand.tmp 11) 1, type := 0, pos := "ref.go:68", after := #[], guard := none }) (v := ?_) rfl (by kernel_rfl) (by kernel_rfl) (by kernel_rfl) (fun _ _ _ h => h) (Or.inl ⟨by rfl, ?_⟩) hHeld ?_
                rotate_left
                · intro u hSw
                  go_simp
                  try with_reducible rfl
                try simp only [Act.put, List.setIfInBounds_toArray, List.set_cons_zero, List.set_cons_succ]
                refine wpAnyH_take (i := 2) (oi := { dst := some 49, op := Op.load 3 (Operand.tmp 48), type := 3, pos := "ref.go:68", after := #[{ on := 1, ground := Ground.data }], guard := none }) (v := ?_) rfl (by kernel_rfl) (by kernel_rfl) (by kernel_rfl) (fun _ _ _ h => h) (Or.inl ⟨by rfl, ?_⟩) hHeld ?_
                rotate_left
                · intro u hSw
                  have k9 := P1.out u hSw
                  go_simp
                  try with_reducible rfl
                try simp only [Act.put, List.setIfInBounds_toArray, List.set_cons_zero, List.set_cons_succ]
                refine wpAnyH_take (i := 3) (oi := { dst := some 50, op := Op.indexAddr 67 (Operand.tmp 47) (Operand.tmp 49), type := 0, pos := "ref.go:68", after := #[{ on := 0, ground := Ground.data }, { on := 2, ground := Ground.data }], guard := none }) (v := ?_) rfl (by kernel_rfl) (by kernel_rfl) (by kernel_rfl) (fun _ _ _ h => h) (Or.inl ⟨by rfl, ?_⟩) hHeld ?_
                rotate_left
                · intro u hSw
                  go_simp
                  try with_reducible rfl
                try simp only [Act.put, List.setIfInBounds_toArray, List.set_cons_zero, List.set_cons_succ]
                refine wpAnyH_take (i := 4) (oi := { dst := some 51, op := Op.load 31 (Operand.tmp 50), type := 31, pos := "ref.go:68", after := #[{ on := 3, ground := Ground.data }], guard := none }) (v := ?_) rfl (by kernel_rfl) (by kernel_rfl) (by kernel_rfl) (fun _ _ _ h => h) (Or.inl ⟨by rfl, ?_⟩) hHeld ?_
                rotate_left
                · intro u hSw
                  have k9 := PM.out u hSw
                  go_simp
                  try with_reducible rfl
                try simp only [Act.put, List.setIfInBounds_toArray, List.set_cons_zero, List.set_cons_succ]
                refine wpAnyH_take (i := 5) (oi := { dst := some 52, op := Op.move (Operand.tmp 12), type := 3, pos := "ref.go:68", after := #[], guard := none }) (v := ?_) rfl (by kernel_rfl) (by kernel_rfl) (by kernel_rfl) (fun _ _ _ h => h) (Or.inl ⟨by rfl, ?_⟩) hHeld ?_
                rotate_left
                · intro u hSw
                  go_simp
                  try with_reducible rfl
                try simp only [Act.put, List.setIfInBounds_toArray, List.set_cons_zero, List.set_cons_succ]
                refine wpAnyH_take (i := 6) (oi := { dst := some 53, op := Op.move (Operand.tmp 1), type := 67, pos := "ref.go:68", after := #[], guard := none }) (v := ?_) rfl (by kernel_rfl) (by kernel_rfl) (by kernel_rfl) (fun _ _ _ h => h) (Or.inl ⟨by rfl, ?_⟩) hHeld ?_
                rotate_left
                · intro u hSw
                  go_simp
                  try with_reducible rfl
                try simp only [Act.put, List.setIfInBounds_toArray, List.set_cons_zero, List.set_cons_succ]
                refine wpAnyH_take (i := 7) (oi := { dst := some 54, op := Op.fieldAddr 48 (Operand.tmp 11) 2, type := 0, pos := "ref.go:68", after := #[], guard := none }) (v := ?_) rfl (by kernel_rfl) (by kernel_rfl) (by kernel_rfl) (fun _ _ _ h => h) (Or.inl ⟨by rfl, ?_⟩) hHeld ?_
                rotate_left
                · intro u hSw
                  go_simp
                  try with_reducible rfl
                try simp only [Act.put, List.setIfInBounds_toArray, List.set_cons_zero, List.set_cons_succ]
                refine wpAnyH_take (i := 8) (oi := { dst := some 55, op := Op.load 3 (Operand.tmp 54), type := 3, pos := "ref.go:68", after := #[{ on := 7, ground := Ground.data }], guard := none }) (v := ?_) rfl (by kernel_rfl) (by kernel_rfl) (by kernel_rfl) (fun _ _ _ h => h) (Or.inl ⟨by rfl, ?_⟩) hHeld ?_
                rotate_left
                · intro u hSw
                  have k9 := P2.out u hSw
                  go_simp
                  try with_reducible rfl
                try simp only [Act.put, List.setIfInBounds_toArray, List.set_cons_zero, List.set_cons_succ]
                refine wpAnyH_take (i := 9) (oi := { dst := some 56, op := Op.indexAddr 67 (Operand.tmp 53) (Operand.tmp 55), type := 0, pos := "ref.go:68", after := #[{ on := 6, ground := Ground.data }, { on := 8, ground := Ground.data }], guard := none }) (v := ?_) rfl (by kernel_rfl) (by kernel_rfl) (by kernel_rfl) (fun _ _ _ h => h) (Or.inl ⟨by rfl, ?_⟩) hHeld ?_
                rotate_left
                · intro u hSw
                  go_simp
                  try with_reducible rfl
                try simp only [Act.put, List.setIfInBounds_toArray, List.set_cons_zero, List.set_cons_succ]
                refine wpAnyH_take (i := 10) (oi := { dst := some 57, op := Op.load 31 (Operand.tmp 56), type := 31, pos := "ref.go:68", after := #[{ on := 9, ground := Ground.data }], guard := none }) (v := ?_) rfl (by kernel_rfl) (by kernel_rfl) (by kernel_rfl) (fun _ _ _ h => h) (Or.inl ⟨by rfl, ?_⟩) hHeld ?_
                rotate_left
                · intro u hSw
                  have k9 := PI.out u hSw
                  go_simp
                  try with_reducible rfl
                try simp only [Act.put, List.setIfInBounds_toArray, List.set_cons_zero, List.set_cons_succ]
                refine wpAnyH_take (i := 11) (oi := { dst := some 58, op := Op.move (Operand.tmp 12), type := 3, pos := "ref.go:68", after := #[], guard := none }) (v := ?_) rfl (by kernel_rfl) (by kernel_rfl) (by kernel_rfl) (fun _ _ _ h => h) (Or.inl ⟨by rfl, ?_⟩) hHeld ?_
                rotate_left
                · intro u hSw
                  go_simp
                  try with_reducible rfl
                try simp only [Act.put, List.setIfInBounds_toArray, List.set_cons_zero, List.set_cons_succ]
                refine wpAnyH_take (i := 12) (oi := { dst := some 59, op := Op.indexAddr 31 (Operand.tmp 57) (Operand.tmp 58), type := 0, pos := "ref.go:68", after := #[{ on := 10, ground := Ground.data }, { on := 11, ground := Ground.data }], guard := none }) (v := ?_) rfl (by kernel_rfl) (by kernel_rfl) (by kernel_rfl) (fun _ _ _ h => h) (Or.inl ⟨by rfl, ?_⟩) hHeld ?_
                rotate_left
                · intro u hSw
                  go_simp
                  try with_reducible rfl
                try simp only [Act.put, List.setIfInBounds_toArray, List.set_cons_zero, List.set_cons_succ]
                refine wpAnyH_take (i := 13) (oi := { dst := some 60, op := Op.load 5 (Operand.tmp 59), type := 5, pos := "ref.go:68", after := #[{ on := 12, ground := Ground.data }], guard := none }) (v := ?_) rfl (by kernel_rfl) (by kernel_rfl) (by kernel_rfl) (fun _ _ _ h => h) (Or.inl ⟨by rfl, ?_⟩) hHeld ?_
                rotate_left
                · intro u hSw
                  have k9 := PB.out u hSw
                  go_simp
                  try with_reducible rfl
                try simp only [Act.put, List.setIfInBounds_toArray, List.set_cons_zero, List.set_cons_succ]
                refine wpAnyH_take (i := 14) (oi := { dst := some 61, op := Op.indexAddr 31 (Operand.tmp 51) (Operand.tmp 52), type := 0, pos := "ref.go:68", after := #[{ on := 4, ground := Ground.data }, { on := 5, ground := Ground.data }, { on := 0, ground := Ground.phase }, { on := 1, ground := Ground.phase }, { on := 2, ground := Ground.phase }, { on := 3, ground := Ground.phase }, { on := 4, ground := Ground.phase }, { on := 5, ground := Ground.phase }, { on := 6, ground := Ground.phase }, { on := 7, ground := Ground.phase }, { on := 8, ground := Ground.phase }, { on := 9, ground := Ground.phase }, { on := 10, ground := Ground.phase }, { on := 11, ground := Ground.phase }, { on := 12, ground := Ground.phase }, { on := 13, ground := Ground.phase }], guard := none }) (v := ?_) rfl (by kernel_rfl) (by kernel_rfl) (by kernel_rfl) (fun _ _ _ h => h) (Or.inl ⟨by rfl, ?_⟩) hHeld ?_
                rotate_left
                · intro u hSw
                  go_simp
                  try with_reducible rfl
                try simp only [Act.put, List.setIfInBounds_toArray, List.set_cons_zero, List.set_cons_succ]
                refine wpAnyH_ready (rs := [15]) (by kernel_rfl) (by simp) ?_
                refine (AllReadyH.cons (o := { dst := none, op := Op.store 5 (Operand.tmp 61) (Operand.tmp 60), type := 0, pos := "ref.go:68", after := #[{ on := 14, ground := Ground.data }, { on := 13, ground := Ground.data }, { on := 0, ground := Ground.phase }, { on := 1, ground := Ground.phase }, { on := 2, ground := Ground.phase }, { on := 3, ground := Ground.phase }, { on := 4, ground := Ground.phase }, { on := 5, ground := Ground.phase }, { on := 6, ground := Ground.phase }, { on := 7, ground := Ground.phase }, { on := 8, ground := Ground.phase }, { on := 9, ground := Ground.phase }, { on := 10, ground := Ground.phase }, { on := 11, ground := Ground.phase }, { on := 12, ground := Ground.phase }, { on := 13, ground := Ground.phase }], guard := none }) rfl (fun K hK => ?_) AllReadyH.nil)
                have q0 := cellAt (HRX.out.row dq (by assumption)) b _ (vfs_get _ b (by rw [rowF_len]; exact hbh))
                have q1 : X.frozen? ⟨F0 + dq, b, none⟩ = false := frozen_of_row _ _ _ _ _ (HRX.out.row dq (by assumption))
                go_simp
                refine hK.out _ _ ?_ (fun hHeld => ?_)
                · exact grownBy_setCell GX _
                clear hK K
                try simp only [Act.put, List.setIfInBounds_toArray, List.set_cons_zero, List.set_cons_succ]
                refine wpAnyH_done (by kernel_rfl) ?_ _
                refine NoPanic.normal ?_
                obtain ⟨Z, hZ⟩ : ∃ Z, Z = X.setCell ⟨F0 + dq, b, none⟩ (.int .u8 ((at8 xs b).toNat : Int)) := ⟨_, rfl⟩
                have HZR : Hid (RunW w.heap.size Z M F0 Q k ol h g (upTo (inX L) ⟨1, (dq : Int), (sq : Int), c⟩ R9 (b + 1)) O9) := by
                  show RunW ..
                  rw [hZ, upTo_next (k := dq) (x := at8 xs b) rfl (fun h => absurd (show (1 : Int) = 5 from h) (by decide)) (by rw [doR_1 rfl]; exact (congrFun setR_same b).trans (inX_at HXS.out b))]
                  exact HRX.out.poke (by assumption) hbh _
                have HZB : Hid (Below w.heap.size w Z) := by show Below ..; rw [hZ]; exact HBX.out.setCell (p := ⟨F0 + dq, b, none⟩) (by show w.heap.size ≤ F0 + dq; have := HMB.out; omega) _
                have HZS : Hid (Z.heap[wo.heap.size]? = some (.cells #[.int .i64 1, .int .i64 (dq : Int), .int .i64 (sq : Int), .int .u8 (c.toNat : Int)] 48 (0, 0))) := by show _ = _; rw [hZ]; exact (heap_setCell_other _ _ _ _ (HSN.out dq hdq)).trans HSX.out
                rw [← hZ]
                clear hZ
                go_wp2
                exact ⟨⟨b + 1, by omega, by go_num, HZB.out, HZR.out, HZS.out⟩, by simp [intOf]; omega⟩
              · obtain ⟨dq, rfl⟩ := Int.eq_ofNat_of_zero_le hd0
                have hdq : dq < k := by omega
                clear hd0 hd1 hz1 hz2
                have p1 := cellAt HS.out 1 _ rfl
                have pm := cellAt HR.out.regs dq _ (slF_at hdq)
                have q0 := cellAt (HR.out.row dq hdq) b _ (vfs_get _ b (by rw [rowF_len]; exact hbh))
                have q1 : wr.frozen? ⟨F0 + dq, b, none⟩ = false := frozen_of_row _ _ _ _ _ (HR.out.row dq hdq)
                have HZR : Hid (RunW w.heap.size (wr.setCell ⟨F0 + dq, b, none⟩ (.int .u8 0)) M F0 Q k ol h g (upTo (inX L) ⟨2, (dq : Int), src, c⟩ R9 (b + 1)) O9) := by
                  show RunW ..
                  rw [upTo_next (k := dq) (x := 0) rfl (fun h => absurd (show (2 : Int) = 5 from h) (by decide)) (by rw [doR_2 rfl]; exact congrFun setR_same b)]
                  exact HR.out.poke hdq hbh 0
                have HZB : Hid (Below w.heap.size w (wr.setCell ⟨F0 + dq, b, none⟩ (.int .u8 0))) := HB.out.setCell (p := ⟨F0 + dq, b, none⟩) (by show w.heap.size ≤ F0 + dq; have := HMB.out; omega) _
                have HZS : Hid ((wr.setCell ⟨F0 + dq, b, none⟩ (.int .u8 0)).heap[wo.heap.size]? = some (.cells #[.int .i64 2, .int .i64 (dq : Int), .int .i64 src, .int .u8 (c.toNat : Int)] 48 (0, 0))) := (heap_setCell_other _ _ _ _ (HSN.out dq hdq)).trans HS.out
                go_wp2
                exact ⟨⟨b + 1, by omega, by go_num, HZB.out, HZR.out, HZS.out⟩, by simp [intOf]; omega⟩
              · obtain ⟨dq, rfl⟩ := Int.eq_ofNat_of_zero_le hd0
                have hdq : dq < k := by omega
                clear hd0 hd1 hz1
                go_wp2
                have P1 : Hid (∀ u, wr.grownBy u (some (F0 + dq)) → u.cell? ⟨wo.heap.size, 1, none⟩ = some (.int .i64 (dq : Int))) := fun u hu => cellAt ((hu.block _ (ltHeap HS.out) (fun e => HSN.out dq hdq (Option.some.inj e))).trans HS.out) 1 _ rfl
                have P3 : Hid (∀ u, wr.grownBy u (some (F0 + dq)) → u.cell? ⟨wo.heap.size, 3, none⟩ = some (.int .u8 (c.toNat : Int))) := fun u hu => cellAt ((hu.block _ (ltHeap HS.out) (fun e => HSN.out dq hdq (Option.some.inj e))).trans HS.out) 3 _ rfl
                have PM : Hid (∀ u, wr.grownBy u (some (F0 + dq)) → u.cell? ⟨M, dq, none⟩ = some (.slice (some ⟨F0 + dq, 0, none⟩) h h)) := fun u hu => cellAt ((hu.block _ (ltHeap HR.out.regs) (fun e => by have := Option.some.inj e; have := HR.out.hMF; omega)).trans HR.out.regs) dq _ (slF_at (by assumption))
                refine wp_region_noPanic ?_
                refine wp_region_held_drew (S := fun u => wr.grownBy u (some (F0 + dq))) (by kernel_rfl) ?_ (fun hHeld => ?_)
                · exact grownBy_drew (World.grownBy.refl _ _)
                obtain ⟨X, hX⟩ : ∃ X, X = wr.drew := ⟨_, rfl⟩
                have GX : wr.grownBy X (some (F0 + dq)) := by rw [hX]; exact grownBy_drew (World.grownBy.refl _ _)
                have HRX : Hid (RunW w.heap.size X M F0 Q k ol h g (upTo (inX L) ⟨3, (dq : Int), src, c⟩ R9 b) O9) := by show RunW ..; rw [hX]; exact HR.out.drew
                have HBX : Hid (Below w.heap.size w X) := by show Below ..; rw [hX]; exact HB.out.drew
                have HSX : Hid (X.heap[wo.heap.size]? = some (.cells #[.int .i64 3, .int .i64 (dq : Int), .int .i64 src, .int .u8 (c.toNat : Int)] 48 (0, 0))) := by show _ = _; rw [hX]; exact HS.out
                rw [← hX] at hHeld ⊢
                clear hX
                refine wpAnyH_take (i := 0) (oi := { dst := some 73, op := Op.move (Operand.tmp 7), type := 67, pos := "ref.go:72", after := #[], guard := none }) (v := ?_) rfl (by kernel_rfl) (by kernel_rfl) (by kernel_rfl) (fun _ _ _ h => h) (Or.inl ⟨by rfl, ?_⟩) hHeld ?_
                rotate_left
                · intro u hSw
                  go_simp
                  try with_reducible rfl
                try simp only [Act.put, List.setIfInBounds_toArray, List.set_cons_zero, List.set_cons_succ]
                refine wpAnyH_take (i := 1) (oi := { dst := some 74, op := Op.fieldAddr 48 (Operand.tmp 11) 1, type := 0, pos := "ref.go:72", after := #[], guard := none }) (v := ?_) rfl (by kernel_rfl) (by kernel_rfl) (by kernel_rfl) (fun _ _ _ h => h) (Or.inl ⟨by rfl, ?_⟩) hHeld ?_
                rotate_left
                · intro u hSw
                  go_simp
                  try with_reducible rfl
                try simp only [Act.put, List.setIfInBounds_toArray, List.set_cons_zero, List.set_cons_succ]
                refine wpAnyH_take (i := 2) (oi := { dst := some 75, op := Op.load 3 (Operand.tmp 74), type := 3, pos := "ref.go:72", after := #[{ on := 1, ground := Ground.data }], guard := none }) (v := ?_) rfl (by kernel_rfl) (by kernel_rfl) (by kernel_rfl) (fun _ _ _ h => h) (Or.inl ⟨by rfl, ?_⟩) hHeld ?_
                rotate_left
                · intro u hSw
                  have k9 := P1.out u hSw
                  go_simp
                  try with_reducible rfl
                try simp only [Act.put, List.setIfInBounds_toArray, List.set_cons_zero, List.set_cons_succ]
                refine wpAnyH_take (i := 3) (oi := { dst := some 76, op := Op.indexAddr 67 (Operand.tmp 73) (Operand.tmp 75), type := 0, pos := "ref.go:72", after := #[{ on := 0, ground := Ground.data }, { on := 2, ground := Ground.data }], guard := none }) (v := ?_) rfl (by kernel_rfl) (by kernel_rfl) (by kernel_rfl) (fun _ _ _ h => h) (Or.inl ⟨by rfl, ?_⟩) hHeld ?_
                rotate_left
                · intro u hSw
                  go_simp
                  try with_reducible rfl
                try simp only [Act.put, List.setIfInBounds_toArray, List.set_cons_zero, List.set_cons_succ]
                refine wpAnyH_take (i := 4) (oi := { dst := some 77, op := Op.load 31 (Operand.tmp 76), type := 31, pos := "ref.go:72", after := #[{ on := 3, ground := Ground.data }], guard := none }) (v := ?_) rfl (by kernel_rfl) (by kernel_rfl) (by kernel_rfl) (fun _ _ _ h => h) (Or.inl ⟨by rfl, ?_⟩) hHeld ?_
                rotate_left
                · intro u hSw
                  have k9 := PM.out u hSw
                  go_simp
                  try with_reducible rfl
                try simp only [Act.put, List.setIfInBounds_toArray, List.set_cons_zero, List.set_cons_succ]
                refine wpAnyH_take (i := 5) (oi := { dst := some 78, op := Op.move (Operand.tmp 12), type := 3, pos := "ref.go:72", after := #[], guard := none }) (v := ?_) rfl (by kernel_rfl) (by kernel_rfl) (by kernel_rfl) (fun _ _ _ h => h) (Or.inl ⟨by rfl, ?_⟩) hHeld ?_
                rotate_left
                · intro u hSw
                  go_simp
                  try with_reducible rfl
                try simp only [Act.put, List.setIfInBounds_toArray, List.set_cons_zero, List.set_cons_succ]
                refine wpAnyH_take (i := 6) (oi := { dst := some 79, op := Op.fieldAddr 48 (Operand.tmp 11) 3, type := 0, pos := "ref.go:72", after := #[], guard := none }) (v := ?_) rfl (by kernel_rfl) (by kernel_rfl) (by kernel_rfl) (fun _ _ _ h => h) (Or.inl ⟨by rfl, ?_⟩) hHeld ?_
                rotate_left
                · intro u hSw
                  go_simp
                  try with_reducible rfl
                try simp only [Act.put, List.setIfInBounds_toArray, List.set_cons_zero, List.set_cons_succ]
                refine wpAnyH_take (i := 7) (oi := { dst := some 80, op := Op.load 5 (Operand.tmp 79), type := 5, pos := "ref.go:72", after := #[{ on := 6, ground := Ground.data }], guard := none }) (v := ?_) rfl (by kernel_rfl) (by kernel_rfl) (by kernel_rfl) (fun _ _ _ h => h) (Or.inl ⟨by rfl, ?_⟩) hHeld ?_
                rotate_left
                · intro u hSw
                  have k9 := P3.out u hSw
                  go_simp
                  try with_reducible rfl
                try simp only [Act.put, List.setIfInBounds_toArray, List.set_cons_zero, List.set_cons_succ]
                refine wpAnyH_take (i := 8) (oi := { dst := some 81, op := Op.move (Operand.tmp 7), type := 67, pos := "ref.go:72", after := #[], guard := none }) (v := ?_) rfl (by kernel_rfl) (by kernel_rfl) (by kernel_rfl) (fun _ _ _ h => h) (Or.inl ⟨by rfl, ?_⟩) hHeld ?_
                rotate_left
                · intro u hSw
                  go_simp
                  try with_reducible rfl
                try simp only [Act.put, List.setIfInBounds_toArray, List.set_cons_zero, List.set_cons_succ]
                refine wpAnyH_take (i := 9) (oi := { dst := some 82, op := Op.fieldAddr 48 (Operand.tmp 11) 1, type := 0, pos := "ref.go:72", after := #[], guard := none }) (v := ?_) rfl (by kernel_rfl) (by kernel_rfl) (by kernel_rfl) (fun _ _ _ h => h) (Or.inl ⟨by rfl, ?_⟩) hHeld ?_
                rotate_left
                · intro u hSw
                  go_simp
                  try with_reducible rfl
                try simp only [Act.put, List.setIfInBounds_toArray, List.set_cons_zero, List.set_cons_succ]
                refine wpAnyH_take (i := 10) (oi := { dst := some 83, op := Op.load 3 (Operand.tmp 82), type := 3, pos := "ref.go:72", after := #[{ on := 9, ground := Ground.data }], guard := none }) (v := ?_) rfl (by kernel_rfl) (by kernel_rfl) (by kernel_rfl) (fun _ _ _ h => h) (Or.inl ⟨by rfl, ?_⟩) hHeld ?_
                rotate_left
                · intro u hSw
                  have k9 := P1.out u hSw
                  go_simp
                  try with_reducible rfl
                try simp only [Act.put, List.setIfInBounds_toArray, List.set_cons_zero, List.set_cons_succ]
                refine wpAnyH_take (i := 11) (oi := { dst := some 84, op := Op.indexAddr 67 (Operand.tmp 81) (Operand.tmp 83), type := 0, pos := "ref.go:72", after := #[{ on := 8, ground := Ground.data }, { on := 10, ground := Ground.data }], guard := none }) (v := ?_) rfl (by kernel_rfl) (by kernel_rfl) (by kernel_rfl) (fun _ _ _ h => h) (Or.inl ⟨by rfl, ?_⟩) hHeld ?_
                rotate_left
                · intro u hSw
                  go_simp
                  try with_reducible rfl
                try simp only [Act.put, List.setIfInBounds_toArray, List.set_cons_zero, List.set_cons_succ]
                refine wpAnyH_take (i := 12) (oi := { dst := some 85, op := Op.load 31 (Operand.tmp 84), type := 31, pos := "ref.go:72", after := #[{ on := 11, ground := Ground.data }], guard := none }) (v := ?_) rfl (by kernel_rfl) (by kernel_rfl) (by kernel_rfl) (fun _ _ _ h => h) (Or.inl ⟨by rfl, ?_⟩) hHeld ?_
                rotate_left
                · intro u hSw
                  have k9 := PM.out u hSw
                  go_simp
                  try with_reducible rfl
                try simp only [Act.put, List.setIfInBounds_toArray, List.set_cons_zero, List.set_cons_succ]
                refine wpAnyH_take (i := 13) (oi := { dst := some 86, op := Op.move (Operand.tmp 12), type := 3, pos := "ref.go:72", after := #[], guard := none }) (v := ?_) rfl (by kernel_rfl) (by kernel_rfl) (by kernel_rfl) (fun _ _ _ h => h) (Or.inl ⟨by rfl, ?_⟩) hHeld ?_
                rotate_left
                · intro u hSw
                  go_simp
                  try with_reducible rfl
                try simp only [Act.put, List.setIfInBounds_toArray, List.set_cons_zero, List.set_cons_succ]
                refine wpAnyH_take (i := 14) (oi := { dst := some 87, op := Op.indexAddr 31 (Operand.tmp 85) (Operand.tmp 86), type := 0, pos := "ref.go:72", after := #[{ on := 12, ground := Ground.data }, { on := 13, ground := Ground.data }], guard := none }) (v := ?_) rfl (by kernel_rfl) (by kernel_rfl) (by kernel_rfl) (fun _ _ _ h => h) (Or.inl ⟨by rfl, ?_⟩) hHeld ?_
                rotate_left
                · intro u hSw
                  go_simp
                  try with_reducible rfl
                try simp only [Act.put, List.setIfInBounds_toArray, List.set_cons_zero, List.set_cons_succ]
                refine wpAnyH_ready (rs := [15]) (by kernel_rfl) (by simp) ?_
                refine (AllReadyH.cons (o := { dst := some 88, op := Op.load 5 (Operand.tmp 87), type := 5, pos := "ref.go:72", after := #[{ on := 14, ground := Ground.data }], guard := none }) rfl (fun K hK => ?_) AllReadyH.nil)
                have q9 := cellAt (HRX.out.row dq (by assumption)) b _ (vfs_get _ b (by rw [rowF_len]; exact hbh))
                rw [at8_rowF hbh, upTo_at] at q9
                go_simp
                refine hK.out _ _ ?_ (fun hHeld => ?_)
                · exact GX
                clear hK K
                try simp only [Act.put, List.setIfInBounds_toArray, List.set_cons_zero, List.set_cons_succ]
                refine wpAnyH_ready (rs := [16]) (by kernel_rfl) (by simp) ?_
                refine (AllReadyH.cons (o := { dst := some 89, op := Op.call { callee := Callee.value (Operand.func 38), args := #[Operand.tmp 80, Operand.tmp 88], argTypes := #[5, 5] }, type := 5, pos := "ref.go:72", after := #[{ on := 7, ground := Ground.data }, { on := 15, ground := Ground.data }], guard := none }) rfl (fun K hK => ?_) AllReadyH.nil)
                go_simp
                refine (rmul_F c (R9 (dq : Int) b) _).mono ?_
                rintro e w9 ⟨rfl, rfl⟩
                go_wp2_with fail
                refine hK.out _ _ ?_ (fun hHeld => ?_)
                · exact GX
                clear hK K
                try simp only [Act.put, List.setIfInBounds_toArray, List.set_cons_zero, List.set_cons_succ]
                refine wpAnyH_take (i := 17) (oi := { dst := some 90, op := Op.indexAddr 31 (Operand.tmp 77) (Operand.tmp 78), type := 0, pos := "ref.go:72", after := #[{ on := 4, ground := Ground.data }, { on := 5, ground := Ground.data }, { on := 0, ground := Ground.phase }, { on := 1, ground := Ground.phase }, { on := 2, ground := Ground.phase }, { on := 3, ground := Ground.phase }, { on := 4, ground := Ground.phase }, { on := 5, ground := Ground.phase }, { on := 6, ground := Ground.phase }, { on := 7, ground := Ground.phase }, { on := 8, ground := Ground.phase }, { on := 9, ground := Ground.phase }, { on := 10, ground := Ground.phase }, { on := 11, ground := Ground.phase }, { on := 12, ground := Ground.phase }, { on := 13, ground := Ground.phase }, { on := 14, ground := Ground.phase }, { on := 15, ground := Ground.phase }, { on := 16, ground := Ground.phase }], guard := none }) (v := ?_) rfl (by kernel_rfl) (by kernel_rfl) (by kernel_rfl) (fun _ _ _ h => h) (Or.inl ⟨by rfl, ?_⟩) hHeld ?_
                rotate_left
                · intro u hSw
                  go_simp
                  try with_reducible rfl
                try simp only [Act.put, List.setIfInBounds_toArray, List.set_cons_zero, List.set_cons_succ]
                refine wpAnyH_ready (rs := [18]) (by kernel_rfl) (by simp) ?_
                refine (AllReadyH.cons (o := { dst := none, op := Op.store 5 (Operand.tmp 90) (Operand.tmp 89), type := 0, pos := "ref.go:72", after := #[{ on := 17, ground := Ground.data }, { on := 16, ground := Ground.data }, { on := 16, ground := Ground.chain }, { on := 0, ground := Ground.phase }, { on := 1, ground := Ground.phase }, { on := 2, ground := Ground.phase }, { on := 3, ground := Ground.phase }, { on := 4, ground := Ground.phase }, { on := 5, ground := Ground.phase }, { on := 6, ground := Ground.phase }, { on := 7, ground := Ground.phase }, { on := 8, ground := Ground.phase }, { on := 9, ground := Ground.phase }, { on := 10, ground := Ground.phase }, { on := 11, ground := Ground.phase }, { on := 12, ground := Ground.phase }, { on := 13, ground := Ground.phase }, { on := 14, ground := Ground.phase }, { on := 15, ground := Ground.phase }, { on := 16, ground := Ground.phase }], guard := none }) rfl (fun K hK => ?_) AllReadyH.nil)
                have q0 := cellAt (HRX.out.row dq (by assumption)) b _ (vfs_get _ b (by rw [rowF_len]; exact hbh))
                have q1 : X.frozen? ⟨F0 + dq, b, none⟩ = false := frozen_of_row _ _ _ _ _ (HRX.out.row dq (by assumption))
                go_simp
                refine hK.out _ _ ?_ (fun hHeld => ?_)
                · exact grownBy_setCell GX _
                clear hK K
                try simp only [Act.put, List.setIfInBounds_toArray, List.set_cons_zero, List.set_cons_succ]
                refine wpAnyH_done (by kernel_rfl) ?_ _
                refine NoPanic.normal ?_
                obtain ⟨Z, hZ⟩ : ∃ Z, Z = X.setCell ⟨F0 + dq, b, none⟩ (.int .u8 ((gm c (R9 (dq : Int) b)).toNat : Int)) := ⟨_, rfl⟩
                have HZR : Hid (RunW w.heap.size Z M F0 Q k ol h g (upTo (inX L) ⟨3, (dq : Int), src, c⟩ R9 (b + 1)) O9) := by
                  show RunW ..
                  rw [hZ, upTo_next (k := dq) (x := gm c (R9 (dq : Int) b)) rfl (fun h => absurd (show (3 : Int) = 5 from h) (by decide)) (by rw [doR_3 rfl]; exact congrFun setR_same b)]
                  exact HRX.out.poke (by assumption) hbh _
                have HZB : Hid (Below w.heap.size w Z) := by show Below ..; rw [hZ]; exact HBX.out.setCell (p := ⟨F0 + dq, b, none⟩) (by show w.heap.size ≤ F0 + dq; have := HMB.out; omega) _
                have HZS : Hid (Z.heap[wo.heap.size]? = some (.cells #[.int .i64 3, .int .i64 (dq : Int), .int .i64 src, .int .u8 (c.toNat : Int)] 48 (0, 0))) := by show _ = _; rw [hZ]; exact (heap_setCell_other _ _ _ _ (HSN.out dq hdq)).trans HSX.out
                rw [← hZ]
                clear hZ
                go_wp2
                exact ⟨⟨b + 1, by omega, by go_num, HZB.out, HZR.out, HZS.out⟩, by simp [intOf]; omega⟩
              · obtain ⟨dq, rfl⟩ := Int.eq_ofNat_of_zero_le hd0
                obtain ⟨sq, rfl⟩ := Int.eq_ofNat_of_zero_le hs0
                have hdq : dq < k := by omega
                have hsq : sq < k := by omega
                clear hd0 hd1 hs0 hs1
                go_wp2
                have P1 : Hid (∀ u, wr.grownBy u (some (F0 + dq)) → u.cell? ⟨wo.heap.size, 1, none⟩ = some (.int .i64 (dq : Int))) := fun u hu => cellAt ((hu.block _ (ltHeap HS.out) (fun e => HSN.out dq hdq (Option.some.inj e))).trans HS.out) 1 _ rfl
                have P2 : Hid (∀ u, wr.grownBy u (some (F0 + dq)) → u.cell? ⟨wo.heap.size, 2, none⟩ = some (.int .i64 (sq : Int))) := fun u hu => cellAt ((hu.block _ (ltHeap HS.out) (fun e => HSN.out dq hdq (Option.some.inj e))).trans HS.out) 2 _ rfl
                have P3 : Hid (∀ u, wr.grownBy u (some (F0 + dq)) → u.cell? ⟨wo.heap.size, 3, none⟩ = some (.int .u8 (c.toNat : Int))) := fun u hu => cellAt ((hu.block _ (ltHeap HS.out) (fun e => HSN.out dq hdq (Option.some.inj e))).trans HS.out) 3 _ rfl
                have PM : Hid (∀ u, wr.grownBy u (some (F0 + dq)) → u.cell? ⟨M, dq, none⟩ = some (.slice (some ⟨F0 + dq, 0, none⟩) h h)) := fun u hu => cellAt ((hu.block _ (ltHeap HR.out.regs) (fun e => by have := Option.some.inj e; have := HR.out.hMF; omega)).trans HR.out.regs) dq _ (slF_at (by assumption))
                have PQ : Hid (∀ u, wr.grownBy u (some (F0 + dq)) → u.cell? ⟨M, sq, none⟩ = some (.slice (some ⟨F0 + sq, 0, none⟩) h h)) := fun u hu => cellAt ((hu.block _ (ltHeap HR.out.regs) (fun e => by have := Option.some.inj e; have := HR.out.hMF; omega)).trans HR.out.regs) sq _ (slF_at (by assumption))
                refine wp_region_noPanic ?_
                refine wp_region_held_drew (S := fun u => wr.grownBy u (some (F0 + dq))) (by kernel_rfl) ?_ (fun hHeld => ?_)
                · exact grownBy_drew (World.grownBy.refl _ _)
                obtain ⟨X, hX⟩ : ∃ X, X = wr.drew := ⟨_, rfl⟩
                have GX : wr.grownBy X (some (F0 + dq)) := by rw [hX]; exact grownBy_drew (World.grownBy.refl _ _)
                have HRX : Hid (RunW w.heap.size X M F0 Q k ol h g (upTo (inX L) ⟨4, (dq : Int), (sq : Int), c⟩ R9 b) O9) := by show RunW ..; rw [hX]; exact HR.out.drew
                have HBX : Hid (Below w.heap.size w X) := by show Below ..; rw [hX]; exact HB.out.drew
                have HSX : Hid (X.heap[wo.heap.size]? = some (.cells #[.int .i64 4, .int .i64 (dq : Int), .int .i64 (sq : Int), .int .u8 (c.toNat : Int)] 48 (0, 0))) := by show _ = _; rw [hX]; exact HS.out
                rw [← hX] at hHeld ⊢
                clear hX
                refine wpAnyH_take (i := 0) (oi := { dst := some 93, op := Op.move (Operand.tmp 7), type := 67, pos := "ref.go:74", after := #[], guard := none }) (v := ?_) rfl (by kernel_rfl) (by kernel_rfl) (by kernel_rfl) (fun _ _ _ h => h) (Or.inl ⟨by rfl, ?_⟩) hHeld ?_
                rotate_left
                · intro u hSw
                  go_simp
                  try with_reducible rfl
                try simp only [Act.put, List.setIfInBounds_toArray, List.set_cons_zero, List.set_cons_succ]
                refine wpAnyH_take (i := 1) (oi := { dst := some 94, op := Op.fieldAddr 48 (Operand.tmp 11) 1, type := 0, pos := "ref.go:74", after := #[], guard := none }) (v := ?_) rfl (by kernel_rfl) (by kernel_rfl) (by kernel_rfl) (fun _ _ _ h => h) (Or.inl ⟨by rfl, ?_⟩) hHeld ?_
                rotate_left
                · intro u hSw
                  go_simp
                  try with_reducible rfl
                try simp only [Act.put, List.setIfInBounds_toArray, List.set_cons_zero, List.set_cons_succ]
                refine wpAnyH_take (i := 2) (oi := { dst := some 95, op := Op.load 3 (Operand.tmp 94), type := 3, pos := "ref.go:74", after := #[{ on := 1, ground := Ground.data }], guard := none }) (v := ?_) rfl (by kernel_rfl) (by kernel_rfl) (by kernel_rfl) (fun _ _ _ h => h) (Or.inl ⟨by rfl, ?_⟩) hHeld ?_
                rotate_left
                · intro u hSw
                  have k9 := P1.out u hSw
                  go_simp
                  try with_reducible rfl
                try simp only [Act.put, List.setIfInBounds_toArray, List.set_cons_zero, List.set_cons_succ]
                refine wpAnyH_take (i := 3) (oi := { dst := some 96, op := Op.indexAddr 67 (Operand.tmp 93) (Operand.tmp 95), type := 0, pos := "ref.go:74", after := #[{ on := 0, ground := Ground.data }, { on := 2, ground := Ground.data }], guard := none }) (v := ?_) rfl (by kernel_rfl) (by kernel_rfl) (by kernel_rfl) (fun _ _ _ h => h) (Or.inl ⟨by rfl, ?_⟩) hHeld ?_
                rotate_left
                · intro u hSw
                  go_simp
                  try with_reducible rfl
                try simp only [Act.put, List.setIfInBounds_toArray, List.set_cons_zero, List.set_cons_succ]
                refine wpAnyH_take (i := 4) (oi := { dst := some 97, op := Op.load 31 (Operand.tmp 96), type := 31, pos := "ref.go:74", after := #[{ on := 3, ground := Ground.data }], guard := none }) (v := ?_) rfl (by kernel_rfl) (by kernel_rfl) (by kernel_rfl) (fun _ _ _ h => h) (Or.inl ⟨by rfl, ?_⟩) hHeld ?_
                rotate_left
                · intro u hSw
                  have k9 := PM.out u hSw
                  go_simp
                  try with_reducible rfl
                try simp only [Act.put, List.setIfInBounds_toArray, List.set_cons_zero, List.set_cons_succ]
                refine wpAnyH_take (i := 5) (oi := { dst := some 98, op := Op.move (Operand.tmp 12), type := 3, pos := "ref.go:74", after := #[], guard := none }) (v := ?_) rfl (by kernel_rfl) (by kernel_rfl) (by kernel_rfl) (fun _ _ _ h => h) (Or.inl ⟨by rfl, ?_⟩) hHeld ?_
                rotate_left
                · intro u hSw
                  go_simp
                  try with_reducible rfl
                try simp only [Act.put, List.setIfInBounds_toArray, List.set_cons_zero, List.set_cons_succ]
                refine wpAnyH_take (i := 6) (oi := { dst := some 99, op := Op.indexAddr 31 (Operand.tmp 97) (Operand.tmp 98), type := 0, pos := "ref.go:74", after := #[{ on := 4, ground := Ground.data }, { on := 5, ground := Ground.data }], guard := none }) (v := ?_) rfl (by kernel_rfl) (by kernel_rfl) (by kernel_rfl) (fun _ _ _ h => h) (Or.inl ⟨by rfl, ?_⟩) hHeld ?_
                rotate_left
                · intro u hSw
                  go_simp
                  try with_reducible rfl
                try simp only [Act.put, List.setIfInBounds_toArray, List.set_cons_zero, List.set_cons_succ]
                refine wpAnyH_take (i := 8) (oi := { dst := some 101, op := Op.fieldAddr 48 (Operand.tmp 11) 3, type := 0, pos := "ref.go:74", after := #[], guard := none }) (v := ?_) rfl (by kernel_rfl) (by kernel_rfl) (by kernel_rfl) (fun _ _ _ h => h) (Or.inl ⟨by rfl, ?_⟩) hHeld ?_
                rotate_left
                · intro u hSw
                  go_simp
                  try with_reducible rfl
                try simp only [Act.put, List.setIfInBounds_toArray, List.set_cons_zero, List.set_cons_succ]
                refine wpAnyH_take (i := 9) (oi := { dst := some 102, op := Op.load 5 (Operand.tmp 101), type := 5, pos := "ref.go:74", after := #[{ on := 8, ground := Ground.data }], guard := none }) (v := ?_) rfl (by kernel_rfl) (by kernel_rfl) (by kernel_rfl) (fun _ _ _ h => h) (Or.inl ⟨by rfl, ?_⟩) hHeld ?_
                rotate_left
                · intro u hSw
                  have k9 := P3.out u hSw
                  go_simp
                  try with_reducible rfl
                try simp only [Act.put, List.setIfInBounds_toArray, List.set_cons_zero, List.set_cons_succ]
                refine wpAnyH_take (i := 10) (oi := { dst := some 103, op := Op.move (Operand.tmp 7), type := 67, pos := "ref.go:74", after := #[], guard := none }) (v := ?_) rfl (by kernel_rfl) (by kernel_rfl) (by kernel_rfl) (fun _ _ _ h => h) (Or.inl ⟨by rfl, ?_⟩) hHeld ?_
                rotate_left
                · intro u hSw
                  go_simp
                  try with_reducible rfl
                try simp only [Act.put, List.setIfInBounds_toArray, List.set_cons_zero, List.set_cons_succ]
                refine wpAnyH_take (i := 11) (oi := { dst := some 104, op := Op.fieldAddr 48 (Operand.tmp 11) 2, type := 0, pos := "ref.go:74", after := #[], guard := none }) (v := ?_) rfl (by kernel_rfl) (by kernel_rfl) (by kernel_rfl) (fun _ _ _ h => h) (Or.inl ⟨by rfl, ?_⟩) hHeld ?_
                rotate_left
                · intro u hSw
                  go_simp
                  try with_reducible rfl
                try simp only [Act.put, List.setIfInBounds_toArray, List.set_cons_zero, List.set_cons_succ]
                refine wpAnyH_take (i := 12) (oi := { dst := some 105, op := Op.load 3 (Operand.tmp 104), type := 3, pos := "ref.go:74", after := #[{ on := 11, ground := Ground.data }], guard := none }) (v := ?_) rfl (by kernel_rfl) (by kernel_rfl) (by kernel_rfl) (fun _ _ _ h => h) (Or.inl ⟨by rfl, ?_⟩) hHeld ?_
                rotate_left
                · intro u hSw
                  have k9 := P2.out u hSw
                  go_simp
                  try with_reducible rfl
                try simp only [Act.put, List.setIfInBounds_toArray, List.set_cons_zero, List.set_cons_succ]
                refine wpAnyH_take (i := 13) (oi := { dst := some 106, op := Op.indexAddr 67 (Operand.tmp 103) (Operand.tmp 105), type := 0, pos := "ref.go:74", after := #[{ on := 10, ground := Ground.data }, { on := 12, ground := Ground.data }], guard := none }) (v := ?_) rfl (by kernel_rfl) (by kernel_rfl) (by kernel_rfl) (fun _ _ _ h => h) (Or.inl ⟨by rfl, ?_⟩) hHeld ?_
                rotate_left
                · intro u hSw
                  go_simp
                  try with_reducible rfl
                try simp only [Act.put, List.setIfInBounds_toArray, List.set_cons_zero, List.set_cons_succ]
                refine wpAnyH_take (i := 14) (oi := { dst := some 107, op := Op.load 31 (Operand.tmp 106), type := 31, pos := "ref.go:74", after := #[{ on := 13, ground := Ground.data }], guard := none }) (v := ?_) rfl (by kernel_rfl) (by kernel_rfl) (by kernel_rfl) (fun _ _ _ h => h) (Or.inl ⟨by rfl, ?_⟩) hHeld ?_
                rotate_left
                · intro u hSw
                  have k9 := PQ.out u hSw
                  go_simp
                  try with_reducible rfl
                try simp only [Act.put, List.setIfInBounds_toArray, List.set_cons_zero, List.set_cons_succ]
                refine wpAnyH_take (i := 15) (oi := { dst := some 108, op := Op.move (Operand.tmp 12), type := 3, pos := "ref.go:74", after := #[], guard := none }) (v := ?_) rfl (by kernel_rfl) (by kernel_rfl) (by kernel_rfl) (fun _ _ _ h => h) (Or.inl ⟨by rfl, ?_⟩) hHeld ?_
                rotate_left
                · intro u hSw
                  go_simp
                  try with_reducible rfl
                try simp only [Act.put, List.setIfInBounds_toArray, List.set_cons_zero, List.set_cons_succ]
                refine wpAnyH_take (i := 16) (oi := { dst := some 109, op := Op.indexAddr 31 (Operand.tmp 107) (Operand.tmp 108), type := 0, pos := "ref.go:74", after := #[{ on := 14, ground := Ground.data }, { on := 15, ground := Ground.data }], guard := none }) (v := ?_) rfl (by kernel_rfl) (by kernel_rfl) (by kernel_rfl) (fun _ _ _ h => h) (Or.inl ⟨by rfl, ?_⟩) hHeld ?_
                rotate_left
                · intro u hSw
                  go_simp
                  try with_reducible rfl
                try simp only [Act.put, List.setIfInBounds_toArray, List.set_cons_zero, List.set_cons_succ]
                refine wpAnyH_ready (rs := [7, 17]) (by kernel_rfl) (by simp) ?_
                refine (AllReadyH.cons (o := { dst := some 100, op := Op.load 5 (Operand.tmp 99), type := 5, pos := "ref.go:74", after := #[{ on := 6, ground := Ground.data }], guard := none }) rfl (fun K hK => ?_) (AllReadyH.cons (o := { dst := some 110, op := Op.load 5 (Operand.tmp 109), type := 5, pos := "ref.go:74", after := #[{ on := 16, ground := Ground.data }], guard := none }) rfl (fun K hK => ?_) AllReadyH.nil))
                · have q9 := cellAt (HRX.out.row dq (by assumption)) b _ (vfs_get _ b (by rw [rowF_len]; exact hbh))
                  rw [at8_rowF hbh, upTo_at] at q9
                  go_simp
                  refine hK.out _ _ ?_ (fun hHeld => ?_)
                  · exact GX
                  clear hK K
                  try simp only [Act.put, List.setIfInBounds_toArray, List.set_cons_zero, List.set_cons_succ]
                  refine wpAnyH_ready (rs := [17]) (by kernel_rfl) (by simp) ?_
                  refine (AllReadyH.cons (o := { dst := some 110, op := Op.load 5 (Operand.tmp 109), type := 5, pos := "ref.go:74", after := #[{ on := 16, ground := Ground.data }], guard := none }) rfl (fun K hK => ?_) AllReadyH.nil)
                  have q8 := cellAt (HRX.out.row sq (by assumption)) b _ (vfs_get _ b (by rw [rowF_len]; exact hbh))
                  rw [at8_rowF hbh, upTo_at] at q8
                  go_simp
                  refine hK.out _ _ ?_ (fun hHeld => ?_)
                  · exact GX
                  clear hK K
                  try simp only [Act.put, List.setIfInBounds_toArray, List.set_cons_zero, List.set_cons_succ]
                  refine wpAnyH_ready (rs := [18]) (by kernel_rfl) (by simp) ?_
                  refine (AllReadyH.cons (o := { dst := some 111, op := Op.call { callee := Callee.value (Operand.func 38), args := #[Operand.tmp 102, Operand.tmp 110], argTypes := #[5, 5] }, type := 5, pos := "ref.go:74", after := #[{ on := 9, ground := Ground.data }, { on := 17, ground := Ground.data }], guard := none }) rfl (fun K hK => ?_) AllReadyH.nil)
                  go_simp
                  refine (rmul_F c (R9 (sq : Int) b) _).mono ?_
                  rintro e w9 ⟨rfl, rfl⟩
                  go_wp2_with fail
                  refine hK.out _ _ ?_ (fun hHeld => ?_)
                  · exact GX
                  clear hK K
                  try simp only [Act.put, List.setIfInBounds_toArray, List.set_cons_zero, List.set_cons_succ]
                  refine wpAnyH_take (i := 19) (oi := { dst := some 112, op := Op.binOp BinOp.xor 5 (Operand.tmp 100) (Operand.tmp 111) 5, type := 5, pos := "ref.go:74", after := #[{ on := 7, ground := Ground.data }, { on := 18, ground := Ground.data }], guard := none }) (v := ?_) rfl (by kernel_rfl) (by kernel_rfl) (by kernel_rfl) (fun _ _ _ h => h) (Or.inl ⟨by rfl, ?_⟩) hHeld ?_
                  rotate_left
                  · intro u hSw
                    go_simp
                    try with_reducible rfl
                  try simp only [Act.put, List.setIfInBounds_toArray, List.set_cons_zero, List.set_cons_succ]
                  refine wpAnyH_take (i := 20) (oi := { dst := some 113, op := Op.indexAddr 31 (Operand.tmp 97) (Operand.tmp 98), type := 0, pos := "ref.go:74", after := #[{ on := 4, ground := Ground.data }, { on := 5, ground := Ground.data }, { on := 0, ground := Ground.phase }, { on := 1, ground := Ground.phase }, { on := 2, ground := Ground.phase }, { on := 3, ground := Ground.phase }, { on := 4, ground := Ground.phase }, { on := 5, ground := Ground.phase }, { on := 6, ground := Ground.phase }, { on := 7, ground := Ground.phase }, { on := 8, ground := Ground.phase }, { on := 9, ground := Ground.phase }, { on := 10, ground := Ground.phase }, { on := 11, ground := Ground.phase }, { on := 12, ground := Ground.phase }, { on := 13, ground := Ground.phase }, { on := 14, ground := Ground.phase }, { on := 15, ground := Ground.phase }, { on := 16, ground := Ground.phase }, { on := 17, ground := Ground.phase }, { on := 18, ground := Ground.phase }, { on := 19, ground := Ground.phase }], guard := none }) (v := ?_) rfl (by kernel_rfl) (by kernel_rfl) (by kernel_rfl) (fun _ _ _ h => h) (Or.inl ⟨by rfl, ?_⟩) hHeld ?_
                  rotate_left
                  · intro u hSw
                    go_simp
                    try with_reducible rfl
                  try simp only [Act.put, List.setIfInBounds_toArray, List.set_cons_zero, List.set_cons_succ]
                  refine wpAnyH_ready (rs := [21]) (by kernel_rfl) (by simp) ?_
                  refine (AllReadyH.cons (o := { dst := none, op := Op.store 5 (Operand.tmp 113) (Operand.tmp 112), type := 0, pos := "ref.go:74", after := #[{ on := 20, ground := Ground.data }, { on := 19, ground := Ground.data }, { on := 18, ground := Ground.chain }, { on := 0, ground := Ground.phase }, { on := 1, ground := Ground.phase }, { on := 2, ground := Ground.phase }, { on := 3, ground := Ground.phase }, { on := 4, ground := Ground.phase }, { on := 5, ground := Ground.phase }, { on := 6, ground := Ground.phase }, { on := 7, ground := Ground.phase }, { on := 8, ground := Ground.phase }, { on := 9, ground := Ground.phase }, { on := 10, ground := Ground.phase }, { on := 11, ground := Ground.phase }, { on := 12, ground := Ground.phase }, { on := 13, ground := Ground.phase }, { on := 14, ground := Ground.phase }, { on := 15, ground := Ground.phase }, { on := 16, ground := Ground.phase }, { on := 17, ground := Ground.phase }, { on := 18, ground := Ground.phase }, { on := 19, ground := Ground.phase }], guard := none }) rfl (fun K hK => ?_) AllReadyH.nil)
                  have q0 := cellAt (HRX.out.row dq (by assumption)) b _ (vfs_get _ b (by rw [rowF_len]; exact hbh))
                  have q1 : X.frozen? ⟨F0 + dq, b, none⟩ = false := frozen_of_row _ _ _ _ _ (HRX.out.row dq (by assumption))
                  go_simp
                  refine hK.out _ _ ?_ (fun hHeld => ?_)
                  · exact grownBy_setCell GX _
                  clear hK K
                  try simp only [Act.put, List.setIfInBounds_toArray, List.set_cons_zero, List.set_cons_succ]
                  refine wpAnyH_done (by kernel_rfl) ?_ _
                  refine NoPanic.normal ?_
                  obtain ⟨Z, hZ⟩ : ∃ Z, Z = X.setCell ⟨F0 + dq, b, none⟩ (.int .u8 ((ga (R9 (dq : Int) b) (gm c (R9 (sq : Int) b))).toNat : Int)) := ⟨_, rfl⟩
                  have HZR : Hid (RunW w.heap.size Z M F0 Q k ol h g (upTo (inX L) ⟨4, (dq : Int), (sq : Int), c⟩ R9 (b + 1)) O9) := by
                    show RunW ..
                    rw [hZ, upTo_next (k := dq) (x := ga (R9 (dq : Int) b) (gm c (R9 (sq : Int) b))) rfl (fun h => absurd (show (4 : Int) = 5 from h) (by decide)) (by rw [doR_4 rfl]; exact congrFun setR_same b)]
                    exact HRX.out.poke (by assumption) hbh _
                  have HZB : Hid (Below w.heap.size w Z) := by show Below ..; rw [hZ]; exact HBX.out.setCell (p := ⟨F0 + dq, b, none⟩) (by show w.heap.size ≤ F0 + dq; have := HMB.out; omega) _
                  have HZS : Hid (Z.heap[wo.heap.size]? = some (.cells #[.int .i64 4, .int .i64 (dq : Int), .int .i64 (sq : Int), .int .u8 (c.toNat : Int)] 48 (0, 0))) := by show _ = _; rw [hZ]; exact (heap_setCell_other _ _ _ _ (HSN.out dq hdq)).trans HSX.out
                  rw [xor_val, ← hZ]
                  clear hZ
                  go_wp2
                  exact ⟨⟨b + 1, by omega, by go_num, HZB.out, HZR.out, HZS.out⟩, by simp [intOf]; omega⟩
                · have q8 := cellAt (HRX.out.row sq (by assumption)) b _ (vfs_get _ b (by rw [rowF_len]; exact hbh))
                  rw [at8_rowF hbh, upTo_at] at q8
                  go_simp
                  refine hK.out _ _ ?_ (fun hHeld => ?_)
                  · exact GX
                  clear hK K
                  try simp only [Act.put, List.setIfInBounds_toArray, List.set_cons_zero, List.set_cons_succ]
                  refine wpAnyH_ready (rs := [7, 18]) (by kernel_rfl) (by simp) ?_
                  refine (AllReadyH.cons (o := { dst := some 100, op := Op.load 5 (Operand.tmp 99), type := 5, pos := "ref.go:74", after := #[{ on := 6, ground := Ground.data }], guard := none }) rfl (fun K hK => ?_) (AllReadyH.cons (o := { dst := some 111, op := Op.call { callee := Callee.value (Operand.func 38), args := #[Operand.tmp 102, Operand.tmp 110], argTypes := #[5, 5] }, type := 5, pos := "ref.go:74", after := #[{ on := 9, ground := Ground.data }, { on := 17, ground := Ground.data }], guard := none }) rfl (fun K hK => ?_) AllReadyH.nil))
                  · have q9 := cellAt (HRX.out.row dq (by assumption)) b _ (vfs_get _ b (by rw [rowF_len]; exact hbh))
                    rw [at8_rowF hbh, upTo_at] at q9
                    go_simp
                    refine hK.out _ _ ?_ (fun hHeld => ?_)
                    · exact GX
                    clear hK K
                    try simp only [Act.put, List.setIfInBounds_toArray, List.set_cons_zero, List.set_cons_succ]
                    refine wpAnyH_ready (rs := [18]) (by kernel_rfl) (by simp) ?_
                    refine (AllReadyH.cons (o := { dst := some 111, op := Op.call { callee := Callee.value (Operand.func 38), args := #[Operand.tmp 102, Operand.tmp 110], argTypes := #[5, 5] }, type := 5, pos := "ref.go:74", after := #[{ on := 9, ground := Ground.data }, { on := 17, ground := Ground.data }], guard := none }) rfl (fun K hK => ?_) AllReadyH.nil)
                    go_simp
                    refine (rmul_F c (R9 (sq : Int) b) _).mono ?_
                    rintro e w9 ⟨rfl, rfl⟩
                    go_wp2_with fail
                    refine hK.out _ _ ?_ (fun hHeld => ?_)
                    · exact GX
                    clear hK K
                    try simp only [Act.put, List.setIfInBounds_toArray, List.set_cons_zero, List.set_cons_succ]
                    refine wpAnyH_take (i := 19) (oi := { dst := some 112, op := Op.binOp BinOp.xor 5 (Operand.tmp 100) (Operand.tmp 111) 5, type := 5, pos := "ref.go:74", after := #[{ on := 7, ground := Ground.data }, { on := 18, ground := Ground.data }], guard := none }) (v := ?_) rfl (by kernel_rfl) (by kernel_rfl) (by kernel_rfl) (fun _ _ _ h => h) (Or.inl ⟨by rfl, ?_⟩) hHeld ?_
                    rotate_left
                    · intro u hSw
                      go_simp
                      try with_reducible rfl
                    try simp only [Act.put, List.setIfInBounds_toArray, List.set_cons_zero, List.set_cons_succ]
                    refine wpAnyH_take (i := 20) (oi := { dst := some 113, op := Op.indexAddr 31 (Operand.tmp 97) (Operand.tmp 98), type := 0, pos := "ref.go:74", after := #[{ on := 4, ground := Ground.data }, { on := 5, ground := Ground.data }, { on := 0, ground := Ground.phase }, { on := 1, ground := Ground.phase }, { on := 2, ground := Ground.phase }, { on := 3, ground := Ground.phase }, { on := 4, ground := Ground.phase }, { on := 5, ground := Ground.phase }, { on := 6, ground := Ground.phase }, { on := 7, ground := Ground.phase }, { on := 8, ground := Ground.phase }, { on := 9, ground := Ground.phase }, { on := 10, ground := Ground.phase }, { on := 11, ground := Ground.phase }, { on := 12, ground := Ground.phase }, { on := 13, ground := Ground.phase }, { on := 14, ground := Ground.phase }, { on := 15, ground := Ground.phase }, { on := 16, ground := Ground.phase }, { on := 17, ground := Ground.phase }, { on := 18, ground := Ground.phase }, { on := 19, ground := Ground.phase }], guard := none }) (v := ?_) rfl (by kernel_rfl) (by kernel_rfl) (by kernel_rfl) (fun _ _ _ h => h) (Or.inl ⟨by rfl, ?_⟩) hHeld ?_
                    rotate_left
                    · intro u hSw
                      go_simp
                      try with_reducible rfl
                    try simp only [Act.put, List.setIfInBounds_toArray, List.set_cons_zero, List.set_cons_succ]
                    refine wpAnyH_ready (rs := [21]) (by kernel_rfl) (by simp) ?_
                    refine (AllReadyH.cons (o := { dst := none, op := Op.store 5 (Operand.tmp 113) (Operand.tmp 112), type := 0, pos := "ref.go:74", after := #[{ on := 20, ground := Ground.data }, { on := 19, ground := Ground.data }, { on := 18, ground := Ground.chain }, { on := 0, ground := Ground.phase }, { on := 1, ground := Ground.phase }, { on := 2, ground := Ground.phase }, { on := 3, ground := Ground.phase }, { on := 4, ground := Ground.phase }, { on := 5, ground := Ground.phase }, { on := 6, ground := Ground.phase }, { on := 7, ground := Ground.phase }, { on := 8, ground := Ground.phase }, { on := 9, ground := Ground.phase }, { on := 10, ground := Ground.phase }, { on := 11, ground := Ground.phase }, { on := 12, ground := Ground.phase }, { on := 13, ground := Ground.phase }, { on := 14, ground := Ground.phase }, { on := 15, ground := Ground.phase }, { on := 16, ground := Ground.phase }, { on := 17, ground := Ground.phase }, { on := 18, ground := Ground.phase }, { on := 19, ground := Ground.phase }], guard := none }) rfl (fun K hK => ?_) AllReadyH.nil)
                    have q0 := cellAt (HRX.out.row dq (by assumption)) b _ (vfs_get _ b (by rw [rowF_len]; exact hbh))
                    have q1 : X.frozen? ⟨F0 + dq, b, none⟩ = false := frozen_of_row _ _ _ _ _ (HRX.out.row dq (by assumption))
                    go_simp
                    refine hK.out _ _ ?_ (fun hHeld => ?_)
                    · exact grownBy_setCell GX _
                    clear hK K
                    try simp only [Act.put, List.setIfInBounds_toArray, List.set_cons_zero, List.set_cons_succ]
                    refine wpAnyH_done (by kernel_rfl) ?_ _
                    refine NoPanic.normal ?_
                    obtain ⟨Z, hZ⟩ : ∃ Z, Z = X.setCell ⟨F0 + dq, b, none⟩ (.int .u8 ((ga (R9 (dq : Int) b) (gm c (R9 (sq : Int) b))).toNat : Int)) := ⟨_, rfl⟩
                    have HZR : Hid (RunW w.heap.size Z M F0 Q k ol h g (upTo (inX L) ⟨4, (dq : Int), (sq : Int), c⟩ R9 (b + 1)) O9) := by
                      show RunW ..
                      rw [hZ, upTo_next (k := dq) (x := ga (R9 (dq : Int) b) (gm c (R9 (sq : Int) b))) rfl (fun h => absurd (show (4 : Int) = 5 from h) (by decide)) (by rw [doR_4 rfl]; exact congrFun setR_same b)]
                      exact HRX.out.poke (by assumption) hbh _
                    have HZB : Hid (Below w.heap.size w Z) := by show Below ..; rw [hZ]; exact HBX.out.setCell (p := ⟨F0 + dq, b, none⟩) (by show w.heap.size ≤ F0 + dq; have := HMB.out; omega) _
                    have HZS : Hid (Z.heap[wo.heap.size]? = some (.cells #[.int .i64 4, .int .i64 (dq : Int), .int .i64 (sq : Int), .int .u8 (c.toNat : Int)] 48 (0, 0))) := by show _ = _; rw [hZ]; exact (heap_setCell_other _ _ _ _ (HSN.out dq hdq)).trans HSX.out
                    rw [xor_val, ← hZ]
                    clear hZ
                    go_wp2
                    exact ⟨⟨b + 1, by omega, by go_num, HZB.out, HZR.out, HZS.out⟩, by simp [intOf]; omega⟩
                  · go_simp
                    refine (rmul_F c (R9 (sq : Int) b) _).mono ?_
                    rintro e w9 ⟨rfl, rfl⟩
                    go_wp2_with fail
                    refine hK.out _ _ ?_ (fun hHeld => ?_)
                    · exact GX
                    clear hK K
                    try simp only [Act.put, List.setIfInBounds_toArray, List.set_cons_zero, List.set_cons_succ]
                    refine wpAnyH_ready (rs := [7]) (by kernel_rfl) (by simp) ?_
                    refine (AllReadyH.cons (o := { dst := some 100, op := Op.load 5 (Operand.tmp 99), type := 5, pos := "ref.go:74", after := #[{ on := 6, ground := Ground.data }], guard := none }) rfl (fun K hK => ?_) AllReadyH.nil)
                    have q9 := cellAt (HRX.out.row dq (by assumption)) b _ (vfs_get _ b (by rw [rowF_len]; exact hbh))
                    rw [at8_rowF hbh, upTo_at] at q9
                    go_simp
                    refine hK.out _ _ ?_ (fun hHeld => ?_)
                    · exact GX
                    clear hK K
                    try simp only [Act.put, List.setIfInBounds_toArray, List.set_cons_zero, List.set_cons_succ]
                    refine wpAnyH_take (i := 19) (oi := { dst := some 112, op := Op.binOp BinOp.xor 5 (Operand.tmp 100) (Operand.tmp 111) 5, type := 5, pos := "ref.go:74", after := #[{ on := 7, ground := Ground.data }, { on := 18, ground := Ground.data }], guard := none }) (v := ?_) rfl (by kernel_rfl) (by kernel_rfl) (by kernel_rfl) (fun _ _ _ h => h) (Or.inl ⟨by rfl, ?_⟩) hHeld ?_
                    rotate_left
                    · intro u hSw
                      go_simp
                      try with_reducible rfl
                    try simp only [Act.put, List.setIfInBounds_toArray, List.set_cons_zero, List.set_cons_succ]
                    refine wpAnyH_take (i := 20) (oi := { dst := some 113, op := Op.indexAddr 31 (Operand.tmp 97) (Operand.tmp 98), type := 0, pos := "ref.go:74", after := #[{ on := 4, ground := Ground.data }, { on := 5, ground := Ground.data }, { on := 0, ground := Ground.phase }, { on := 1, ground := Ground.phase }, { on := 2, ground := Ground.phase }, { on := 3, ground := Ground.phase }, { on := 4, ground := Ground.phase }, { on := 5, ground := Ground.phase }, { on := 6, ground := Ground.phase }, { on := 7, ground := Ground.phase }, { on := 8, ground := Ground.phase }, { on := 9, ground := Ground.phase }, { on := 10, ground := Ground.phase }, { on := 11, ground := Ground.phase }, { on := 12, ground := Ground.phase }, { on := 13, ground := Ground.phase }, { on := 14, ground := Ground.phase }, { on := 15, ground := Ground.phase }, { on := 16, ground := Ground.phase }, { on := 17, ground := Ground.phase }, { on := 18, ground := Ground.phase }, { on := 19, ground := Ground.phase }], guard := none }) (v := ?_) rfl (by kernel_rfl) (by kernel_rfl) (by kernel_rfl) (fun _ _ _ h => h) (Or.inl ⟨by rfl, ?_⟩) hHeld ?_
                    rotate_left
                    · intro u hSw
                      go_simp
                      try with_reducible rfl
                    try simp only [Act.put, List.setIfInBounds_toArray, List.set_cons_zero, List.set_cons_succ]
                    refine wpAnyH_ready (rs := [21]) (by kernel_rfl) (by simp) ?_
                    refine (AllReadyH.cons (o := { dst := none, op := Op.store 5 (Operand.tmp 113) (Operand.tmp 112), type := 0, pos := "ref.go:74", after := #[{ on := 20, ground := Ground.data }, { on := 19, ground := Ground.data }, { on := 18, ground := Ground.chain }, { on := 0, ground := Ground.phase }, { on := 1, ground := Ground.phase }, { on := 2, ground := Ground.phase }, { on := 3, ground := Ground.phase }, { on := 4, ground := Ground.phase }, { on := 5, ground := Ground.phase }, { on := 6, ground := Ground.phase }, { on := 7, ground := Ground.phase }, { on := 8, ground := Ground.phase }, { on := 9, ground := Ground.phase }, { on := 10, ground := Ground.phase }, { on := 11, ground := Ground.phase }, { on := 12, ground := Ground.phase }, { on := 13, ground := Ground.phase }, { on := 14, ground := Ground.phase }, { on := 15, ground := Ground.phase }, { on := 16, ground := Ground.phase }, { on := 17, ground := Ground.phase }, { on := 18, ground := Ground.phase }, { on := 19, ground := Ground.phase }], guard := none }) rfl (fun K hK => ?_) AllReadyH.nil)
                    have q0 := cellAt (HRX.out.row dq (by assumption)) b _ (vfs_get _ b (by rw [rowF_len]; exact hbh))
                    have q1 : X.frozen? ⟨F0 + dq, b, none⟩ = false := frozen_of_row _ _ _ _ _ (HRX.out.row dq (by assumption))
                    go_simp
                    refine hK.out _ _ ?_ (fun hHeld => ?_)
                    · exact grownBy_setCell GX _
                    clear hK K
                    try simp only [Act.put, List.setIfInBounds_toArray, List.set_cons_zero, List.set_cons_succ]
                    refine wpAnyH_done (by kernel_rfl) ?_ _
                    refine NoPanic.normal ?_
                    obtain ⟨Z, hZ⟩ : ∃ Z, Z = X.setCell ⟨F0 + dq, b, none⟩ (.int .u8 ((ga (R9 (dq : Int) b) (gm c (R9 (sq : Int) b))).toNat : Int)) := ⟨_, rfl⟩
                    have HZR : Hid (RunW w.heap.size Z M F0 Q k ol h g (upTo (inX L) ⟨4, (dq : Int), (sq : Int), c⟩ R9 (b + 1)) O9) := by
                      show RunW ..
                      rw [hZ, upTo_next (k := dq) (x := ga (R9 (dq : Int) b) (gm c (R9 (sq : Int) b))) rfl (fun h => absurd (show (4 : Int) = 5 from h) (by decide)) (by rw [doR_4 rfl]; exact congrFun setR_same b)]
                      exact HRX.out.poke (by assumption) hbh _
                    have HZB : Hid (Below w.heap.size w Z) := by show Below ..; rw [hZ]; exact HBX.out.setCell (p := ⟨F0 + dq, b, none⟩) (by show w.heap.size ≤ F0 + dq; have := HMB.out; omega) _
                    have HZS : Hid (Z.heap[wo.heap.size]? = some (.cells #[.int .i64 4, .int .i64 (dq : Int), .int .i64 (sq : Int), .int .u8 (c.toNat : Int)] 48 (0, 0))) := by show _ = _; rw [hZ]; exact (heap_setCell_other _ _ _ _ (HSN.out dq hdq)).trans HSX.out
                    rw [xor_val, ← hZ]
                    clear hZ
                    go_wp2
                    exact ⟨⟨b + 1, by omega, by go_num, HZB.out, HZR.out, HZS.out⟩, by simp [intOf]; omega⟩
              · clear hz1
                have HZR : Hid (RunW w.heap.size wr M F0 Q k ol h g (upTo (inX L) ⟨5, dst, src, c⟩ R9 (b + 1)) O9) := by
                  have h9 := HR.out
                  rw [upTo_idle rfl] at h9
                  show RunW ..
                  rw [upTo_idle rfl]
                  exact h9
                go_wp2
                exact ⟨⟨b + 1, by omega, by go_num, HB.out, HZR.out, HS.out⟩, by simp [intOf]; omega⟩
            · obtain rfl : b = h := by omega
              by_cases h5 : op = 5
              · subst h5
                have h9 := HR.out
                rw [upTo_idle rfl] at h9
                replace HR : Hid (RunW w.heap.size wr M F0 Q k ol b g R9 O9) := h9
                have hok5 : (0 ≤ dst ∧ dst < ol) ∧ (0 ≤ src ∧ src < k) := by omega
                obtain ⟨⟨hd0, hd1⟩, hs0, hs1⟩ := hok5
                obtain ⟨dq, rfl⟩ := Int.eq_ofNat_of_zero_le hd0
                obtain ⟨sq, rfl⟩ := Int.eq_ofNat_of_zero_le hs0
                have hdq : dq < ol := by omega
                have hsq : sq < k := by omega
                have HRE : Hid (∀ Z g' O', RunW w.heap.size Z M F0 Q k ol b g' R9 O' → O' = setR O9 (dq : Int) (R9 (sq : Int)) → RunW w.heap.size Z M F0 Q k ol b g' (runR (inX L) (ss.take (j + 1)) noR) (runO (inX L) (ss.take (j + 1)) noR noR)) := fun Z g' O' hz e => by
                  rw [HR1.out, HO1.out, doR_n (fun h => absurd (show (5 : Int) = 1 from h) (by decide)) (fun h => absurd (show (5 : Int) = 2 from h) (by decide)) (fun h => absurd (show (5 : Int) = 3 from h) (by decide)) (fun h => absurd (show (5 : Int) = 4 from h) (by decide)), show doO ⟨5, (dq : Int), (sq : Int), c⟩ R9 O9 = setR O9 (dq : Int) (R9 (sq : Int)) from if_pos rfl, ← e]; exact hz
                have HGE : Hid (∀ (p : Nat × Nat) (d : Nat), (if d = dq then some p else g d).isSome = decide (1 ≤ cntO (ss.take (j + 1)) d)) := fun p d => by
                  rw [HTK.out]
                  by_cases e2 : d = dq
                  · rw [cnt_out rfl (by rw [e2])]; simp [e2]
                  · rw [cnt_other (show (dq : Int) ≠ (d : Int) by omega), if_neg e2, HGS.out]
                clear h9 hok hd0 hd1 hs0 hs1
                go_wp2
                have P1 : Hid (∀ u, wr.grownBy u (some Q) → u.cell? ⟨wo.heap.size, 1, none⟩ = some (.int .i64 (dq : Int))) := fun u hu => cellAt ((hu.block _ (ltHeap HS.out) (fun e => HSQ.out (Option.some.inj e))).trans HS.out) 1 _ rfl
                have P2 : Hid (∀ u, wr.grownBy u (some Q) → u.cell? ⟨wo.heap.size, 2, none⟩ = some (.int .i64 (sq : Int))) := fun u hu => cellAt ((hu.block _ (ltHeap HS.out) (fun e => HSQ.out (Option.some.inj e))).trans HS.out) 2 _ rfl
                have PM : Hid (∀ u, wr.grownBy u (some Q) → u.cell? ⟨M, sq, none⟩ = some (.slice (some ⟨F0 + sq, 0, none⟩) b b)) := fun u hu => cellAt ((hu.block _ (ltHeap HR.out.regs) (fun e => by have := Option.some.inj e; have := HR.out.hMF; have := HR.out.hFQ; omega)).trans HR.out.regs) sq _ (slF_at (by assumption))
                refine wp_region_noPanic ?_
                refine wp_region_held_drew (S := fun u => wr.grownBy u (some Q)) (by kernel_rfl) ?_ (fun hHeld => ?_)
                · exact grownBy_drew (World.grownBy.refl _ _)
                obtain ⟨X, hX⟩ : ∃ X, X = wr.drew := ⟨_, rfl⟩
                have GX : wr.grownBy X (some Q) := by rw [hX]; exact grownBy_drew (World.grownBy.refl _ _)
                have HRX : Hid (RunW w.heap.size X M F0 Q k ol b g R9 O9) := by show RunW ..; rw [hX]; exact HR.out.drew
                have HBX : Hid (Below w.heap.size w X) := by show Below ..; rw [hX]; exact HB.out.drew
                rw [← hX] at hHeld ⊢
                clear hX
                refine wpAnyH_take (i := 0) (oi := { dst := some 117, op := Op.move (Operand.tmp 9), type := 67, pos := "ref.go:78", after := #[], guard := none }) (v := ?_) rfl (by kernel_rfl) (by kernel_rfl) (by kernel_rfl) (fun _ _ _ h => h) (Or.inl ⟨by rfl, ?_⟩) hHeld ?_
                rotate_left
                · intro u hSw
                  go_simp
                  try with_reducible rfl
                try simp only [Act.put, List.setIfInBounds_toArray, List.set_cons_zero, List.set_cons_succ]
                refine wpAnyH_take (i := 1) (oi := { dst := some 118, op := Op.fieldAddr 48 (Operand.tmp 11) 1, type := 0, pos := "ref.go:78", after := #[], guard := none }) (v := ?_) rfl (by kernel_rfl) (by kernel_rfl) (by kernel_rfl) (fun _ _ _ h => h) (Or.inl ⟨by rfl, ?_⟩) hHeld ?_
                rotate_left
                · intro u hSw
                  go_simp
                  try with_reducible rfl
                try simp only [Act.put, List.setIfInBounds_toArray, List.set_cons_zero, List.set_cons_succ]
                refine wpAnyH_take (i := 2) (oi := { dst := some 119, op := Op.load 3 (Operand.tmp 118), type := 3, pos := "ref.go:78", after := #[{ on := 1, ground := Ground.data }], guard := none }) (v := ?_) rfl (by kernel_rfl) (by kernel_rfl) (by kernel_rfl) (fun _ _ _ h => h) (Or.inl ⟨by rfl, ?_⟩) hHeld ?_
                rotate_left
                · intro u hSw
                  have k9 := P1.out u hSw
                  go_simp
                  try with_reducible rfl
                try simp only [Act.put, List.setIfInBounds_toArray, List.set_cons_zero, List.set_cons_succ]
                refine wpAnyH_take (i := 4) (oi := { dst := some 121, op := Op.move (Operand.tmp 7), type := 67, pos := "ref.go:78", after := #[], guard := none }) (v := ?_) rfl (by kernel_rfl) (by kernel_rfl) (by kernel_rfl) (fun _ _ _ h => h) (Or.inl ⟨by rfl, ?_⟩) hHeld ?_
                rotate_left
                · intro u hSw
                  go_simp
                  try with_reducible rfl
                try simp only [Act.put, List.setIfInBounds_toArray, List.set_cons_zero, List.set_cons_succ]
                refine wpAnyH_take (i := 5) (oi := { dst := some 122, op := Op.fieldAddr 48 (Operand.tmp 11) 2, type := 0, pos := "ref.go:78", after := #[], guard := none }) (v := ?_) rfl (by kernel_rfl) (by kernel_rfl) (by kernel_rfl) (fun _ _ _ h => h) (Or.inl ⟨by rfl, ?_⟩) hHeld ?_
                rotate_left
                · intro u hSw
                  go_simp
                  try with_reducible rfl
                try simp only [Act.put, List.setIfInBounds_toArray, List.set_cons_zero, List.set_cons_succ]
                refine wpAnyH_take (i := 6) (oi := { dst := some 123, op := Op.load 3 (Operand.tmp 122), type := 3, pos := "ref.go:78", after := #[{ on := 5, ground := Ground.data }], guard := none }) (v := ?_) rfl (by kernel_rfl) (by kernel_rfl) (by kernel_rfl) (fun _ _ _ h => h) (Or.inl ⟨by rfl, ?_⟩) hHeld ?_
                rotate_left
                · intro u hSw
                  have k9 := P2.out u hSw
                  go_simp
                  try with_reducible rfl
                try simp only [Act.put, List.setIfInBounds_toArray, List.set_cons_zero, List.set_cons_succ]
                refine wpAnyH_take (i := 7) (oi := { dst := some 124, op := Op.indexAddr 67 (Operand.tmp 121) (Operand.tmp 123), type := 0, pos := "ref.go:78", after := #[{ on := 4, ground := Ground.data }, { on := 6, ground := Ground.data }], guard := none }) (v := ?_) rfl (by kernel_rfl) (by kernel_rfl) (by kernel_rfl) (fun _ _ _ h => h) (Or.inl ⟨by rfl, ?_⟩) hHeld ?_
                rotate_left
                · intro u hSw
                  go_simp
                  try with_reducible rfl
                try simp only [Act.put, List.setIfInBounds_toArray, List.set_cons_zero, List.set_cons_succ]
                refine wpAnyH_take (i := 8) (oi := { dst := some 125, op := Op.load 31 (Operand.tmp 124), type := 31, pos := "ref.go:78", after := #[{ on := 7, ground := Ground.data }], guard := none }) (v := ?_) rfl (by kernel_rfl) (by kernel_rfl) (by kernel_rfl) (fun _ _ _ h => h) (Or.inl ⟨by rfl, ?_⟩) hHeld ?_
                rotate_left
                · intro u hSw
                  have k9 := PM.out u hSw
                  go_simp
                  try with_reducible rfl
                try simp only [Act.put, List.setIfInBounds_toArray, List.set_cons_zero, List.set_cons_succ]
                refine wpAnyH_ready (rs := [3]) (by kernel_rfl) (by simp) ?_
                refine (AllReadyH.cons (o := { dst := some 120, op := Op.buildSlice 31 0 #[], type := 31, pos := "ref.go:78", after := #[], guard := none }) rfl (fun K hK => ?_) AllReadyH.nil)
                have hbA : Below X.heap.size X (X.alloc (.cells #[] 5)) := (Below.refl _ _).alloc (Nat.le_refl _) _
                go_simp
                refine hK.out _ _ ?_ (fun hHeld => ?_)
                · exact grown_below GX hbA
                clear hK K
                try simp only [Act.put, List.setIfInBounds_toArray, List.set_cons_zero, List.set_cons_succ]
                refine wpAnyH_ready (rs := [9]) (by kernel_rfl) (by simp) ?_
                refine (AllReadyH.cons (o := { dst := some 126, op := Op.call { callee := Callee.builtin Builtin.append, args := #[Operand.tmp 120, Operand.tmp 125], argTypes := #[31, 31] }, type := 31, pos := "ref.go:78", after := #[{ on := 3, ground := Ground.data }, { on := 8, ground := Ground.data }], guard := none }) rfl (fun K hK => ?_) AllReadyH.nil)
                obtain ⟨q, cq, V, hrun, h8, hq, hbV⟩ := copy8E (w := X) (ca := b) 31 (rowF_len b (R9 (sq : Int))).symm (by omega) (row8T_own (HRX.out.row sq (by assumption))).row8
                have GV : wr.grownBy V (some Q) := grown_below GX hbV
                have HV : Hid _ := HRX.out.below hbV
                refine wanted_append_run rfl _ _ 31 rfl _ _ _ _ rfl rfl hrun ?_
                refine hK.out _ _ ?_ (fun hHeld => ?_)
                · exact GV
                clear hK K
                try simp only [Act.put, List.setIfInBounds_toArray, List.set_cons_zero, List.set_cons_succ]
                refine wpAnyH_take (i := 10) (oi := { dst := some 127, op := Op.indexAddr 67 (Operand.tmp 117) (Operand.tmp 119), type := 0, pos := "ref.go:78", after := #[{ on := 0, ground := Ground.data }, { on := 2, ground := Ground.data }, { on := 0, ground := Ground.phase }, { on := 1, ground := Ground.phase }, { on := 2, ground := Ground.phase }, { on := 3, ground := Ground.phase }, { on := 4, ground := Ground.phase }, { on := 5, ground := Ground.phase }, { on := 6, ground := Ground.phase }, { on := 7, ground := Ground.phase }, { on := 8, ground := Ground.phase }, { on := 9, ground := Ground.phase }], guard := none }) (v := ?_) rfl (by kernel_rfl) (by kernel_rfl) (by kernel_rfl) (fun _ _ _ h => h) (Or.inl ⟨by rfl, ?_⟩) hHeld ?_
                rotate_left
                · intro u hSw
                  go_simp
                  try with_reducible rfl
                try simp only [Act.put, List.setIfInBounds_toArray, List.set_cons_zero, List.set_cons_succ]
                refine wpAnyH_ready (rs := [11]) (by kernel_rfl) (by simp) ?_
                refine (AllReadyH.cons (o := { dst := none, op := Op.store 31 (Operand.tmp 127) (Operand.tmp 126), type := 0, pos := "ref.go:78", after := #[{ on := 10, ground := Ground.data }, { on := 9, ground := Ground.data }, { on := 9, ground := Ground.chain }, { on := 0, ground := Ground.phase }, { on := 1, ground := Ground.phase }, { on := 2, ground := Ground.phase }, { on := 3, ground := Ground.phase }, { on := 4, ground := Ground.phase }, { on := 5, ground := Ground.phase }, { on := 6, ground := Ground.phase }, { on := 7, ground := Ground.phase }, { on := 8, ground := Ground.phase }, { on := 9, ground := Ground.phase }], guard := none }) rfl (fun K hK => ?_) AllReadyH.nil)
                have q0 := cellAt HV.out.outs dq _ (slO_at (by assumption))
                have q1 : V.frozen? ⟨Q, dq, none⟩ = false := frozen_of_row _ _ _ _ _ HV.out.outs
                go_simp
                refine hK.out _ _ ?_ (fun hHeld => ?_)
                · exact grownBy_setCell GV _
                clear hK K
                try simp only [Act.put, List.setIfInBounds_toArray, List.set_cons_zero, List.set_cons_succ]
                refine wpAnyH_done (by kernel_rfl) ?_ _
                refine NoPanic.normal ?_
                obtain ⟨Z, hZ⟩ : ∃ Z, Z = V.setCell ⟨Q, dq, none⟩ (.slice (some ⟨q, 0, none⟩) b cq) := ⟨_, rfl⟩
                have HZR : Hid (RunW w.heap.size Z M F0 Q k ol b (fun x => if x = dq then some (q, cq) else g x) R9 (setR O9 (dq : Int) (R9 (sq : Int)))) := by
                  show RunW ..
                  rw [hZ]
                  exact HV.out.putO (by assumption) h8 (by have := ltHeap HRX.out.outs; omega)
                have HZB : Hid (Below w.heap.size w Z) := by show Below ..; rw [hZ]; exact (HBX.out.trans (hbV.mono HBX.out.size)).setCell (p := ⟨Q, dq, none⟩) (by show w.heap.size ≤ Q; have := HMB.out; have := HR.out.hFQ; omega) _
                rw [← hZ]
                clear hZ h8 hq hbV GV GX q0 q1 hrun hHeld hbA
                go_wp2
                exact ⟨⟨j + 1, _, by omega, by go_num, HZB.out, HRE.out _ _ _ HZR.out rfl, fun d => HGE.out (q, cq) d⟩, by simp [intOf]; omega⟩
              · have v5 : (op == 5) = false := beq_eq_false_iff_ne.2 h5
                have HZR : Hid (RunW w.heap.size wr M F0 Q k ol b g (runR (inX L) (ss.take (j + 1)) noR) (runO (inX L) (ss.take (j + 1)) noR noR)) := by
                  show RunW ..
                  rw [HR1.out, HO1.out, doO, if_neg h5]
                  exact HR.out.full
                have HGE : Hid (∀ d : Nat, (g d).isSome = decide (1 ≤ cntO (ss.take (j + 1)) d)) := fun d => by
                  rw [HTK.out, HGS.out, cnt_not h5]
                clear hok h5
                go_wp2
                exact ⟨⟨j + 1, g, by omega, by go_num, HB.out, HZR.out, HGE.out⟩, by simp [intOf]; omega⟩
        · obtain rfl : j = sl := by omega
          have hfull : ss.take j = ss := by rw [HSL.out, List.take_length]
          have hgs := HGS.out
          have hr := HRO.out
          rw [HRE9.out, HOE9.out, hfull] at hr
          rw [hfull] at hgs
          have HM9 : Hid (OutsW wr Q ol h (inX L) ss) := hr.made (fun d hd => by rw [hgs]; exact decide_eq_true (by have := HF.out.2.2.2.2.2 d (by rw [← HOL.out]; exact hd); omega))
          have HQ9 : Hid (w.heap.size ≤ Q) := by show _ ≤ _; have := hr.hFQ; have := HMB.out; omega
          clear hfull hgs hr
          go_wp2
          go_ret
          exact ⟨Q, rfl, HQ9.out, HM9.out, HBO.out⟩
end Go.Proofs.YtanmgpgiepkogaaDoor
