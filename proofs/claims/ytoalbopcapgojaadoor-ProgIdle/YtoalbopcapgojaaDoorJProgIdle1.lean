/- What Meaning of package prog answers of programs in form. -/
import Derived.Test.YtoalbopcapgojaaDoorMatA
import Derived.LaidLaws
import Derived.MakeChecks
import Derived.LaidEql
import Derived.Test.YtoalbopcapgojaaDoorJProgIdle2
import Derived.Test.YtoalbopcapgojaaDoorSolveL
import Derived.Test.YtoalbopcapgojaaDoorMatP
import Derived.Test.YtoalbopcapgojaaDoorOwn
import Derived.Test.YtoalbopcapgojaaDoorStepC
import Derived.Test.YtoalbopcapgojaaDoorHolds
import Derived.BigRegion
import Derived.Test.YtoalbopcapgojaaDoorMatO
import Derived.Deep.DeepCutAuto
/- What the named variables of package api hold, by the rows' condition: errors, each of a block of its own. -/
namespace Go.Proofs.YtoalbopcapgojaaDoor
open Go.RowKit Go.ChangeShapes
set_option linter.unusedVariables false
set_option maxRecDepth 20000
theorem cellsES : Tryd.prog.cellsOf 186 = 1 := by kernel_rfl
theorem cellsStr : Tryd.prog.cellsOf 9 = 1 := by kernel_rfl
theorem starES : "*" ++ "errors.errorString" = "*errors.errorString" := by decide
theorem rowES (u : TypeId) (h : Tryd.prog.typeName? 3 u = some "*errors.errorString") : u = 172 :=
  typeName_ptr_named (nm := "errors.errorString") (by rw [starES]; kernel_rfl) (by kernel_rfl) (by decide) u (by rw [starES]; exact h)
/-- an error's datum -/
def errD (text : List UInt8) : DataW Unit := .iface "*errors.errorString" (.ptr (.agg [.lit (.string text)]))
def ErrsAt (W : World) (gs : List Nat) (es : List Addr) : Prop :=
  gs.length = es.length ∧ es.Nodup ∧ ∀ (k g : Nat) (a : Addr), gs[k]? = some g → es[k]? = some a → W.cell? ⟨g, 0, none⟩ = some (errAt a) ∧ ∃ c t, W.heap[a.block]? = some (.cells c t (0, 0))
theorem errs_go {W : World} : ∀ (laid : List (String × DataW Unit)) (gs : List Nat) (ps : List MemPlace), DataW.LaidVars Tryd.prog W laid ps → ps.Nodup →
    (∀ b off, MemPlace.cell b off ∈ ps → (∃ c t, W.heap[b]? = some (.cells c t (0, 0))) ∧ ∀ u v, W.cell? ⟨b, off, none⟩ = some (.iface u v) → Value.okWide Tryd.prog W .any 0 u v) →
    laid.map (fun x => Tryd.prog.globalNamed x.1) = gs.map some → (∀ g ∈ gs, (Tryd.prog.globals[g]?).map (·.type) = some 29) → (∀ x ∈ laid, ∃ text, x.2 = errD text) →
    ∃ es : List Addr, gs.length = es.length ∧ es.Nodup ∧ (∀ a ∈ es, MemPlace.cell a.block a.off ∈ ps) ∧ ∀ (k g : Nat) (a : Addr), gs[k]? = some g → es[k]? = some a → W.cell? ⟨g, 0, none⟩ = some (errAt a) ∧ ∃ c t, W.heap[a.block]? = some (.cells c t (0, 0))
  | [], [], _, _, _, _, _, _, _ => ⟨[], rfl, List.nodup_nil, fun a h => by simp at h, fun k g a h => by simp at h⟩
  | [], _ :: _, _, _, _, _, h, _, _ => by simp at h
  | _ :: _, [], _, _, _, _, h, _, _ => by simp at h
  | (n, d) :: r, g :: gs, ps, hv, hnd, hrows, hn, ht, hd => by
    obtain ⟨text, hdd⟩ := hd _ List.mem_cons_self
    simp only at hdd
    subst hdd
    obtain ⟨g0, t0, cs0, f0, p0, q0, hg0, ht0, hv0, hd0, hq, rfl⟩ := hv
    simp only [List.map_cons, List.cons.injEq] at hn
    obtain rfl := Option.some.inj (hg0.symm.trans hn.1)
    obtain rfl := Option.some.inj (ht0.symm.trans (ht _ List.mem_cons_self))
    obtain ⟨l0⟩ := cs0
    have ok0 : ∀ u v, l0 = [.iface u v] → Value.okWide Tryd.prog W .any 0 u v := fun u v e => by
      subst e
      exact (hrows g0 0 (by simp [MemPlace.row])).2 u v (by simpa using World.var?_cell hg0 hv0 0)
    obtain ⟨a0, s0, rfl, hc0, hs0, hz0, rfl⟩ := errorString_of_trod Tryd.underlying29 rowES Tryd.underlying172 Tryd.underlying186 rfl rfl Tryd.underlying9 cellsES cellsStr hd0 ok0
    have hndq : q0.Nodup := List.Nodup.sublist (List.sublist_append_right _ _) hnd
    obtain ⟨es, h1, h2, h3, h4⟩ := errs_go r gs q0 hq hndq (fun b off hm => hrows b off (List.mem_append_right _ hm)) hn.2 (fun g hg => ht g (List.mem_cons_of_mem _ hg)) (fun x hx => hd x (List.mem_cons_of_mem _ hx))
    have hm0 : MemPlace.cell a0.block a0.off ∈ MemPlace.row ⟨g0, 0, none⟩ (Array.mk [Value.iface 172 (.pointer (some a0))]).size ++ MemPlace.row a0 1 := by simp [MemPlace.row]
    refine ⟨a0 :: es, by simp [h1], List.nodup_cons.2 ⟨fun hin => ?_, h2⟩, fun a ha => ?_, fun k g a hk ha => ?_⟩
    · exact (List.nodup_append.1 hnd).2.2 _ hm0 _ (h3 _ hin) rfl
    · rcases List.mem_cons.1 ha with rfl | ha
      · exact List.mem_append_left _ hm0
      · exact List.mem_append_right _ (h3 _ ha)
    · cases k with
      | zero =>
        simp only [List.getElem?_cons_zero, Option.some.injEq] at hk ha
        subst hk ha
        exact ⟨by simpa [errAt] using World.var?_cell hg0 hv0 0, (hrows a0.block a0.off (List.mem_append_left _ hm0)).1⟩
      | succ k => exact h4 k g a (by simpa using hk) (by simpa using ha)
theorem errs_of_laid {W : World} {laid : List (String × DataW Unit)} {gs : List Nat} (h : laidMetH Tryd.prog laid W) (hp : (laid.all fun x => x.2.handleName?.isNone) = true)
    (hn : laid.map (fun x => Tryd.prog.globalNamed x.1) = gs.map some) (ht : ∀ g ∈ gs, (Tryd.prog.globals[g]?).map (·.type) = some 29) (hd : ∀ x ∈ laid, ∃ text, x.2 = errD text) : ∃ es, ErrsAt W gs es := by
  rw [MakeChecks.laidMetH_plain _ _ _ hp] at h
  obtain ⟨ps, hv, hnd, hrows⟩ := h
  obtain ⟨es, h1, h2, _, h4⟩ := errs_go laid gs ps hv hnd hrows hn ht hd
  exact ⟨es, h1, h2, h4⟩
theorem errs_at {W : World} {gs : List Nat} {es : List Addr} (h : ErrsAt W gs es) (k g : Nat) (hk : gs[k]? = some g) : ∃ a, es[k]? = some a ∧ W.cell? ⟨g, 0, none⟩ = some (errAt a) ∧ ∃ c t, W.heap[a.block]? = some (.cells c t (0, 0)) := by
  have hlt : k < es.length := by
    rw [← h.1]; exact (List.getElem?_eq_some_iff.1 hk).1
  exact ⟨es[k], List.getElem?_eq_getElem hlt, h.2.2 k g _ hk (List.getElem?_eq_getElem hlt)⟩
theorem errsAt_below {w w' : World} {gs : List Nat} {es : List Addr} (h : ErrsAt w gs es) (hb : Below w.heap.size w w') : ErrsAt w' gs es :=
  ⟨h.1, h.2.1, fun k g a hk ha => by
    obtain ⟨h1, c, t, h2⟩ := h.2.2 k g a hk ha
    exact ⟨(hb.cell (p := ⟨g, 0, none⟩) (by simpa using World.block_lt_of_cell? w _ h1)).trans h1, c, t, heap_later h2 hb⟩⟩
theorem infoPtr : ∃ i, Tryd.prog.info? 172 = some i ∧ i.comparable = true := by
  have h : (Tryd.prog.info? 172).map (·.comparable) = some true := by kernel_rfl
  cases hq : Tryd.prog.info? 172 with
  | none => simp [hq] at h
  | some i => simp only [hq, Option.map_some, Option.some.injEq] at h; exact ⟨i, rfl, h⟩
theorem infoES : ∃ j, Tryd.prog.info? 186 = some j ∧ j.size ≠ 0 := by
  have h : (Tryd.prog.info? 186).map (·.size) = some 1 := by kernel_rfl
  cases hq : Tryd.prog.info? 186 with
  | none => simp [hq] at h
  | some i => simp only [hq, Option.map_some, Option.some.injEq] at h; exact ⟨i, rfl, by omega⟩
/-- one error held against itself -/
theorem eq_same (w : World) (a : Addr) : (binOp .eql 29 (.iface 172 (.pointer (some a))) (.iface 172 (.pointer (some a)))).run Tryd.prog w = .ok (.bool true) w := by
  obtain ⟨i, h1, h2⟩ := infoPtr
  obtain ⟨j, h3, _⟩ := infoES
  exact run_eql_iface_ptr_same w a Tryd.underlying29 Tryd.underlying172 h1 h2 h3
theorem eq_other {w : World} {a b : Addr} {ca cb : Array Value} {ta tb : TypeId} (hne : a ≠ b) (ha : w.heap[a.block]? = some (.cells ca ta (0, 0))) (hb : w.heap[b.block]? = some (.cells cb tb (0, 0))) :
    (binOp .eql 29 (.iface 172 (.pointer (some a))) (.iface 172 (.pointer (some b)))).run Tryd.prog w = .ok (.bool false) w := by
  obtain ⟨i, h1, h2⟩ := infoPtr
  obtain ⟨j, h3, h4⟩ := infoES
  exact run_eql_iface_ptr_other w Tryd.underlying29 Tryd.underlying172 h1 h2 h3 h4 hne ha hb
end Go.Proofs.YtoalbopcapgojaaDoor

/- What Check of package prog answers, of all programs. -/
namespace Go.Proofs.YtoalbopcapgojaaDoor
open Go.RowKit Gf
set_option linter.unusedVariables false
set_option maxRecDepth 20000
set_option linter.unusedSimpArgs false
theorem inF_iff {ins outs : List Int} {rg : Int} {ss : List Stp} (h1 : GoodH 32 ins) (h2 : GoodH 32 outs) (h3 : 0 ≤ rg ∧ rg ≤ 64) (h4 : ss.length ≤ 4096) : InF ins outs rg ss ↔ FitA ins.length outs.length rg ss :=
  ⟨fun h => ⟨h.2.2.2.2.1, h.2.2.2.2.2⟩, fun h => ⟨h1, h2, h3, h4, h.1, h.2⟩⟩
set_option maxRecDepth 100000 in
set_option maxHeartbeats 8000000 in
theorem pcheck_F (ia oa sa : Option Addr) (il ic ol oc sl sc : Nat) (ins outs : List Int) (rg : Int) (ss : List Stp) (w : World) (s : Addr) (hP : PrgW w ia oa sa il ic ol oc sl sc ins outs ss) (hs : w.cell? ⟨0, 0, none⟩ = some (errAt s)) :
    Calls Tryd.prog 9 #[.agg #[.slice ia il ic, .slice oa ol oc, .int .i64 rg, .slice sa sl sc]] w fun e w' => ((InF ins outs rg ss ∧ e = .returned .nilIface) ∨ (¬ InF ins outs rg ss ∧ e = .returned (errAt s))) ∧ Below w.heap.size w w' := by
  have HP0 : Hid _ := hP
  have hI := hP.eil
  have hO := hP.eol
  have hS := hP.esl
  have hi9 := hP.i9; have ho9 := hP.o9; have hs9 := hP.s9
  have hcil := hP.cil; have hcol := hP.col; have hcsl := hP.csl
  have HIL : Hid (il = ins.length) := hI
  have HOL : Hid (ol = outs.length) := hO
  have HSL : Hid (sl = ss.length) := hS
  have HP : Hid (PrgW (w.alloc (.cells #[.slice ia il ic, .slice oa ol oc, .int .i64 rg, .slice sa sl sc] 25)) ia oa sa il ic ol oc sl sc ins outs ss) := hP.below ((Below.refl _ _).alloc (Nat.le_refl _) _)
  have HA0 : Hid (Below w.heap.size w (w.alloc (.cells #[.slice ia il ic, .slice oa ol oc, .int .i64 rg, .slice sa sl sc] 25))) := (Below.refl w.heap.size w).alloc (Nat.le_refl _) _
  have hs1 := cell?_alloc_old (.cells #[.slice ia il ic, .slice oa ol oc, .int .i64 rg, .slice sa sl sc] 25) hs
  unfold errAt at hs1
  have k0 := heap_alloc_last w (.cells #[.slice ia il ic, .slice oa ol oc, .int .i64 rg, .slice sa sl sc] 25)
  have HK0 : Hid _ := k0
  have HS1 : Hid _ := hs1
  clear hP hs hI hO hS HP0 k0
  go_enter Tryd.func9, Tryd.ntmps9
  go_wp2_with fail
  refine Calls.mono (halves_F il ic ia ins _ HIL.out (by omega) hcil HP.out.I) ?_
  by_cases h1 : GoodH 32 ins
  rotate_left
  · have HF : Hid (¬ InF ins outs rg ss) := fun h => h1 h.1
    rw [Prg.goodB_no h1]
    rintro e w1 ⟨rfl, rfl⟩
    clear h1
    go_wp2
    go_ret
    exact ⟨.inr ⟨HF.out, rfl⟩, HA0.out⟩
  rw [Prg.goodB_yes h1]
  rintro e w1 ⟨rfl, rfl⟩
  have H1 : Hid (GoodH 32 ins) := h1
  clear h1
  go_wp2_with fail
  refine Calls.mono (halves_F ol oc oa outs _ HOL.out (by omega) hcol HP.out.O) ?_
  by_cases h2 : GoodH 32 outs
  rotate_left
  · have HF : Hid (¬ InF ins outs rg ss) := fun h => h2 h.2.1
    rw [Prg.goodB_no h2]
    rintro e w1 ⟨rfl, rfl⟩
    clear h2
    go_wp2
    go_ret
    exact ⟨.inr ⟨HF.out, rfl⟩, HA0.out⟩
  rw [Prg.goodB_yes h2]
  rintro e w1 ⟨rfl, rfl⟩
  have H2 : Hid (GoodH 32 outs) := h2
  have hol32 : ol ≤ 32 := by rw [HOL.out]; exact goodH_len h2
  clear h2
  go_wp2_with fail
  refine Calls.mono (pthere_F rg 65 _) ?_
  by_cases h3 : 0 ≤ rg ∧ rg < 65
  rotate_left
  · have HF : Hid (¬ InF ins outs rg ss) := fun h => h3 (by have := h.2.2.1; omega)
    rw [decide_eq_false h3]
    rintro e w1 ⟨rfl, rfl⟩
    clear h3
    go_wp2
    go_ret
    exact ⟨.inr ⟨HF.out, rfl⟩, HA0.out⟩
  rw [decide_eq_true h3]
  rintro e w1 ⟨rfl, rfl⟩
  by_cases n3 : 4096 < sl
  · have HF : Hid (¬ InF ins outs rg ss) := fun h => by have := h.2.2.2.1; rw [← HSL.out] at this; omega
    go_wp2
    go_ret
    exact ⟨.inr ⟨HF.out, rfl⟩, HA0.out⟩
  have HEQ : Hid (InF ins outs rg ss ↔ FitA il ol rg ss) := by
    rw [HIL.out, HOL.out]; exact inF_iff H1.out H2.out (by omega) (by rw [← HSL.out]; omega)
  have h3a : 0 ≤ rg := h3.1
  clear h3
  go_wp2_with fail
  refine Calls.mono (stepsFit_F ia oa sa il ic ol oc sl sc ins outs rg ss _ HP.out hol32 (by omega)) ?_
  rintro e w2 ⟨rfl, hb2⟩
  have HB2 : Hid (Below w.heap.size w w2) := HA0.out.trans (hb2.mono (by simp))
  have hs2 := cell_later hb2 HS1.out
  clear hb2
  by_cases hf : FitA il ol rg ss
  · rw [fitB_yes hf]
    have HF : Hid (InF ins outs rg ss) := HEQ.out.2 hf
    clear hf
    go_wp2
    go_ret
    exact ⟨.inl ⟨HF.out, rfl⟩, HB2.out⟩
  · rw [fitB_no hf]
    have HF : Hid (¬ InF ins outs rg ss) := fun h => hf (HEQ.out.1 h)
    clear hf
    go_wp2
    go_ret
    exact ⟨.inr ⟨HF.out, rfl⟩, HB2.out⟩
theorem pcheck_ok (ia oa sa : Option Addr) (il ic ol oc sl sc : Nat) (ins outs : List Int) (rg : Int) (ss : List Stp) (w : World) (s : Addr) (hP : PrgW w ia oa sa il ic ol oc sl sc ins outs ss) (hs : w.cell? ⟨0, 0, none⟩ = some (errAt s)) (h : InF ins outs rg ss) :
    Calls Tryd.prog 9 #[.agg #[.slice ia il ic, .slice oa ol oc, .int .i64 rg, .slice sa sl sc]] w fun e w' => e = .returned .nilIface ∧ Below w.heap.size w w' :=
  (pcheck_F ia oa sa il ic ol oc sl sc ins outs rg ss w s hP hs).mono fun e w' ⟨h1, h2⟩ => ⟨h1.elim (fun q => q.2) (fun q => absurd h q.1), h2⟩
theorem pcheck_bad (ia oa sa : Option Addr) (il ic ol oc sl sc : Nat) (ins outs : List Int) (rg : Int) (ss : List Stp) (w : World) (s : Addr) (hP : PrgW w ia oa sa il ic ol oc sl sc ins outs ss) (hs : w.cell? ⟨0, 0, none⟩ = some (errAt s)) (h : ¬ InF ins outs rg ss) :
    Calls Tryd.prog 9 #[.agg #[.slice ia il ic, .slice oa ol oc, .int .i64 rg, .slice sa sl sc]] w fun e w' => e = .returned (errAt s) ∧ Below w.heap.size w w' :=
  (pcheck_F ia oa sa il ic ol oc sl sc ins outs rg ss w s hP hs).mono fun e w' ⟨h1, h2⟩ => ⟨h1.elim (fun q => absurd q.1 h) (fun q => q.2), h2⟩
end Go.Proofs.YtoalbopcapgojaaDoor

/- Rows of elements behind one block of slices: what elimination holds in memory. -/
namespace Go.Proofs.YtoalbopcapgojaaDoor
open Go.RowKit Gf
set_option linter.unusedVariables false
set_option maxRecDepth 20000
/-- n slices of c elements each -/
def slF (n c : Nat) (f : Nat → Option Addr × Nat) : Array Value := ((List.range n).map fun k => Value.slice (f k).1 c (f k).2).toArray
theorem slF_size (n c : Nat) (f : Nat → Option Addr × Nat) : (slF n c f).size = n := by simp [slF]
theorem slF_at {n c k : Nat} {f : Nat → Option Addr × Nat} (h : k < n) : (slF n c f)[k]? = some (.slice (f k).1 c (f k).2) := by simp [slF, h]
theorem slF_kind {n c k : Nat} {f : Nat → Option Addr × Nat} {v : Value} (h : (slF n c f)[k]? = some v) : ∃ a l m, v = .slice a l m := by
  simp only [slF, List.getElem?_toArray, List.getElem?_map, Option.map_eq_some_iff] at h
  obtain ⟨x, _, rfl⟩ := h
  exact ⟨_, _, _, rfl⟩
theorem slF_set {n c k : Nat} {f : Nat → Option Addr × Nat} (a : Option Addr) (m : Nat) (h : k < n) : (slF n c f).setIfInBounds k (.slice a c m) = slF n c (fun x => if x = k then (a, m) else f x) := by
  apply Array.ext_getElem?
  intro i
  rw [Array.getElem?_setIfInBounds]
  by_cases hi : i < n
  · rw [slF_at hi, slF_at hi, slF_size]
    by_cases e : k = i
    · subst e; simp [hi]
    · simp [e, show ¬ i = k from fun h => e h.symm]
  · rw [Array.getElem?_eq_none (by rw [slF_size]; omega), Array.getElem?_eq_none (by rw [slF_size]; omega), slF_size]
    simp; omega
theorem slF_congr {n c : Nat} {f g : Nat → Option Addr × Nat} (h : ∀ k, k < n → f k = g k) : slF n c f = slF n c g := by
  simp only [slF]; congr 1
  apply List.map_congr_left
  intro k hk
  rw [h k (List.mem_range.1 hk)]
/-- a list of elements in a block of elements -/
def Row8T (w : World) (a : Option Addr) (xs : List F) : Prop :=
  xs = [] ∨ ∃ b off cs fr, a = some ⟨b, off, none⟩ ∧ w.heap[b]? = some (.cells cs 5 fr) ∧ ∀ j, j < xs.length → w.cell? ⟨b, off + j, none⟩ = some (.int .u8 ((at8 xs j).toNat : Int))
theorem Row8T.row8 {w : World} {a : Option Addr} {xs : List F} (h : Row8T w a xs) : Row8 w a xs := h.imp id fun ⟨b, off, _, _, e, _, h⟩ => ⟨b, off, e, h⟩
theorem row8T_own {w : World} {g : Nat} {xs : List F} {fr : Nat × Nat} (h : w.heap[g]? = some (.cells (vfs xs) 5 fr)) : Row8T w (some ⟨g, 0, none⟩) xs :=
  .inr ⟨g, 0, _, _, rfl, h, fun j hj => by rw [Nat.zero_add]; exact cellAt h j _ (vfs_get _ _ hj)⟩
/-- the block of this number, if there is one, holds no elements -/
def NoElems (w : World) (r : Option Nat) : Prop := ∀ g, r = some g → ∃ cs t fr, w.heap[g]? = some (.cells cs t fr) ∧ t ≠ 5
theorem noElems_some {w : World} {g : Nat} {cs : Array Value} {t : TypeId} {fr : Nat × Nat} (h : w.heap[g]? = some (.cells cs t fr)) (ht : t ≠ 5) : NoElems w (some g) := fun g' e => by cases e; exact ⟨_, _, _, h, ht⟩
theorem noElems_own {w : World} {B size n : Nat} {v : Value} {e : TypeId} {xs : List Value} (ho : w.ownsRow B e size v n xs) (he : e ≠ 5) : NoElems w v.ownBlock := fun g hg => by
  rcases ho.2 with ⟨rfl, _⟩ | ⟨g', cap, cur, rfl, _, h, _⟩
  · cases hg
  · obtain rfl : g' = g := by simpa [Value.ownBlock] using hg
    exact ⟨_, _, _, h, he⟩
theorem row8T_grown {w w' : World} {r : Option Nat} {a : Option Addr} {xs : List F} (h : Row8T w a xs) (hg : w.grownBy w' r) (hr : NoElems w r) : Row8T w' a xs := by
  rcases h with e | ⟨b, off, cs, fr, e, hb, h⟩
  · exact .inl e
  · have hne : some b ≠ r := by
      intro e2
      obtain ⟨cs2, t2, fr2, h2, h3⟩ := hr b e2.symm
      rw [hb] at h2
      cases h2
      exact h3 rfl
    have hblk := hg.block b (ltHeap hb) hne
    refine .inr ⟨b, off, cs, fr, e, hblk.trans hb, fun j hj => ?_⟩
    rw [← h j hj]
    simp only [World.cell?, hblk]
theorem row8T_below {w w' : World} {a : Option Addr} {xs : List F} (h : Row8T w a xs) (hb : Below w.heap.size w w') : Row8T w' a xs :=
  h.imp id fun ⟨b, off, cs, fr, e, h1, h⟩ => ⟨b, off, cs, fr, e, heap_later h1 hb, fun j hj => cell_later hb (h j hj)⟩
theorem row8_other {w w' : World} {M n c : Nat} {f : Nat → Option Addr × Nat} {fr : Nat × Nat} {a : Option Addr} {xs : List F} (hM : w.heap[M]? = some (.cells (slF n c f) 31 fr)) (hg : w.grownBy w' (some M)) (h : Row8T w a xs) : Row8T w' a xs :=
  row8T_grown h hg (noElems_some hM (by decide))
structure RowsW (w : World) (M n c : Nat) (f : Nat → Option Addr × Nat) (R : Mt) : Prop where
  blk : w.heap[M]? = some (.cells (slF n c f) 31 (0, 0))
  row : ∀ k, k < n → Row8T w (f k).1 (rowF c (R k))
  cap : ∀ k, k < n → c ≤ (f k).2
  nil : ∀ k, k < n → (f k).1 = none → (f k).2 = 0
theorem RowsW.congr {w : World} {M n c : Nat} {f : Nat → Option Addr × Nat} {R R' : Mt} (h : RowsW w M n c f R) (e : ∀ k, k < n → ∀ j, j < c → R k j = R' k j) : RowsW w M n c f R' :=
  ⟨h.blk, fun k hk => by rw [← rowF_congr (e k hk)]; exact h.row k hk, h.cap, h.nil⟩
theorem RowsW.below {w w' : World} {M n c : Nat} {f : Nat → Option Addr × Nat} {R : Mt} (h : RowsW w M n c f R) (hb : Below w.heap.size w w') : RowsW w' M n c f R :=
  ⟨heap_later h.blk hb, fun k hk => row8T_below (h.row k hk) hb, h.cap, h.nil⟩
theorem RowsW.drew {w : World} {M n c : Nat} {f : Nat → Option Addr × Nat} {R : Mt} (h : RowsW w M n c f R) : RowsW w.drew M n c f R := ⟨h.blk, h.row, h.cap, h.nil⟩
theorem RowsW.put {w : World} {M n c : Nat} {f : Nat → Option Addr × Nat} {R : Mt} (h : RowsW w M n c f R) {k : Nat} (hk : k < n) {a : Option Addr} {m : Nat} {v : Nat → F} (ha : Row8T w a (rowF c v)) (hm : c ≤ m) (hn : a = none → m = 0) :
    RowsW (w.setCell ⟨M, k, none⟩ (.slice a c m)) M n c (fun x => if x = k then (a, m) else f x) (fun x => if x = k then v else R x) := by
  have hg : w.grownBy (w.setCell ⟨M, k, none⟩ (.slice a c m)) (some M) := grownBy_setCell (World.grownBy.refl _ _) _
  refine ⟨?_, fun x hx => ?_, fun x hx => ?_, fun x hx => ?_⟩
  · rw [heap_setCell_same _ _ _ _ _ _ h.blk, slF_set _ _ hk]
  · by_cases e : x = k
    · simp only [e, if_true]; exact row8_other h.blk hg ha
    · simp only [e, if_false]; exact row8_other h.blk hg (h.row x hx)
  · by_cases e : x = k
    · simp only [e, if_true]; exact hm
    · simp only [e, if_false]; exact h.cap x hx
  · by_cases e : x = k
    · simp only [e, if_true]; exact hn
    · simp only [e, if_false]; exact h.nil x hx
theorem scaled_row (x : F) (c : Nat) (f g : Nat → F) : scaled x (rowF c f) (rowF c g) = rowF c (fun j => ga (f j) (gm x (g j))) :=
  rowF_eq (by rw [scaled_len, rowF_len, rowF_len]; omega) fun j hj => by rw [at8_scaled, at8_rowF hj, at8_rowF hj]
theorem scaled_none (x : F) (c : Nat) (g : Nat → F) : scaled x [] (rowF c g) = rowF c (fun j => gm x (g j)) :=
  rowF_eq (by rw [scaled_len, rowF_len]; simp) fun j hj => by rw [at8_scaled, at8_nil, at8_rowF hj, F.zero_add]
theorem scale_R (x : F) (b : Option Addr) (c cb : Nat) (g : Nat → F) (W : World) (hc : c ≤ 128) (hy : Row8 W b (rowF c g)) :
    Calls Tryd.prog 99 #[.int .u8 x.toNat, .slice b c cb] W fun e w' => ∃ q, e = .returned (.slice (some ⟨q, 0, none⟩) c c) ∧ Below W.heap.size W w' ∧ Row8T w' (some ⟨q, 0, none⟩) (rowF c (fun j => gm x (g j))) ∧ W.heap.size ≤ q :=
  (scale_B x b c cb (rowF c g) _ W.heap.size W W (Below.refl _ _) (Nat.le_refl _) rfl (rowF_len _ _).symm (by omega) hy).mono fun e w' ⟨q, he, h3, h1, _, h2⟩ => by
    rw [scaled_none] at he h2
    rw [rowF_len] at he
    exact ⟨q, he, h1, row8T_own h2, h3⟩
theorem addScaled_R (x : F) (a b : Option Addr) (c ca cb : Nat) (f g : Nat → F) (W : World) (hc : c ≤ 128) (hx : Row8 W a (rowF c f)) (hy : Row8 W b (rowF c g)) :
    Calls Tryd.prog 100 #[.slice a c ca, .int .u8 x.toNat, .slice b c cb] W fun e w' => ∃ q, e = .returned (.slice (some ⟨q, 0, none⟩) c c) ∧ Below W.heap.size W w' ∧ Row8T w' (some ⟨q, 0, none⟩) (rowF c (fun j => ga (f j) (gm x (g j)))) ∧ W.heap.size ≤ q :=
  (addScaled_B x a b c ca c cb (rowF c f) (rowF c g) _ W.heap.size W W (Below.refl _ _) (Nat.le_refl _) rfl (rowF_len _ _).symm (rowF_len _ _).symm (by omega) (by omega) hx hy).mono fun e w' ⟨q, he, h3, h1, _, h2⟩ => by
    rw [scaled_row] at he h2
    rw [rowF_len] at he
    exact ⟨q, he, h1, row8T_own h2, h3⟩
theorem RowsW.own {w w' : World} {M n c B size m : Nat} {f : Nat → Option Addr × Nat} {R : Mt} {v : Value} {e : TypeId} {xs : List Value} (h : RowsW w M n c f R) (ho : w.ownsRow B e size v m xs) (he : e ≠ 5) (he2 : 31 ≠ e) (hg : w.grownBy w' v.ownBlock) : RowsW w' M n c f R :=
  ⟨own_other ho hg h.blk he2, fun k hk => row8T_grown (h.row k hk) hg (noElems_own ho he), h.cap, h.nil⟩
/-- a list of one's own of another kind stays when the rows' block turns -/
theorem own_rows {w w' : World} {M n c B size m : Nat} {f : Nat → Option Addr × Nat} {fr : Nat × Nat} {v : Value} {e : TypeId} {xs : List Value} (ho : w.ownsRow B e size v m xs) (hM : w.heap[M]? = some (.cells (slF n c f) 31 fr)) (he : 31 ≠ e) (hg : w.grownBy w' (some M)) : w'.ownsRow B e size v m xs :=
  ho.kept hg (by
    rcases ho.2 with ⟨rfl, _⟩ | ⟨g, cap, cur, rfl, _, h, _⟩
    · exact .inl rfl
    · refine .inr fun e2 => ?_
      have e3 : g = M := by simpa [Value.ownBlock] using e2
      rw [e3, hM] at h
      cases h
      exact he rfl)
theorem grown_trans {a b c : World} {r s : Option Nat} (h : a.grownBy b r) (k : b.grownBy c s) (hs : ∀ j, j < a.heap.size → some j ≠ r → some j ≠ s) : a.grownBy c r :=
  ⟨k.os.trans h.os, k.tape.trans h.tape, k.output.trans h.output, Nat.le_trans h.size k.size, fun j hj hne => (k.block j (Nat.lt_of_lt_of_le hj h.size) (hs j hj hne)).trans (h.block j hj hne)⟩
theorem own_lower {w : World} {B B' size n : Nat} {v : Value} {e : TypeId} {xs : List Value} (h : w.ownsRow B e size v n xs) (hb : B' ≤ B) : w.ownsRow B' e size v n xs :=
  ⟨h.1, h.2.imp id fun ⟨g, cap, cur, h1, h2, h3⟩ => ⟨g, cap, cur, h1, Nat.le_trans hb h2, h3⟩⟩
theorem own_shape {w : World} {B n : Nat} {v : Value} {e : TypeId} {xs : List Value} (ho : w.ownsRow B e 1 v n xs) : ∃ a cap, v = .slice a n cap := by
  rcases ho.2 with ⟨rfl, e⟩ | ⟨g, cap, cur, rfl, h2⟩
  · exact ⟨none, 0, by rw [e]⟩
  · exact ⟨_, _, rfl⟩
/-- what is one's own lies behind all that was there -/
theorem grown_own {w w1 w2 : World} {r : Option Nat} {size n : Nat} {v : Value} {e : TypeId} {xs : List Value} (h : w.grownBy w1 r) (ho : w1.ownsRow w.heap.size e size v n xs) (hg : w1.grownBy w2 v.ownBlock) : w.grownBy w2 r :=
  ⟨hg.os.trans h.os, hg.tape.trans h.tape, hg.output.trans h.output, Nat.le_trans h.size hg.size, fun k hk hne => (hg.block k (Nat.lt_of_lt_of_le hk h.size) (fun e1 => by have := (ho.lt k e1.symm).1; omega)).trans (h.block k hk hne)⟩
/-- a cell of a row -/
theorem RowsW.get {w : World} {M n c : Nat} {f : Nat → Option Addr × Nat} {R : Mt} (h : RowsW w M n c f R) {k j : Nat} (hk : k < n) (hj : j < c) :
    ∃ b off m, f k = (some ⟨b, off, none⟩, m) ∧ c ≤ m ∧ b ≠ M ∧ b < w.heap.size ∧ w.cell? ⟨M, k, none⟩ = some (.slice (some ⟨b, off, none⟩) c m) ∧ w.cell? ⟨b, off + j, none⟩ = some (.int .u8 ((R k j).toNat : Int)) := by
  obtain ⟨b, off, e, hb, hc⟩ := row8_cell (h.row k hk).row8 (j := j) (by rw [rowF_len]; exact hj)
  have h2 := hc j (by rw [rowF_len]; exact hj)
  rw [at8_rowF hj] at h2
  have h1 := cellAt h.blk k _ (slF_at hk)
  rw [e] at h1
  refine ⟨b, off, (f k).2, by rw [← e], h.cap k hk, fun e => ?_, hb, h1, h2⟩
  rw [e, cell_of_row w M _ _ _ _ h.blk] at h2
  obtain ⟨_, _, _, h3⟩ := slF_kind h2
  cases h3
end Go.Proofs.YtoalbopcapgojaaDoor

/- What each operation of package prog's Meaning does to its rows. -/
namespace Go.Proofs.YtoalbopcapgojaaDoor
open Go.RowKit Gf
set_option linter.unusedVariables false
set_option maxRecDepth 20000
set_option linter.unusedSimpArgs false
def svO (n : Nat) (g : Nat → Option (Option Addr × Nat)) (d : Nat) : Value := match g d with | some p => .slice p.1 n p.2 | none => .slice none 0 0
def slO (no n : Nat) (g : Nat → Option (Option Addr × Nat)) : Array Value := ((List.range no).map (svO n g)).toArray
theorem slO_size (no n : Nat) (g : Nat → Option (Option Addr × Nat)) : (slO no n g).size = no := by simp [slO]
theorem slO_at {no n d : Nat} {g : Nat → Option (Option Addr × Nat)} (h : d < no) : (slO no n g)[d]? = some (svO n g d) := by simp [slO, h]
theorem slO_set {no n d : Nat} {g : Nat → Option (Option Addr × Nat)} (p : Option Addr × Nat) (h : d < no) : (slO no n g).setIfInBounds d (.slice p.1 n p.2) = slO no n (fun x => if x = d then some p else g x) := by
  apply Array.ext_getElem?
  intro i
  rw [Array.getElem?_setIfInBounds]
  by_cases hi : i < no
  · rw [slO_at hi, slO_at hi, slO_size]
    by_cases e : d = i
    · subst e; simp [hi, svO]
    · simp [e, svO, show ¬ i = d from fun h => e h.symm]
  · rw [Array.getElem?_eq_none (by rw [slO_size]; omega), Array.getElem?_eq_none (by rw [slO_size]; omega), slO_size]
    simp; omega
/-- the machine of Meaning in memory -/
structure CmbW (B : Nat) (w : World) (cb M Q n rg no : Nat) (f : Nat → Option Addr × Nat) (g : Nat → Option (Option Addr × Nat)) (R O : Regs) : Prop where
  blk : w.heap[cb]? = some (.cells #[.int .i64 n, .slice (some ⟨M, 0, none⟩) rg rg, .slice (some ⟨Q, 0, none⟩) no no] 80 (0, 0))
  regs : RowsW w M rg n f (fun k => R (k : Int))
  outs : w.heap[Q]? = some (.cells (slO no n g) 31 (0, 0))
  out : ∀ d, d < no → ∀ p, g d = some p → Row8T w p.1 (rowF n (O (d : Int))) ∧ n ≤ p.2 ∧ (p.1 = none → p.2 = 0)
  hb : B ≤ cb
  hM : B ≤ M
  hQ : B ≤ Q
  hMQ : M ≠ Q
  hcM : cb ≠ M
  hcQ : cb ≠ Q
theorem CmbW.below {B : Nat} {w w' : World} {cb M Q n rg no : Nat} {f : Nat → Option Addr × Nat} {g : Nat → Option (Option Addr × Nat)} {R O : Regs} (h : CmbW B w cb M Q n rg no f g R O) (hb : Below w.heap.size w w') : CmbW B w' cb M Q n rg no f g R O :=
  { h with blk := heap_later h.blk hb, regs := h.regs.below hb, outs := heap_later h.outs hb, out := fun d hd p hp => ⟨row8T_below (h.out d hd p hp).1 hb, (h.out d hd p hp).2⟩ }
theorem CmbW.drew {B : Nat} {w : World} {cb M Q n rg no : Nat} {f : Nat → Option Addr × Nat} {g : Nat → Option (Option Addr × Nat)} {R O : Regs} (h : CmbW B w cb M Q n rg no f g R O) : CmbW B w.drew cb M Q n rg no f g R O :=
  { h with blk := h.blk, regs := h.regs.drew, outs := h.outs, out := h.out }
theorem CmbW.put {B : Nat} {w : World} {cb M Q n rg no : Nat} {f : Nat → Option Addr × Nat} {g : Nat → Option (Option Addr × Nat)} {R O : Regs} (h : CmbW B w cb M Q n rg no f g R O) {k : Nat} (hk : k < rg) {a : Option Addr} {m : Nat} {v : Nat → F} (ha : Row8T w a (rowF n v)) (hm : n ≤ m) (hn : a = none → m = 0) :
    CmbW B (w.setCell ⟨M, k, none⟩ (.slice a n m)) cb M Q n rg no (fun x => if x = k then (a, m) else f x) g (setR R k v) O := by
  have hg : w.grownBy (w.setCell ⟨M, k, none⟩ (.slice a n m)) (some M) := grownBy_setCell (World.grownBy.refl _ _) _
  refine { h with blk := ?_, regs := ?_, outs := ?_, out := fun d hd p hp => ⟨?_, (h.out d hd p hp).2⟩ }
  · exact (heap_setCell_other _ _ _ _ h.hcM).trans h.blk
  · refine (h.regs.put hk ha hm hn).congr fun x hx j hj => ?_
    simp only [setR]
    by_cases e : x = k
    · simp [e]
    · simp [e, show ¬ (x : Int) = (k : Int) by omega]
  · exact (heap_setCell_other _ _ _ _ (fun e => h.hMQ e.symm)).trans h.outs
  · exact row8_other h.regs.blk hg (h.out d hd p hp).1
theorem CmbW.putO {B : Nat} {w : World} {cb M Q n rg no : Nat} {f : Nat → Option Addr × Nat} {g : Nat → Option (Option Addr × Nat)} {R O : Regs} (h : CmbW B w cb M Q n rg no f g R O) {d k : Nat} (hd : d < no) (hk : k < rg) :
    CmbW B (w.setCell ⟨Q, d, none⟩ (.slice (f k).1 n (f k).2)) cb M Q n rg no f (fun x => if x = d then some (f k) else g x) R (setR O d (R k)) := by
  have hg : w.grownBy (w.setCell ⟨Q, d, none⟩ (.slice (f k).1 n (f k).2)) (some Q) := grownBy_setCell (World.grownBy.refl _ _) _
  have hne : NoElems w (some Q) := noElems_some h.outs (by decide)
  refine { h with blk := ?_, regs := ?_, outs := ?_, out := fun x hx p hp => ?_ }
  · exact (heap_setCell_other _ _ _ _ h.hcQ).trans h.blk
  · exact ⟨(heap_setCell_other _ _ _ _ h.hMQ).trans h.regs.blk, fun x hx => row8T_grown (h.regs.row x hx) hg hne, h.regs.cap, h.regs.nil⟩
  · rw [heap_setCell_same _ _ _ _ _ _ h.outs, slO_set (f k) hd]
  · by_cases e : x = d
    · subst e
      simp only [if_true, Option.some.injEq] at hp
      subst hp
      rw [setR_same]
      exact ⟨row8T_grown (h.regs.row k hk) hg hne, h.regs.cap k hk, h.regs.nil k hk⟩
    · simp only [e, if_false] at hp
      rw [setR_other (show (x : Int) ≠ (d : Int) by omega)]
      exact ⟨row8T_grown (h.out x hx p hp).1 hg hne, (h.out x hx p hp).2⟩
/-- a unit column: input number s of those that there are -/
def unX (s : Int) : Nat → F := fun b => if (b : Int) = s then 1 else 0
theorem zeros_rowF (n : Nat) : zeros n = rowF n (fun _ => 0) := by
  apply List.ext_getElem?
  intro i
  by_cases h : i < n <;> simp [zeros, rowF, h]
theorem zeros_set (n s : Nat) : (zeros n).set s 1 = rowF n (unX s) := by
  apply List.ext_getElem?
  intro i
  rw [List.getElem?_set]
  by_cases h : i < n
  · by_cases e : s = i
    · subst e; simp [zeros, rowF, unX, h]
    · simp [zeros, rowF, unX, h, e, show ¬ (i : Int) = (s : Int) by omega]
  · by_cases e : s = i
    · subst e; simp [zeros, rowF, h]
    · simp [zeros, rowF, h, e]
theorem nothing_F (cb n : Nat) (w : World) (hn : n ≤ 64) (hc : w.cell? ⟨cb, 0, none⟩ = some (.int .i64 n)) :
    Calls Tryd.prog 37 #[.pointer (some ⟨cb, 0, none⟩)] w fun e w' => e = .returned (.slice (some ⟨w.heap.size, 0, none⟩) n n) ∧ w' = w.alloc (.cells (vfs (zeros n)) 5) := by
  have hmk := run_make8 n (by omega) w
  go_enter Tryd.func37, Tryd.ntmps37
  go_wp2
  go_ret
  exact ⟨rfl, rfl⟩
set_option maxRecDepth 100000 in
set_option maxHeartbeats 4000000 in
theorem does_load (B cb M Q n rg no : Nat) (f : Nat → Option Addr × Nat) (g : Nat → Option (Option Addr × Nat)) (R O : Regs) (op : Int) (dst : Nat) (src : Nat) (cv : Int) (hd : dst < rg) (hs : src < n) (w : World) (hn : n ≤ 64) (hrg : rg ≤ 64) (hno : no ≤ 64) (hBw : B ≤ w.heap.size) (h : CmbW B w cb M Q n rg no f g R O) :
    Calls Tryd.prog 80 #[.pointer (some ⟨cb, 0, none⟩), .agg #[.int .i64 op, .int .i64 (dst : Int), .int .i64 (src : Int), .int .u8 cv]] w fun e w' => e = .returned (.tuple #[]) ∧ (∃ f' g', CmbW B w' cb M Q n rg no f' g' (setR R (dst : Int) (unX (src : Int))) (O) ∧ g' = g) ∧ Below B w w' := by
  have hb0 : Below w.heap.size w (w.alloc (.cells #[.int .i64 op, .int .i64 (dst : Int), .int .i64 (src : Int), .int .u8 cv] 48)) := (Below.refl _ _).alloc (Nat.le_refl _) _
  have h0 := h.below hb0
  have HC0 : Hid _ := cellAt h0.blk 0 _ rfl
  have HH : Hid (CmbW B w cb M Q n rg no f g R O) := h
  clear h h0 hb0
  go_enter Tryd.func80, Tryd.ntmps80
  go_wp2_with fail
  refine Calls.mono (nothing_F cb n _ hn HC0.out) ?_
  rintro e w1 ⟨rfl, hw1⟩
  have hA : Holds w1 [(w.heap.size + 1, .cells (vfs (zeros n)) 5), (w.heap.size, .cells #[.int .i64 op, .int .i64 (dst : Int), .int .i64 (src : Int), .int .u8 cv] 48)] := by
    rw [hw1]
    have h := holds_new (holds_new (holds_nil w) #[.int .i64 op, .int .i64 (dst : Int), .int .i64 (src : Int), .int .u8 cv] 48) (vfs (zeros n)) 5
    simp only [World.size_alloc] at h
    exact h
  have hB1 : Below w.heap.size w w1 := by rw [hw1]; exact ((Below.refl _ w).alloc (Nat.le_refl _) _).alloc (by simp) _
  have hz1 : w1.heap.size = w.heap.size + 2 := by rw [hw1]; simp
  rw [World.size_alloc]
  have c0 : w1.cell? ⟨w.heap.size + 1, src, none⟩ = some (.int .u8 0) := by
    have := cellAt (holds_at hA 0 rfl) src _ (vfs_get (zeros n) src (by rw [zeros_len]; exact hs))
    rw [at8_zeros] at this
    exact this
  have d0 : w1.frozen? ⟨w.heap.size + 1, src, none⟩ = false := frozen_of_row _ _ _ _ _ (holds_at hA 0 rfl)
  have s2 := cellAt (holds_at hA 1 rfl) 2 _ rfl
  obtain ⟨W, hW⟩ : ∃ W, W = w1.setCell ⟨w.heap.size + 1, src, none⟩ (.int .u8 1) := ⟨_, rfl⟩
  have hrow : W.heap[w.heap.size + 1]? = some (.cells (vfs (rowF n (unX (src : Int)))) 5 (0, 0)) := by
    rw [hW, heap_setCell_same _ _ _ _ _ _ (holds_at hA 0 rfl), ← zeros_set]
    have := vfs_set (zeros n) src 1
    rw [← this]; rfl
  have hbox : W.heap[w.heap.size]? = some (.cells #[.int .i64 op, .int .i64 (dst : Int), .int .i64 (src : Int), .int .u8 cv] 48 (0, 0)) := by
    rw [hW]; exact (heap_setCell_other _ _ _ _ (by show w.heap.size ≠ w.heap.size + 1; omega)).trans (holds_at hA 1 rfl)
  have hBW : Below w.heap.size w W := by rw [hW]; exact hB1.setCell (p := ⟨w.heap.size + 1, src, none⟩) (by show w.heap.size ≤ w.heap.size + 1; omega) _
  have hCW := HH.out.below hBW
  have HROW : Hid _ := hrow
  have HBOX : Hid _ := hbox
  have HBW : Hid _ := hBW
  have HCW : Hid _ := hCW
  have HWE : Hid _ := hW
  clear hA hB1 hw1 hrow hbox hBW hCW hW hz1
  go_wp2
  rw [← HWE.out]
  clear c0 d0 s2 HWE
  have k1 := cellAt HCW.out.blk 1 _ rfl
  have k2 := cellAt HBOX.out 1 _ rfl
  have k3 := cellAt HCW.out.regs.blk dst _ (slF_at hd)
  have k4 : W.frozen? ⟨M, dst, none⟩ = false := frozen_of_row _ _ _ _ _ HCW.out.regs.blk
  go_region
  have HP : Hid _ := HCW.out.drew.put hd (a := some ⟨w.heap.size + 1, 0, none⟩) (m := n) (v := unX (src : Int)) (row8T_own (w := W.drew) HROW.out) (Nat.le_refl _) (fun e => by cases e)
  have HPB : Hid _ := ((HBW.out.mono hBw).drew).setCell (p := ⟨M, dst, none⟩) HCW.out.hM (.slice (some ⟨w.heap.size + 1, 0, none⟩) n n)
  clear k1 k2 k3 k4
  go_wp2
  exact ⟨rfl, .tuple #[], by simp [results, Tryd.results80, go_sem], rfl, ⟨_, _, HP.out, rfl⟩, HPB.out⟩
set_option maxRecDepth 100000 in
set_option maxHeartbeats 4000000 in
theorem does_zero (B cb M Q n rg no : Nat) (f : Nat → Option Addr × Nat) (g : Nat → Option (Option Addr × Nat)) (R O : Regs) (op : Int) (dst : Nat) (src cv : Int) (hd : dst < rg) (w : World) (hn : n ≤ 64) (hrg : rg ≤ 64) (hno : no ≤ 64) (hBw : B ≤ w.heap.size) (h : CmbW B w cb M Q n rg no f g R O) :
    Calls Tryd.prog 82 #[.pointer (some ⟨cb, 0, none⟩), .agg #[.int .i64 op, .int .i64 (dst : Int), .int .i64 src, .int .u8 cv]] w fun e w' => e = .returned (.tuple #[]) ∧ (∃ f' g', CmbW B w' cb M Q n rg no f' g' (setR R (dst : Int) (fun _ => 0)) (O) ∧ g' = g) ∧ Below B w w' := by
  obtain ⟨W, hW⟩ : ∃ W, W = w.alloc (.cells #[.int .i64 op, .int .i64 (dst : Int), .int .i64 src, .int .u8 cv] 48) := ⟨_, rfl⟩
  have hBW : Below w.heap.size w W := by rw [hW]; exact (Below.refl _ _).alloc (Nat.le_refl _) _
  have hbox : W.heap[w.heap.size]? = some (.cells #[.int .i64 op, .int .i64 (dst : Int), .int .i64 src, .int .u8 cv] 48 (0, 0)) := by rw [hW]; exact heap_alloc_last _ _
  have HNE : Hid (w.heap.size ≠ M) := by have := ltHeap h.regs.blk; show _ ≠ _; omega
  have HCW : Hid _ := h.below hBW
  have HBOX : Hid _ := hbox
  have HBW : Hid _ := hBW
  have HWE : Hid _ := hW
  clear h hBW hbox hW
  have HK1 : Hid (∀ u, W.grownBy u (some M) → u.cell? ⟨cb, 1, none⟩ = some (.slice (some ⟨M, 0, none⟩) rg rg)) := fun u hu => cellAt ((hu.block cb (ltHeap HCW.out.blk) (by simpa using HCW.out.hcM)).trans HCW.out.blk) 1 _ rfl
  have HS0 : Hid (∀ u, W.grownBy u (some M) → u.cell? ⟨w.heap.size, 1, none⟩ = some (.int .i64 (dst : Int))) := fun u hu => cellAt ((hu.block w.heap.size (ltHeap HBOX.out) (by simpa using HNE.out)).trans HBOX.out) 1 _ rfl
  go_enter Tryd.func82, Tryd.ntmps82
  go_wp2
  rw [← HWE.out]
  clear HWE
  refine wp_region_noPanic ?_
  refine wp_region_held_drew (S := fun u => W.grownBy u (some M)) (by kernel_rfl) ?_ (fun hHeld => ?_)
  · exact grownBy_drew (World.grownBy.refl _ _)
  refine wpAnyH_take (i := 0) (oi := { dst := some 4, op := Op.move (Operand.tmp 0), type := 88, pos := "prog.go:142", after := #[], guard := none }) (v := ?_) rfl (by kernel_rfl) (by kernel_rfl) (by kernel_rfl) (fun _ _ _ h => h) (Or.inl ⟨by rfl, ?_⟩) hHeld ?_
  rotate_left
  · intro u hSw
    go_simp
    try with_reducible rfl
  try simp only [Act.put, List.setIfInBounds_toArray, List.set_cons_zero, List.set_cons_succ]
  refine wpAnyH_take (i := 1) (oi := { dst := some 5, op := Op.nilCheck (Operand.tmp 4), type := 0, pos := "prog.go:142", after := #[{ on := 0, ground := Ground.data }], guard := none }) (v := ?_) rfl (by kernel_rfl) (by kernel_rfl) (by kernel_rfl) (fun _ _ _ h => h) (Or.inl ⟨by rfl, ?_⟩) hHeld ?_
  rotate_left
  · intro u hSw
    go_simp
    try with_reducible rfl
  try simp only [Act.put, List.setIfInBounds_toArray, List.set_cons_zero, List.set_cons_succ]
  refine wpAnyH_take (i := 2) (oi := { dst := some 6, op := Op.fieldAddr 80 (Operand.tmp 5) 1, type := 0, pos := "prog.go:142", after := #[{ on := 1, ground := Ground.data }], guard := none }) (v := ?_) rfl (by kernel_rfl) (by kernel_rfl) (by kernel_rfl) (fun _ _ _ h => h) (Or.inl ⟨by rfl, ?_⟩) hHeld ?_
  rotate_left
  · intro u hSw
    go_simp
    try with_reducible rfl
  try simp only [Act.put, List.setIfInBounds_toArray, List.set_cons_zero, List.set_cons_succ]
  refine wpAnyH_take (i := 3) (oi := { dst := some 7, op := Op.load 68 (Operand.tmp 6), type := 68, pos := "prog.go:142", after := #[{ on := 2, ground := Ground.data }], guard := none }) (v := ?_) rfl (by kernel_rfl) (by kernel_rfl) (by kernel_rfl) (fun _ _ _ h => h) (Or.inl ⟨by rfl, ?_⟩) hHeld ?_
  rotate_left
  · intro u hSw
    have k9 := HK1.out u hSw
    go_simp
    try with_reducible rfl
  try simp only [Act.put, List.setIfInBounds_toArray, List.set_cons_zero, List.set_cons_succ]
  refine wpAnyH_take (i := 4) (oi := { dst := some 8, op := Op.fieldAddr 48 (Operand.tmp 3) 1, type := 0, pos := "prog.go:142", after := #[], guard := none }) (v := ?_) rfl (by kernel_rfl) (by kernel_rfl) (by kernel_rfl) (fun _ _ _ h => h) (Or.inl ⟨by rfl, ?_⟩) hHeld ?_
  rotate_left
  · intro u hSw
    go_simp
    try with_reducible rfl
  try simp only [Act.put, List.setIfInBounds_toArray, List.set_cons_zero, List.set_cons_succ]
  refine wpAnyH_take (i := 5) (oi := { dst := some 9, op := Op.load 3 (Operand.tmp 8), type := 3, pos := "prog.go:142", after := #[{ on := 4, ground := Ground.data }], guard := none }) (v := ?_) rfl (by kernel_rfl) (by kernel_rfl) (by kernel_rfl) (fun _ _ _ h => h) (Or.inl ⟨by rfl, ?_⟩) hHeld ?_
  rotate_left
  · intro u hSw
    have k9 := HS0.out u hSw
    go_simp
    try with_reducible rfl
  try simp only [Act.put, List.setIfInBounds_toArray, List.set_cons_zero, List.set_cons_succ]
  refine wpAnyH_take (i := 6) (oi := { dst := some 10, op := Op.move (Operand.tmp 0), type := 88, pos := "prog.go:142", after := #[], guard := none }) (v := ?_) rfl (by kernel_rfl) (by kernel_rfl) (by kernel_rfl) (fun _ _ _ h => h) (Or.inl ⟨by rfl, ?_⟩) hHeld ?_
  rotate_left
  · intro u hSw
    go_simp
    try with_reducible rfl
  try simp only [Act.put, List.setIfInBounds_toArray, List.set_cons_zero, List.set_cons_succ]
  refine wpAnyH_ready (rs := [7]) (by kernel_rfl) (by simp) ?_
  refine (AllReadyH.cons (o := { dst := some 11, op := Op.call { callee := Callee.value (Operand.func 37), args := #[Operand.tmp 10], argTypes := #[88] }, type := 31, pos := "prog.go:142", after := #[{ on := 6, ground := Ground.data }], guard := none }) rfl (fun K hK => ?_) AllReadyH.nil)
  go_simp
  refine Calls.mono (nothing_F cb n _ hn (cellAt HCW.out.drew.blk 0 _ rfl)) ?_
  rintro e w6 ⟨rfl, hw6⟩
  have hb6 : Below W.drew.heap.size W.drew w6 := by rw [hw6]; exact (Below.refl _ _).alloc (Nat.le_refl _) _
  have hr6 : w6.heap[W.heap.size]? = some (.cells (vfs (zeros n)) 5 (0, 0)) := by rw [hw6]; exact heap_alloc_last _ _
  have hC6 := HCW.out.drew.below hb6
  have hS6 : W.grownBy w6 (some M) := grown_below (grownBy_drew (World.grownBy.refl _ _)) hb6
  clear hw6
  go_wp2_with fail
  refine hK.out _ _ ?_ (fun hHeld => ?_)
  · exact hS6
  clear hK K
  try simp only [Act.put, List.setIfInBounds_toArray, List.set_cons_zero, List.set_cons_succ]
  refine wpAnyH_take (i := 8) (oi := { dst := some 12, op := Op.indexAddr 68 (Operand.tmp 7) (Operand.tmp 9), type := 0, pos := "prog.go:142", after := #[{ on := 3, ground := Ground.data }, { on := 5, ground := Ground.data }, { on := 0, ground := Ground.phase }, { on := 1, ground := Ground.phase }, { on := 2, ground := Ground.phase }, { on := 3, ground := Ground.phase }, { on := 4, ground := Ground.phase }, { on := 5, ground := Ground.phase }, { on := 6, ground := Ground.phase }, { on := 7, ground := Ground.phase }], guard := none }) (v := ?_) rfl (by kernel_rfl) (by kernel_rfl) (by kernel_rfl) (fun _ _ _ h => h) (Or.inl ⟨by rfl, ?_⟩) hHeld ?_
  rotate_left
  · intro u hSw
    go_simp
    try with_reducible rfl
  try simp only [Act.put, List.setIfInBounds_toArray, List.set_cons_zero, List.set_cons_succ]
  refine wpAnyH_ready (rs := [9]) (by kernel_rfl) (by simp) ?_
  refine (AllReadyH.cons (o := { dst := none, op := Op.store 31 (Operand.tmp 12) (Operand.tmp 11), type := 0, pos := "prog.go:142", after := #[{ on := 8, ground := Ground.data }, { on := 7, ground := Ground.data }, { on := 7, ground := Ground.chain }, { on := 0, ground := Ground.phase }, { on := 1, ground := Ground.phase }, { on := 2, ground := Ground.phase }, { on := 3, ground := Ground.phase }, { on := 4, ground := Ground.phase }, { on := 5, ground := Ground.phase }, { on := 6, ground := Ground.phase }, { on := 7, ground := Ground.phase }], guard := none }) rfl (fun K hK => ?_) AllReadyH.nil)
  have hblk := hC6.regs.blk
  have d8 : w6.frozen? ⟨M, dst, none⟩ = false := frozen_of_row _ _ _ _ _ hblk
  have d9 := cellAt hblk dst _ (slF_at hd)
  go_simp
  refine hK.out _ _ ?_ (fun hHeld => ?_)
  · exact grownBy_setCell hS6 _
  clear hK K
  try simp only [Act.put, List.setIfInBounds_toArray, List.set_cons_zero, List.set_cons_succ]
  refine wpAnyH_done (by kernel_rfl) ?_ _
  refine NoPanic.normal ?_
  have HP : Hid _ := hC6.put hd (a := some ⟨W.heap.size, 0, none⟩) (m := n) (v := fun _ => 0) (by rw [← zeros_rowF]; exact row8T_own hr6) (Nat.le_refl _) (fun e => by cases e)
  have HPB : Hid _ := (((HBW.out.mono hBw).drew).trans (hb6.mono (by have := HBW.out.size; simp; omega))).setCell (p := ⟨M, dst, none⟩) HCW.out.hM (.slice (some ⟨W.heap.size, 0, none⟩) n n)
  go_wp2
  exact ⟨rfl, .tuple #[], by simp [results, Tryd.results82, go_sem], rfl, ⟨_, _, HP.out, rfl⟩, HPB.out⟩
set_option maxRecDepth 100000 in
set_option maxHeartbeats 4000000 in
theorem does_mul (B cb M Q n rg no : Nat) (f : Nat → Option Addr × Nat) (g : Nat → Option (Option Addr × Nat)) (R O : Regs) (op : Int) (dst : Nat) (src : Int) (c : F) (hd : dst < rg) (w : World) (hn : n ≤ 64) (hrg : rg ≤ 64) (hno : no ≤ 64) (hBw : B ≤ w.heap.size) (h : CmbW B w cb M Q n rg no f g R O) :
    Calls Tryd.prog 84 #[.pointer (some ⟨cb, 0, none⟩), .agg #[.int .i64 op, .int .i64 (dst : Int), .int .i64 src, .int .u8 (c.toNat : Int)]] w fun e w' => e = .returned (.tuple #[]) ∧ (∃ f' g', CmbW B w' cb M Q n rg no f' g' (setR R (dst : Int) (fun b => gm c (R (dst : Int) b))) (O) ∧ g' = g) ∧ Below B w w' := by
  obtain ⟨W, hW⟩ : ∃ W, W = w.alloc (.cells #[.int .i64 op, .int .i64 (dst : Int), .int .i64 src, .int .u8 (c.toNat : Int)] 48) := ⟨_, rfl⟩
  have hBW : Below w.heap.size w W := by rw [hW]; exact (Below.refl _ _).alloc (Nat.le_refl _) _
  have hbox : W.heap[w.heap.size]? = some (.cells #[.int .i64 op, .int .i64 (dst : Int), .int .i64 src, .int .u8 (c.toNat : Int)] 48 (0, 0)) := by rw [hW]; exact heap_alloc_last _ _
  have HNE : Hid (w.heap.size ≠ M) := by have := ltHeap h.regs.blk; show _ ≠ _; omega
  have HCW : Hid _ := h.below hBW
  have HBOX : Hid _ := hbox
  have HBW : Hid _ := hBW
  have HWE : Hid _ := hW
  clear h hBW hbox hW
  have HK1 : Hid (∀ u, W.grownBy u (some M) → u.cell? ⟨cb, 1, none⟩ = some (.slice (some ⟨M, 0, none⟩) rg rg)) := fun u hu => cellAt ((hu.block cb (ltHeap HCW.out.blk) (by simpa using HCW.out.hcM)).trans HCW.out.blk) 1 _ rfl
  have HS0 : Hid (∀ u, W.grownBy u (some M) → u.cell? ⟨w.heap.size, 1, none⟩ = some (.int .i64 (dst : Int))) := fun u hu => cellAt ((hu.block w.heap.size (ltHeap HBOX.out) (by simpa using HNE.out)).trans HBOX.out) 1 _ rfl
  have HS2 : Hid (∀ u, W.grownBy u (some M) → u.cell? ⟨w.heap.size, 2, none⟩ = some (.int .i64 src)) := fun u hu => cellAt ((hu.block w.heap.size (ltHeap HBOX.out) (by simpa using HNE.out)).trans HBOX.out) 2 _ rfl
  have HS3 : Hid (∀ u, W.grownBy u (some M) → u.cell? ⟨w.heap.size, 3, none⟩ = some (.int .u8 (c.toNat : Int))) := fun u hu => cellAt ((hu.block w.heap.size (ltHeap HBOX.out) (by simpa using HNE.out)).trans HBOX.out) 3 _ rfl
  go_enter Tryd.func84, Tryd.ntmps84
  go_wp2
  rw [← HWE.out]
  clear HWE
  refine wp_region_noPanic ?_
  refine wp_region_held_drew (S := fun u => W.grownBy u (some M)) (by kernel_rfl) ?_ (fun hHeld => ?_)
  · exact grownBy_drew (World.grownBy.refl _ _)
  refine wpAnyH_take (i := 0) (oi := { dst := some 4, op := Op.move (Operand.tmp 0), type := 88, pos := "prog.go:146", after := #[], guard := none }) (v := ?_) rfl (by kernel_rfl) (by kernel_rfl) (by kernel_rfl) (fun _ _ _ h => h) (Or.inl ⟨by rfl, ?_⟩) hHeld ?_
  rotate_left
  · intro u hSw
    go_simp
    try with_reducible rfl
  try simp only [Act.put, List.setIfInBounds_toArray, List.set_cons_zero, List.set_cons_succ]
  refine wpAnyH_take (i := 1) (oi := { dst := some 5, op := Op.nilCheck (Operand.tmp 4), type := 0, pos := "prog.go:146", after := #[{ on := 0, ground := Ground.data }], guard := none }) (v := ?_) rfl (by kernel_rfl) (by kernel_rfl) (by kernel_rfl) (fun _ _ _ h => h) (Or.inl ⟨by rfl, ?_⟩) hHeld ?_
  rotate_left
  · intro u hSw
    go_simp
    try with_reducible rfl
  try simp only [Act.put, List.setIfInBounds_toArray, List.set_cons_zero, List.set_cons_succ]
  refine wpAnyH_take (i := 2) (oi := { dst := some 6, op := Op.fieldAddr 80 (Operand.tmp 5) 1, type := 0, pos := "prog.go:146", after := #[{ on := 1, ground := Ground.data }], guard := none }) (v := ?_) rfl (by kernel_rfl) (by kernel_rfl) (by kernel_rfl) (fun _ _ _ h => h) (Or.inl ⟨by rfl, ?_⟩) hHeld ?_
  rotate_left
  · intro u hSw
    go_simp
    try with_reducible rfl
  try simp only [Act.put, List.setIfInBounds_toArray, List.set_cons_zero, List.set_cons_succ]
  refine wpAnyH_take (i := 3) (oi := { dst := some 7, op := Op.load 68 (Operand.tmp 6), type := 68, pos := "prog.go:146", after := #[{ on := 2, ground := Ground.data }], guard := none }) (v := ?_) rfl (by kernel_rfl) (by kernel_rfl) (by kernel_rfl) (fun _ _ _ h => h) (Or.inl ⟨by rfl, ?_⟩) hHeld ?_
  rotate_left
  · intro u hSw
    have k9 := HK1.out u hSw
    go_simp
    try with_reducible rfl
  try simp only [Act.put, List.setIfInBounds_toArray, List.set_cons_zero, List.set_cons_succ]
  refine wpAnyH_take (i := 4) (oi := { dst := some 8, op := Op.fieldAddr 48 (Operand.tmp 3) 1, type := 0, pos := "prog.go:146", after := #[], guard := none }) (v := ?_) rfl (by kernel_rfl) (by kernel_rfl) (by kernel_rfl) (fun _ _ _ h => h) (Or.inl ⟨by rfl, ?_⟩) hHeld ?_
  rotate_left
  · intro u hSw
    go_simp
    try with_reducible rfl
  try simp only [Act.put, List.setIfInBounds_toArray, List.set_cons_zero, List.set_cons_succ]
  refine wpAnyH_take (i := 5) (oi := { dst := some 9, op := Op.load 3 (Operand.tmp 8), type := 3, pos := "prog.go:146", after := #[{ on := 4, ground := Ground.data }], guard := none }) (v := ?_) rfl (by kernel_rfl) (by kernel_rfl) (by kernel_rfl) (fun _ _ _ h => h) (Or.inl ⟨by rfl, ?_⟩) hHeld ?_
  rotate_left
  · intro u hSw
    have k9 := HS0.out u hSw
    go_simp
    try with_reducible rfl
  try simp only [Act.put, List.setIfInBounds_toArray, List.set_cons_zero, List.set_cons_succ]
  refine wpAnyH_take (i := 6) (oi := { dst := some 10, op := Op.fieldAddr 48 (Operand.tmp 3) 3, type := 0, pos := "prog.go:146", after := #[], guard := none }) (v := ?_) rfl (by kernel_rfl) (by kernel_rfl) (by kernel_rfl) (fun _ _ _ h => h) (Or.inl ⟨by rfl, ?_⟩) hHeld ?_
  rotate_left
  · intro u hSw
    go_simp
    try with_reducible rfl
  try simp only [Act.put, List.setIfInBounds_toArray, List.set_cons_zero, List.set_cons_succ]
  refine wpAnyH_take (i := 7) (oi := { dst := some 11, op := Op.load 5 (Operand.tmp 10), type := 5, pos := "prog.go:146", after := #[{ on := 6, ground := Ground.data }], guard := none }) (v := ?_) rfl (by kernel_rfl) (by kernel_rfl) (by kernel_rfl) (fun _ _ _ h => h) (Or.inl ⟨by rfl, ?_⟩) hHeld ?_
  rotate_left
  · intro u hSw
    have k9 := HS3.out u hSw
    go_simp
    try with_reducible rfl
  try simp only [Act.put, List.setIfInBounds_toArray, List.set_cons_zero, List.set_cons_succ]
  refine wpAnyH_take (i := 8) (oi := { dst := some 12, op := Op.move (Operand.tmp 0), type := 88, pos := "prog.go:146", after := #[], guard := none }) (v := ?_) rfl (by kernel_rfl) (by kernel_rfl) (by kernel_rfl) (fun _ _ _ h => h) (Or.inl ⟨by rfl, ?_⟩) hHeld ?_
  rotate_left
  · intro u hSw
    go_simp
    try with_reducible rfl
  try simp only [Act.put, List.setIfInBounds_toArray, List.set_cons_zero, List.set_cons_succ]
  refine wpAnyH_take (i := 9) (oi := { dst := some 13, op := Op.nilCheck (Operand.tmp 12), type := 0, pos := "prog.go:146", after := #[{ on := 8, ground := Ground.data }], guard := none }) (v := ?_) rfl (by kernel_rfl) (by kernel_rfl) (by kernel_rfl) (fun _ _ _ h => h) (Or.inl ⟨by rfl, ?_⟩) hHeld ?_
  rotate_left
  · intro u hSw
    go_simp
    try with_reducible rfl
  try simp only [Act.put, List.setIfInBounds_toArray, List.set_cons_zero, List.set_cons_succ]
  refine wpAnyH_take (i := 10) (oi := { dst := some 14, op := Op.fieldAddr 80 (Operand.tmp 13) 1, type := 0, pos := "prog.go:146", after := #[{ on := 9, ground := Ground.data }], guard := none }) (v := ?_) rfl (by kernel_rfl) (by kernel_rfl) (by kernel_rfl) (fun _ _ _ h => h) (Or.inl ⟨by rfl, ?_⟩) hHeld ?_
  rotate_left
  · intro u hSw
    go_simp
    try with_reducible rfl
  try simp only [Act.put, List.setIfInBounds_toArray, List.set_cons_zero, List.set_cons_succ]
  refine wpAnyH_take (i := 11) (oi := { dst := some 15, op := Op.load 68 (Operand.tmp 14), type := 68, pos := "prog.go:146", after := #[{ on := 10, ground := Ground.data }], guard := none }) (v := ?_) rfl (by kernel_rfl) (by kernel_rfl) (by kernel_rfl) (fun _ _ _ h => h) (Or.inl ⟨by rfl, ?_⟩) hHeld ?_
  rotate_left
  · intro u hSw
    have k9 := HK1.out u hSw
    go_simp
    try with_reducible rfl
  try simp only [Act.put, List.setIfInBounds_toArray, List.set_cons_zero, List.set_cons_succ]
  refine wpAnyH_take (i := 12) (oi := { dst := some 16, op := Op.fieldAddr 48 (Operand.tmp 3) 1, type := 0, pos := "prog.go:146", after := #[], guard := none }) (v := ?_) rfl (by kernel_rfl) (by kernel_rfl) (by kernel_rfl) (fun _ _ _ h => h) (Or.inl ⟨by rfl, ?_⟩) hHeld ?_
  rotate_left
  · intro u hSw
    go_simp
    try with_reducible rfl
  try simp only [Act.put, List.setIfInBounds_toArray, List.set_cons_zero, List.set_cons_succ]
  refine wpAnyH_take (i := 13) (oi := { dst := some 17, op := Op.load 3 (Operand.tmp 16), type := 3, pos := "prog.go:146", after := #[{ on := 12, ground := Ground.data }], guard := none }) (v := ?_) rfl (by kernel_rfl) (by kernel_rfl) (by kernel_rfl) (fun _ _ _ h => h) (Or.inl ⟨by rfl, ?_⟩) hHeld ?_
  rotate_left
  · intro u hSw
    have k9 := HS0.out u hSw
    go_simp
    try with_reducible rfl
  try simp only [Act.put, List.setIfInBounds_toArray, List.set_cons_zero, List.set_cons_succ]
  refine wpAnyH_take (i := 14) (oi := { dst := some 18, op := Op.indexAddr 68 (Operand.tmp 15) (Operand.tmp 17), type := 0, pos := "prog.go:146", after := #[{ on := 11, ground := Ground.data }, { on := 13, ground := Ground.data }], guard := none }) (v := ?_) rfl (by kernel_rfl) (by kernel_rfl) (by kernel_rfl) (fun _ _ _ h => h) (Or.inl ⟨by rfl, ?_⟩) hHeld ?_
  rotate_left
  · intro u hSw
    go_simp
    try with_reducible rfl
  try simp only [Act.put, List.setIfInBounds_toArray, List.set_cons_zero, List.set_cons_succ]
  refine wpAnyH_ready (rs := [15]) (by kernel_rfl) (by simp) ?_
  refine (AllReadyH.cons (o := { dst := some 19, op := Op.load 31 (Operand.tmp 18), type := 31, pos := "prog.go:146", after := #[{ on := 14, ground := Ground.data }], guard := none }) rfl (fun K hK => ?_) AllReadyH.nil)
  have m15 := cellAt HCW.out.drew.regs.blk dst _ (slF_at ‹dst < rg›)
  go_simp
  refine hK.out _ _ ?_ (fun hHeld => ?_)
  · exact grownBy_drew (World.grownBy.refl _ _)
  clear hK K
  try simp only [Act.put, List.setIfInBounds_toArray, List.set_cons_zero, List.set_cons_succ]
  refine wpAnyH_ready (rs := [16]) (by kernel_rfl) (by simp) ?_
  refine (AllReadyH.cons (o := { dst := some 20, op := Op.call { callee := Callee.value (Operand.func 99), args := #[Operand.tmp 11, Operand.tmp 19], argTypes := #[5, 31] }, type := 31, pos := "prog.go:146", after := #[{ on := 7, ground := Ground.data }, { on := 15, ground := Ground.data }], guard := none }) rfl (fun K hK => ?_) AllReadyH.nil)
  go_simp
  refine Calls.mono (scale_R c _ n _ _ _ (by omega) (HCW.out.drew.regs.row dst hd).row8) ?_
  rintro e w6 ⟨q6, rfl, hb6, hr6, hg6⟩
  have hC6 := HCW.out.drew.below hb6
  have hS6 : W.grownBy w6 (some M) := grown_below (grownBy_drew (World.grownBy.refl _ _)) hb6
  go_wp2_with fail
  refine hK.out _ _ ?_ (fun hHeld => ?_)
  · exact hS6
  clear hK K
  try simp only [Act.put, List.setIfInBounds_toArray, List.set_cons_zero, List.set_cons_succ]
  refine wpAnyH_take (i := 17) (oi := { dst := some 21, op := Op.indexAddr 68 (Operand.tmp 7) (Operand.tmp 9), type := 0, pos := "prog.go:146", after := #[{ on := 3, ground := Ground.data }, { on := 5, ground := Ground.data }, { on := 0, ground := Ground.phase }, { on := 1, ground := Ground.phase }, { on := 2, ground := Ground.phase }, { on := 3, ground := Ground.phase }, { on := 4, ground := Ground.phase }, { on := 5, ground := Ground.phase }, { on := 6, ground := Ground.phase }, { on := 7, ground := Ground.phase }, { on := 8, ground := Ground.phase }, { on := 9, ground := Ground.phase }, { on := 10, ground := Ground.phase }, { on := 11, ground := Ground.phase }, { on := 12, ground := Ground.phase }, { on := 13, ground := Ground.phase }, { on := 14, ground := Ground.phase }, { on := 15, ground := Ground.phase }, { on := 16, ground := Ground.phase }], guard := none }) (v := ?_) rfl (by kernel_rfl) (by kernel_rfl) (by kernel_rfl) (fun _ _ _ h => h) (Or.inl ⟨by rfl, ?_⟩) hHeld ?_
  rotate_left
  · intro u hSw
    go_simp
    try with_reducible rfl
  try simp only [Act.put, List.setIfInBounds_toArray, List.set_cons_zero, List.set_cons_succ]
  refine wpAnyH_ready (rs := [18]) (by kernel_rfl) (by simp) ?_
  refine (AllReadyH.cons (o := { dst := none, op := Op.store 31 (Operand.tmp 21) (Operand.tmp 20), type := 0, pos := "prog.go:146", after := #[{ on := 17, ground := Ground.data }, { on := 16, ground := Ground.data }, { on := 16, ground := Ground.chain }, { on := 0, ground := Ground.phase }, { on := 1, ground := Ground.phase }, { on := 2, ground := Ground.phase }, { on := 3, ground := Ground.phase }, { on := 4, ground := Ground.phase }, { on := 5, ground := Ground.phase }, { on := 6, ground := Ground.phase }, { on := 7, ground := Ground.phase }, { on := 8, ground := Ground.phase }, { on := 9, ground := Ground.phase }, { on := 10, ground := Ground.phase }, { on := 11, ground := Ground.phase }, { on := 12, ground := Ground.phase }, { on := 13, ground := Ground.phase }, { on := 14, ground := Ground.phase }, { on := 15, ground := Ground.phase }, { on := 16, ground := Ground.phase }], guard := none }) rfl (fun K hK => ?_) AllReadyH.nil)
  have hblk := hC6.regs.blk
  have d8 : w6.frozen? ⟨M, dst, none⟩ = false := frozen_of_row _ _ _ _ _ hblk
  have d9 := cellAt hblk dst _ (slF_at hd)
  go_simp
  refine hK.out _ _ ?_ (fun hHeld => ?_)
  · exact grownBy_setCell hS6 _
  clear hK K
  try simp only [Act.put, List.setIfInBounds_toArray, List.set_cons_zero, List.set_cons_succ]
  refine wpAnyH_done (by kernel_rfl) ?_ _
  refine NoPanic.normal ?_
  have HP : Hid _ := hC6.put hd (a := some ⟨q6, 0, none⟩) (m := n) (v := fun b => gm c (R (dst : Int) b)) hr6 (Nat.le_refl _) (fun e => by cases e)
  have HPB : Hid _ := (((HBW.out.mono hBw).drew).trans (hb6.mono (by have := HBW.out.size; simp; omega))).setCell (p := ⟨M, dst, none⟩) HCW.out.hM (.slice (some ⟨q6, 0, none⟩) n n)
  go_wp2
  exact ⟨rfl, .tuple #[], by simp [results, Tryd.results84, go_sem], rfl, ⟨_, _, HP.out, rfl⟩, HPB.out⟩
set_option maxRecDepth 100000 in
set_option maxHeartbeats 4000000 in
theorem does_add (B cb M Q n rg no : Nat) (f : Nat → Option Addr × Nat) (g : Nat → Option (Option Addr × Nat)) (R O : Regs) (op : Int) (dst : Nat) (src : Nat) (c : F) (hd : dst < rg) (hs : src < rg) (w : World) (hn : n ≤ 64) (hrg : rg ≤ 64) (hno : no ≤ 64) (hBw : B ≤ w.heap.size) (h : CmbW B w cb M Q n rg no f g R O) :
    Calls Tryd.prog 86 #[.pointer (some ⟨cb, 0, none⟩), .agg #[.int .i64 op, .int .i64 (dst : Int), .int .i64 (src : Int), .int .u8 (c.toNat : Int)]] w fun e w' => e = .returned (.tuple #[]) ∧ (∃ f' g', CmbW B w' cb M Q n rg no f' g' (setR R (dst : Int) (fun b => ga (R (dst : Int) b) (gm c (R (src : Int) b)))) (O) ∧ g' = g) ∧ Below B w w' := by
  obtain ⟨W, hW⟩ : ∃ W, W = w.alloc (.cells #[.int .i64 op, .int .i64 (dst : Int), .int .i64 (src : Int), .int .u8 (c.toNat : Int)] 48) := ⟨_, rfl⟩
  have hBW : Below w.heap.size w W := by rw [hW]; exact (Below.refl _ _).alloc (Nat.le_refl _) _
  have hbox : W.heap[w.heap.size]? = some (.cells #[.int .i64 op, .int .i64 (dst : Int), .int .i64 (src : Int), .int .u8 (c.toNat : Int)] 48 (0, 0)) := by rw [hW]; exact heap_alloc_last _ _
  have HNE : Hid (w.heap.size ≠ M) := by have := ltHeap h.regs.blk; show _ ≠ _; omega
  have HCW : Hid _ := h.below hBW
  have HBOX : Hid _ := hbox
  have HBW : Hid _ := hBW
  have HWE : Hid _ := hW
  clear h hBW hbox hW
  have HK1 : Hid (∀ u, W.grownBy u (some M) → u.cell? ⟨cb, 1, none⟩ = some (.slice (some ⟨M, 0, none⟩) rg rg)) := fun u hu => cellAt ((hu.block cb (ltHeap HCW.out.blk) (by simpa using HCW.out.hcM)).trans HCW.out.blk) 1 _ rfl
  have HS0 : Hid (∀ u, W.grownBy u (some M) → u.cell? ⟨w.heap.size, 1, none⟩ = some (.int .i64 (dst : Int))) := fun u hu => cellAt ((hu.block w.heap.size (ltHeap HBOX.out) (by simpa using HNE.out)).trans HBOX.out) 1 _ rfl
  have HS2 : Hid (∀ u, W.grownBy u (some M) → u.cell? ⟨w.heap.size, 2, none⟩ = some (.int .i64 (src : Int))) := fun u hu => cellAt ((hu.block w.heap.size (ltHeap HBOX.out) (by simpa using HNE.out)).trans HBOX.out) 2 _ rfl
  have HS3 : Hid (∀ u, W.grownBy u (some M) → u.cell? ⟨w.heap.size, 3, none⟩ = some (.int .u8 (c.toNat : Int))) := fun u hu => cellAt ((hu.block w.heap.size (ltHeap HBOX.out) (by simpa using HNE.out)).trans HBOX.out) 3 _ rfl
  go_enter Tryd.func86, Tryd.ntmps86
  go_wp2
  rw [← HWE.out]
  clear HWE
  refine wp_region_noPanic ?_
  refine wp_region_held_drew (S := fun u => W.grownBy u (some M)) (by kernel_rfl) ?_ (fun hHeld => ?_)
  · exact grownBy_drew (World.grownBy.refl _ _)
  refine wpAnyH_take (i := 0) (oi := { dst := some 4, op := Op.move (Operand.tmp 0), type := 88, pos := "prog.go:150", after := #[], guard := none }) (v := ?_) rfl (by kernel_rfl) (by kernel_rfl) (by kernel_rfl) (fun _ _ _ h => h) (Or.inl ⟨by rfl, ?_⟩) hHeld ?_
  rotate_left
  · intro u hSw
    go_simp
    try with_reducible rfl
  try simp only [Act.put, List.setIfInBounds_toArray, List.set_cons_zero, List.set_cons_succ]
  refine wpAnyH_take (i := 1) (oi := { dst := some 5, op := Op.nilCheck (Operand.tmp 4), type := 0, pos := "prog.go:150", after := #[{ on := 0, ground := Ground.data }], guard := none }) (v := ?_) rfl (by kernel_rfl) (by kernel_rfl) (by kernel_rfl) (fun _ _ _ h => h) (Or.inl ⟨by rfl, ?_⟩) hHeld ?_
  rotate_left
  · intro u hSw
    go_simp
    try with_reducible rfl
  try simp only [Act.put, List.setIfInBounds_toArray, List.set_cons_zero, List.set_cons_succ]
  refine wpAnyH_take (i := 2) (oi := { dst := some 6, op := Op.fieldAddr 80 (Operand.tmp 5) 1, type := 0, pos := "prog.go:150", after := #[{ on := 1, ground := Ground.data }], guard := none }) (v := ?_) rfl (by kernel_rfl) (by kernel_rfl) (by kernel_rfl) (fun _ _ _ h => h) (Or.inl ⟨by rfl, ?_⟩) hHeld ?_
  rotate_left
  · intro u hSw
    go_simp
    try with_reducible rfl
  try simp only [Act.put, List.setIfInBounds_toArray, List.set_cons_zero, List.set_cons_succ]
  refine wpAnyH_take (i := 3) (oi := { dst := some 7, op := Op.load 68 (Operand.tmp 6), type := 68, pos := "prog.go:150", after := #[{ on := 2, ground := Ground.data }], guard := none }) (v := ?_) rfl (by kernel_rfl) (by kernel_rfl) (by kernel_rfl) (fun _ _ _ h => h) (Or.inl ⟨by rfl, ?_⟩) hHeld ?_
  rotate_left
  · intro u hSw
    have k9 := HK1.out u hSw
    go_simp
    try with_reducible rfl
  try simp only [Act.put, List.setIfInBounds_toArray, List.set_cons_zero, List.set_cons_succ]
  refine wpAnyH_take (i := 4) (oi := { dst := some 8, op := Op.fieldAddr 48 (Operand.tmp 3) 1, type := 0, pos := "prog.go:150", after := #[], guard := none }) (v := ?_) rfl (by kernel_rfl) (by kernel_rfl) (by kernel_rfl) (fun _ _ _ h => h) (Or.inl ⟨by rfl, ?_⟩) hHeld ?_
  rotate_left
  · intro u hSw
    go_simp
    try with_reducible rfl
  try simp only [Act.put, List.setIfInBounds_toArray, List.set_cons_zero, List.set_cons_succ]
  refine wpAnyH_take (i := 5) (oi := { dst := some 9, op := Op.load 3 (Operand.tmp 8), type := 3, pos := "prog.go:150", after := #[{ on := 4, ground := Ground.data }], guard := none }) (v := ?_) rfl (by kernel_rfl) (by kernel_rfl) (by kernel_rfl) (fun _ _ _ h => h) (Or.inl ⟨by rfl, ?_⟩) hHeld ?_
  rotate_left
  · intro u hSw
    have k9 := HS0.out u hSw
    go_simp
    try with_reducible rfl
  try simp only [Act.put, List.setIfInBounds_toArray, List.set_cons_zero, List.set_cons_succ]
  refine wpAnyH_take (i := 6) (oi := { dst := some 10, op := Op.move (Operand.tmp 0), type := 88, pos := "prog.go:150", after := #[], guard := none }) (v := ?_) rfl (by kernel_rfl) (by kernel_rfl) (by kernel_rfl) (fun _ _ _ h => h) (Or.inl ⟨by rfl, ?_⟩) hHeld ?_
  rotate_left
  · intro u hSw
    go_simp
    try with_reducible rfl
  try simp only [Act.put, List.setIfInBounds_toArray, List.set_cons_zero, List.set_cons_succ]
  refine wpAnyH_take (i := 7) (oi := { dst := some 11, op := Op.nilCheck (Operand.tmp 10), type := 0, pos := "prog.go:150", after := #[{ on := 6, ground := Ground.data }], guard := none }) (v := ?_) rfl (by kernel_rfl) (by kernel_rfl) (by kernel_rfl) (fun _ _ _ h => h) (Or.inl ⟨by rfl, ?_⟩) hHeld ?_
  rotate_left
  · intro u hSw
    go_simp
    try with_reducible rfl
  try simp only [Act.put, List.setIfInBounds_toArray, List.set_cons_zero, List.set_cons_succ]
  refine wpAnyH_take (i := 8) (oi := { dst := some 12, op := Op.fieldAddr 80 (Operand.tmp 11) 1, type := 0, pos := "prog.go:150", after := #[{ on := 7, ground := Ground.data }], guard := none }) (v := ?_) rfl (by kernel_rfl) (by kernel_rfl) (by kernel_rfl) (fun _ _ _ h => h) (Or.inl ⟨by rfl, ?_⟩) hHeld ?_
  rotate_left
  · intro u hSw
    go_simp
    try with_reducible rfl
  try simp only [Act.put, List.setIfInBounds_toArray, List.set_cons_zero, List.set_cons_succ]
  refine wpAnyH_take (i := 9) (oi := { dst := some 13, op := Op.load 68 (Operand.tmp 12), type := 68, pos := "prog.go:150", after := #[{ on := 8, ground := Ground.data }], guard := none }) (v := ?_) rfl (by kernel_rfl) (by kernel_rfl) (by kernel_rfl) (fun _ _ _ h => h) (Or.inl ⟨by rfl, ?_⟩) hHeld ?_
  rotate_left
  · intro u hSw
    have k9 := HK1.out u hSw
    go_simp
    try with_reducible rfl
  try simp only [Act.put, List.setIfInBounds_toArray, List.set_cons_zero, List.set_cons_succ]
  refine wpAnyH_take (i := 10) (oi := { dst := some 14, op := Op.fieldAddr 48 (Operand.tmp 3) 1, type := 0, pos := "prog.go:150", after := #[], guard := none }) (v := ?_) rfl (by kernel_rfl) (by kernel_rfl) (by kernel_rfl) (fun _ _ _ h => h) (Or.inl ⟨by rfl, ?_⟩) hHeld ?_
  rotate_left
  · intro u hSw
    go_simp
    try with_reducible rfl
  try simp only [Act.put, List.setIfInBounds_toArray, List.set_cons_zero, List.set_cons_succ]
  refine wpAnyH_take (i := 11) (oi := { dst := some 15, op := Op.load 3 (Operand.tmp 14), type := 3, pos := "prog.go:150", after := #[{ on := 10, ground := Ground.data }], guard := none }) (v := ?_) rfl (by kernel_rfl) (by kernel_rfl) (by kernel_rfl) (fun _ _ _ h => h) (Or.inl ⟨by rfl, ?_⟩) hHeld ?_
  rotate_left
  · intro u hSw
    have k9 := HS0.out u hSw
    go_simp
    try with_reducible rfl
  try simp only [Act.put, List.setIfInBounds_toArray, List.set_cons_zero, List.set_cons_succ]
  refine wpAnyH_take (i := 12) (oi := { dst := some 16, op := Op.indexAddr 68 (Operand.tmp 13) (Operand.tmp 15), type := 0, pos := "prog.go:150", after := #[{ on := 9, ground := Ground.data }, { on := 11, ground := Ground.data }], guard := none }) (v := ?_) rfl (by kernel_rfl) (by kernel_rfl) (by kernel_rfl) (fun _ _ _ h => h) (Or.inl ⟨by rfl, ?_⟩) hHeld ?_
  rotate_left
  · intro u hSw
    go_simp
    try with_reducible rfl
  try simp only [Act.put, List.setIfInBounds_toArray, List.set_cons_zero, List.set_cons_succ]
  refine wpAnyH_take (i := 14) (oi := { dst := some 18, op := Op.fieldAddr 48 (Operand.tmp 3) 3, type := 0, pos := "prog.go:150", after := #[], guard := none }) (v := ?_) rfl (by kernel_rfl) (by kernel_rfl) (by kernel_rfl) (fun _ _ _ h => h) (Or.inl ⟨by rfl, ?_⟩) hHeld ?_
  rotate_left
  · intro u hSw
    go_simp
    try with_reducible rfl
  try simp only [Act.put, List.setIfInBounds_toArray, List.set_cons_zero, List.set_cons_succ]
  refine wpAnyH_take (i := 15) (oi := { dst := some 19, op := Op.load 5 (Operand.tmp 18), type := 5, pos := "prog.go:150", after := #[{ on := 14, ground := Ground.data }], guard := none }) (v := ?_) rfl (by kernel_rfl) (by kernel_rfl) (by kernel_rfl) (fun _ _ _ h => h) (Or.inl ⟨by rfl, ?_⟩) hHeld ?_
  rotate_left
  · intro u hSw
    have k9 := HS3.out u hSw
    go_simp
    try with_reducible rfl
  try simp only [Act.put, List.setIfInBounds_toArray, List.set_cons_zero, List.set_cons_succ]
  refine wpAnyH_take (i := 16) (oi := { dst := some 20, op := Op.move (Operand.tmp 0), type := 88, pos := "prog.go:150", after := #[], guard := none }) (v := ?_) rfl (by kernel_rfl) (by kernel_rfl) (by kernel_rfl) (fun _ _ _ h => h) (Or.inl ⟨by rfl, ?_⟩) hHeld ?_
  rotate_left
  · intro u hSw
    go_simp
    try with_reducible rfl
  try simp only [Act.put, List.setIfInBounds_toArray, List.set_cons_zero, List.set_cons_succ]
  refine wpAnyH_take (i := 17) (oi := { dst := some 21, op := Op.nilCheck (Operand.tmp 20), type := 0, pos := "prog.go:150", after := #[{ on := 16, ground := Ground.data }], guard := none }) (v := ?_) rfl (by kernel_rfl) (by kernel_rfl) (by kernel_rfl) (fun _ _ _ h => h) (Or.inl ⟨by rfl, ?_⟩) hHeld ?_
  rotate_left
  · intro u hSw
    go_simp
    try with_reducible rfl
  try simp only [Act.put, List.setIfInBounds_toArray, List.set_cons_zero, List.set_cons_succ]
  refine wpAnyH_take (i := 18) (oi := { dst := some 22, op := Op.fieldAddr 80 (Operand.tmp 21) 1, type := 0, pos := "prog.go:150", after := #[{ on := 17, ground := Ground.data }], guard := none }) (v := ?_) rfl (by kernel_rfl) (by kernel_rfl) (by kernel_rfl) (fun _ _ _ h => h) (Or.inl ⟨by rfl, ?_⟩) hHeld ?_
  rotate_left
  · intro u hSw
    go_simp
    try with_reducible rfl
  try simp only [Act.put, List.setIfInBounds_toArray, List.set_cons_zero, List.set_cons_succ]
  refine wpAnyH_take (i := 19) (oi := { dst := some 23, op := Op.load 68 (Operand.tmp 22), type := 68, pos := "prog.go:150", after := #[{ on := 18, ground := Ground.data }], guard := none }) (v := ?_) rfl (by kernel_rfl) (by kernel_rfl) (by kernel_rfl) (fun _ _ _ h => h) (Or.inl ⟨by rfl, ?_⟩) hHeld ?_
  rotate_left
  · intro u hSw
    have k9 := HK1.out u hSw
    go_simp
    try with_reducible rfl
  try simp only [Act.put, List.setIfInBounds_toArray, List.set_cons_zero, List.set_cons_succ]
  refine wpAnyH_take (i := 20) (oi := { dst := some 24, op := Op.fieldAddr 48 (Operand.tmp 3) 2, type := 0, pos := "prog.go:150", after := #[], guard := none }) (v := ?_) rfl (by kernel_rfl) (by kernel_rfl) (by kernel_rfl) (fun _ _ _ h => h) (Or.inl ⟨by rfl, ?_⟩) hHeld ?_
  rotate_left
  · intro u hSw
    go_simp
    try with_reducible rfl
  try simp only [Act.put, List.setIfInBounds_toArray, List.set_cons_zero, List.set_cons_succ]
  refine wpAnyH_take (i := 21) (oi := { dst := some 25, op := Op.load 3 (Operand.tmp 24), type := 3, pos := "prog.go:150", after := #[{ on := 20, ground := Ground.data }], guard := none }) (v := ?_) rfl (by kernel_rfl) (by kernel_rfl) (by kernel_rfl) (fun _ _ _ h => h) (Or.inl ⟨by rfl, ?_⟩) hHeld ?_
  rotate_left
  · intro u hSw
    have k9 := HS2.out u hSw
    go_simp
    try with_reducible rfl
  try simp only [Act.put, List.setIfInBounds_toArray, List.set_cons_zero, List.set_cons_succ]
  refine wpAnyH_take (i := 22) (oi := { dst := some 26, op := Op.indexAddr 68 (Operand.tmp 23) (Operand.tmp 25), type := 0, pos := "prog.go:150", after := #[{ on := 19, ground := Ground.data }, { on := 21, ground := Ground.data }], guard := none }) (v := ?_) rfl (by kernel_rfl) (by kernel_rfl) (by kernel_rfl) (fun _ _ _ h => h) (Or.inl ⟨by rfl, ?_⟩) hHeld ?_
  rotate_left
  · intro u hSw
    go_simp
    try with_reducible rfl
  try simp only [Act.put, List.setIfInBounds_toArray, List.set_cons_zero, List.set_cons_succ]
  refine wpAnyH_ready (rs := [13, 23]) (by kernel_rfl) (by simp) ?_
  refine (AllReadyH.cons (o := { dst := some 17, op := Op.load 31 (Operand.tmp 16), type := 31, pos := "prog.go:150", after := #[{ on := 12, ground := Ground.data }], guard := none }) rfl (fun K hK => ?_) (AllReadyH.cons (o := { dst := some 27, op := Op.load 31 (Operand.tmp 26), type := 31, pos := "prog.go:150", after := #[{ on := 22, ground := Ground.data }], guard := none }) rfl (fun K hK => ?_) AllReadyH.nil))
  · have m13 := cellAt HCW.out.drew.regs.blk dst _ (slF_at ‹dst < rg›)
    go_simp
    refine hK.out _ _ ?_ (fun hHeld => ?_)
    · exact grownBy_drew (World.grownBy.refl _ _)
    clear hK K
    try simp only [Act.put, List.setIfInBounds_toArray, List.set_cons_zero, List.set_cons_succ]
    refine wpAnyH_ready (rs := [23]) (by kernel_rfl) (by simp) ?_
    refine (AllReadyH.cons (o := { dst := some 27, op := Op.load 31 (Operand.tmp 26), type := 31, pos := "prog.go:150", after := #[{ on := 22, ground := Ground.data }], guard := none }) rfl (fun K hK => ?_) AllReadyH.nil)
    have m23 := cellAt HCW.out.drew.regs.blk src _ (slF_at ‹src < rg›)
    go_simp
    refine hK.out _ _ ?_ (fun hHeld => ?_)
    · exact grownBy_drew (World.grownBy.refl _ _)
    clear hK K
    try simp only [Act.put, List.setIfInBounds_toArray, List.set_cons_zero, List.set_cons_succ]
    refine wpAnyH_ready (rs := [24]) (by kernel_rfl) (by simp) ?_
    refine (AllReadyH.cons (o := { dst := some 28, op := Op.call { callee := Callee.value (Operand.func 100), args := #[Operand.tmp 17, Operand.tmp 19, Operand.tmp 27], argTypes := #[31, 5, 31] }, type := 31, pos := "prog.go:150", after := #[{ on := 13, ground := Ground.data }, { on := 15, ground := Ground.data }, { on := 23, ground := Ground.data }], guard := none }) rfl (fun K hK => ?_) AllReadyH.nil)
    go_simp
    refine Calls.mono (addScaled_R c _ _ n _ _ _ _ _ (by omega) (HCW.out.drew.regs.row dst hd).row8 (HCW.out.drew.regs.row src hs).row8) ?_
    rintro e w6 ⟨q6, rfl, hb6, hr6, hg6⟩
    have hC6 := HCW.out.drew.below hb6
    have hS6 : W.grownBy w6 (some M) := grown_below (grownBy_drew (World.grownBy.refl _ _)) hb6
    go_wp2_with fail
    refine hK.out _ _ ?_ (fun hHeld => ?_)
    · exact hS6
    clear hK K
    try simp only [Act.put, List.setIfInBounds_toArray, List.set_cons_zero, List.set_cons_succ]
    refine wpAnyH_take (i := 25) (oi := { dst := some 29, op := Op.indexAddr 68 (Operand.tmp 7) (Operand.tmp 9), type := 0, pos := "prog.go:150", after := #[{ on := 3, ground := Ground.data }, { on := 5, ground := Ground.data }, { on := 0, ground := Ground.phase }, { on := 1, ground := Ground.phase }, { on := 2, ground := Ground.phase }, { on := 3, ground := Ground.phase }, { on := 4, ground := Ground.phase }, { on := 5, ground := Ground.phase }, { on := 6, ground := Ground.phase }, { on := 7, ground := Ground.phase }, { on := 8, ground := Ground.phase }, { on := 9, ground := Ground.phase }, { on := 10, ground := Ground.phase }, { on := 11, ground := Ground.phase }, { on := 12, ground := Ground.phase }, { on := 13, ground := Ground.phase }, { on := 14, ground := Ground.phase }, { on := 15, ground := Ground.phase }, { on := 16, ground := Ground.phase }, { on := 17, ground := Ground.phase }, { on := 18, ground := Ground.phase }, { on := 19, ground := Ground.phase }, { on := 20, ground := Ground.phase }, { on := 21, ground := Ground.phase }, { on := 22, ground := Ground.phase }, { on := 23, ground := Ground.phase }, { on := 24, ground := Ground.phase }], guard := none }) (v := ?_) rfl (by kernel_rfl) (by kernel_rfl) (by kernel_rfl) (fun _ _ _ h => h) (Or.inl ⟨by rfl, ?_⟩) hHeld ?_
    rotate_left
    · intro u hSw
      go_simp
      try with_reducible rfl
    try simp only [Act.put, List.setIfInBounds_toArray, List.set_cons_zero, List.set_cons_succ]
    refine wpAnyH_ready (rs := [26]) (by kernel_rfl) (by simp) ?_
    refine (AllReadyH.cons (o := { dst := none, op := Op.store 31 (Operand.tmp 29) (Operand.tmp 28), type := 0, pos := "prog.go:150", after := #[{ on := 25, ground := Ground.data }, { on := 24, ground := Ground.data }, { on := 24, ground := Ground.chain }, { on := 0, ground := Ground.phase }, { on := 1, ground := Ground.phase }, { on := 2, ground := Ground.phase }, { on := 3, ground := Ground.phase }, { on := 4, ground := Ground.phase }, { on := 5, ground := Ground.phase }, { on := 6, ground := Ground.phase }, { on := 7, ground := Ground.phase }, { on := 8, ground := Ground.phase }, { on := 9, ground := Ground.phase }, { on := 10, ground := Ground.phase }, { on := 11, ground := Ground.phase }, { on := 12, ground := Ground.phase }, { on := 13, ground := Ground.phase }, { on := 14, ground := Ground.phase }, { on := 15, ground := Ground.phase }, { on := 16, ground := Ground.phase }, { on := 17, ground := Ground.phase }, { on := 18, ground := Ground.phase }, { on := 19, ground := Ground.phase }, { on := 20, ground := Ground.phase }, { on := 21, ground := Ground.phase }, { on := 22, ground := Ground.phase }, { on := 23, ground := Ground.phase }, { on := 24, ground := Ground.phase }], guard := none }) rfl (fun K hK => ?_) AllReadyH.nil)
    have hblk := hC6.regs.blk
    have d8 : w6.frozen? ⟨M, dst, none⟩ = false := frozen_of_row _ _ _ _ _ hblk
    have d9 := cellAt hblk dst _ (slF_at hd)
    go_simp
    refine hK.out _ _ ?_ (fun hHeld => ?_)
    · exact grownBy_setCell hS6 _
    clear hK K
    try simp only [Act.put, List.setIfInBounds_toArray, List.set_cons_zero, List.set_cons_succ]
    refine wpAnyH_done (by kernel_rfl) ?_ _
    refine NoPanic.normal ?_
    have HP : Hid _ := hC6.put hd (a := some ⟨q6, 0, none⟩) (m := n) (v := fun b => ga (R (dst : Int) b) (gm c (R (src : Int) b))) hr6 (Nat.le_refl _) (fun e => by cases e)
    have HPB : Hid _ := (((HBW.out.mono hBw).drew).trans (hb6.mono (by have := HBW.out.size; simp; omega))).setCell (p := ⟨M, dst, none⟩) HCW.out.hM (.slice (some ⟨q6, 0, none⟩) n n)
    go_wp2
    exact ⟨rfl, .tuple #[], by simp [results, Tryd.results86, go_sem], rfl, ⟨_, _, HP.out, rfl⟩, HPB.out⟩
  · have m23 := cellAt HCW.out.drew.regs.blk src _ (slF_at ‹src < rg›)
    go_simp
    refine hK.out _ _ ?_ (fun hHeld => ?_)
    · exact grownBy_drew (World.grownBy.refl _ _)
    clear hK K
    try simp only [Act.put, List.setIfInBounds_toArray, List.set_cons_zero, List.set_cons_succ]
    refine wpAnyH_ready (rs := [13]) (by kernel_rfl) (by simp) ?_
    refine (AllReadyH.cons (o := { dst := some 17, op := Op.load 31 (Operand.tmp 16), type := 31, pos := "prog.go:150", after := #[{ on := 12, ground := Ground.data }], guard := none }) rfl (fun K hK => ?_) AllReadyH.nil)
    have m13 := cellAt HCW.out.drew.regs.blk dst _ (slF_at ‹dst < rg›)
    go_simp
    refine hK.out _ _ ?_ (fun hHeld => ?_)
    · exact grownBy_drew (World.grownBy.refl _ _)
    clear hK K
    try simp only [Act.put, List.setIfInBounds_toArray, List.set_cons_zero, List.set_cons_succ]
    refine wpAnyH_ready (rs := [24]) (by kernel_rfl) (by simp) ?_
    refine (AllReadyH.cons (o := { dst := some 28, op := Op.call { callee := Callee.value (Operand.func 100), args := #[Operand.tmp 17, Operand.tmp 19, Operand.tmp 27], argTypes := #[31, 5, 31] }, type := 31, pos := "prog.go:150", after := #[{ on := 13, ground := Ground.data }, { on := 15, ground := Ground.data }, { on := 23, ground := Ground.data }], guard := none }) rfl (fun K hK => ?_) AllReadyH.nil)
    go_simp
    refine Calls.mono (addScaled_R c _ _ n _ _ _ _ _ (by omega) (HCW.out.drew.regs.row dst hd).row8 (HCW.out.drew.regs.row src hs).row8) ?_
    rintro e w6 ⟨q6, rfl, hb6, hr6, hg6⟩
    have hC6 := HCW.out.drew.below hb6
    have hS6 : W.grownBy w6 (some M) := grown_below (grownBy_drew (World.grownBy.refl _ _)) hb6
    go_wp2_with fail
    refine hK.out _ _ ?_ (fun hHeld => ?_)
    · exact hS6
    clear hK K
    try simp only [Act.put, List.setIfInBounds_toArray, List.set_cons_zero, List.set_cons_succ]
    refine wpAnyH_take (i := 25) (oi := { dst := some 29, op := Op.indexAddr 68 (Operand.tmp 7) (Operand.tmp 9), type := 0, pos := "prog.go:150", after := #[{ on := 3, ground := Ground.data }, { on := 5, ground := Ground.data }, { on := 0, ground := Ground.phase }, { on := 1, ground := Ground.phase }, { on := 2, ground := Ground.phase }, { on := 3, ground := Ground.phase }, { on := 4, ground := Ground.phase }, { on := 5, ground := Ground.phase }, { on := 6, ground := Ground.phase }, { on := 7, ground := Ground.phase }, { on := 8, ground := Ground.phase }, { on := 9, ground := Ground.phase }, { on := 10, ground := Ground.phase }, { on := 11, ground := Ground.phase }, { on := 12, ground := Ground.phase }, { on := 13, ground := Ground.phase }, { on := 14, ground := Ground.phase }, { on := 15, ground := Ground.phase }, { on := 16, ground := Ground.phase }, { on := 17, ground := Ground.phase }, { on := 18, ground := Ground.phase }, { on := 19, ground := Ground.phase }, { on := 20, ground := Ground.phase }, { on := 21, ground := Ground.phase }, { on := 22, ground := Ground.phase }, { on := 23, ground := Ground.phase }, { on := 24, ground := Ground.phase }], guard := none }) (v := ?_) rfl (by kernel_rfl) (by kernel_rfl) (by kernel_rfl) (fun _ _ _ h => h) (Or.inl ⟨by rfl, ?_⟩) hHeld ?_
    rotate_left
    · intro u hSw
      go_simp
      try with_reducible rfl
    try simp only [Act.put, List.setIfInBounds_toArray, List.set_cons_zero, List.set_cons_succ]
    refine wpAnyH_ready (rs := [26]) (by kernel_rfl) (by simp) ?_
    refine (AllReadyH.cons (o := { dst := none, op := Op.store 31 (Operand.tmp 29) (Operand.tmp 28), type := 0, pos := "prog.go:150", after := #[{ on := 25, ground := Ground.data }, { on := 24, ground := Ground.data }, { on := 24, ground := Ground.chain }, { on := 0, ground := Ground.phase }, { on := 1, ground := Ground.phase }, { on := 2, ground := Ground.phase }, { on := 3, ground := Ground.phase }, { on := 4, ground := Ground.phase }, { on := 5, ground := Ground.phase }, { on := 6, ground := Ground.phase }, { on := 7, ground := Ground.phase }, { on := 8, ground := Ground.phase }, { on := 9, ground := Ground.phase }, { on := 10, ground := Ground.phase }, { on := 11, ground := Ground.phase }, { on := 12, ground := Ground.phase }, { on := 13, ground := Ground.phase }, { on := 14, ground := Ground.phase }, { on := 15, ground := Ground.phase }, { on := 16, ground := Ground.phase }, { on := 17, ground := Ground.phase }, { on := 18, ground := Ground.phase }, { on := 19, ground := Ground.phase }, { on := 20, ground := Ground.phase }, { on := 21, ground := Ground.phase }, { on := 22, ground := Ground.phase }, { on := 23, ground := Ground.phase }, { on := 24, ground := Ground.phase }], guard := none }) rfl (fun K hK => ?_) AllReadyH.nil)
    have hblk := hC6.regs.blk
    have d8 : w6.frozen? ⟨M, dst, none⟩ = false := frozen_of_row _ _ _ _ _ hblk
    have d9 := cellAt hblk dst _ (slF_at hd)
    go_simp
    refine hK.out _ _ ?_ (fun hHeld => ?_)
    · exact grownBy_setCell hS6 _
    clear hK K
    try simp only [Act.put, List.setIfInBounds_toArray, List.set_cons_zero, List.set_cons_succ]
    refine wpAnyH_done (by kernel_rfl) ?_ _
    refine NoPanic.normal ?_
    have HP : Hid _ := hC6.put hd (a := some ⟨q6, 0, none⟩) (m := n) (v := fun b => ga (R (dst : Int) b) (gm c (R (src : Int) b))) hr6 (Nat.le_refl _) (fun e => by cases e)
    have HPB : Hid _ := (((HBW.out.mono hBw).drew).trans (hb6.mono (by have := HBW.out.size; simp; omega))).setCell (p := ⟨M, dst, none⟩) HCW.out.hM (.slice (some ⟨q6, 0, none⟩) n n)
    go_wp2
    exact ⟨rfl, .tuple #[], by simp [results, Tryd.results86, go_sem], rfl, ⟨_, _, HP.out, rfl⟩, HPB.out⟩
set_option maxRecDepth 100000 in
set_option maxHeartbeats 4000000 in
theorem does_out (B cb M Q n rg no : Nat) (f : Nat → Option Addr × Nat) (g : Nat → Option (Option Addr × Nat)) (R O : Regs) (op : Int) (dst : Nat) (src : Nat) (cv : Int) (hd : dst < no) (hs : src < rg) (w : World) (hn : n ≤ 64) (hrg : rg ≤ 64) (hno : no ≤ 64) (hBw : B ≤ w.heap.size) (h : CmbW B w cb M Q n rg no f g R O) :
    Calls Tryd.prog 88 #[.pointer (some ⟨cb, 0, none⟩), .agg #[.int .i64 op, .int .i64 (dst : Int), .int .i64 (src : Int), .int .u8 cv]] w fun e w' => e = .returned (.tuple #[]) ∧ (∃ f' g', CmbW B w' cb M Q n rg no f' g' (R) (setR O (dst : Int) (R (src : Int))) ∧ g' = (fun x => if x = dst then some (f src) else g x)) ∧ Below B w w' := by
  obtain ⟨W, hW⟩ : ∃ W, W = w.alloc (.cells #[.int .i64 op, .int .i64 (dst : Int), .int .i64 (src : Int), .int .u8 cv] 48) := ⟨_, rfl⟩
  have hBW : Below w.heap.size w W := by rw [hW]; exact (Below.refl _ _).alloc (Nat.le_refl _) _
  have hbox : W.heap[w.heap.size]? = some (.cells #[.int .i64 op, .int .i64 (dst : Int), .int .i64 (src : Int), .int .u8 cv] 48 (0, 0)) := by rw [hW]; exact heap_alloc_last _ _
  have HNE : Hid (w.heap.size ≠ Q) := by have := ltHeap h.outs; show _ ≠ _; omega
  have HCW : Hid _ := h.below hBW
  have HBOX : Hid _ := hbox
  have HBW : Hid _ := hBW
  have HWE : Hid _ := hW
  clear h hBW hbox hW
  go_enter Tryd.func88, Tryd.ntmps88
  go_wp2
  rw [← HWE.out]
  clear HWE
  have k1 := cellAt HCW.out.blk 1 _ rfl
  have k2 := cellAt HCW.out.blk 2 _ rfl
  have k3 := cellAt HBOX.out 1 _ rfl
  have k4 := cellAt HBOX.out 2 _ rfl
  have k5 := cellAt HCW.out.regs.blk src _ (slF_at hs)
  have k6 := cellAt HCW.out.outs dst _ (slO_at hd)
  have k7 : W.frozen? ⟨Q, dst, none⟩ = false := frozen_of_row _ _ _ _ _ HCW.out.outs
  go_region
  have HP : Hid _ := HCW.out.drew.putO hd hs
  have HPB : Hid _ := ((HBW.out.mono hBw).drew).setCell (p := ⟨Q, dst, none⟩) HCW.out.hQ (.slice (f src).1 n (f src).2)
  clear k1 k2 k3 k4 k5 k6 k7
  go_wp2
  exact ⟨rfl, .tuple #[], by simp [results, Tryd.results88, go_sem], rfl, ⟨_, _, HP.out, rfl⟩, HPB.out⟩
end Go.Proofs.YtoalbopcapgojaaDoor

/- What Meaning of package prog answers of programs in form. -/
namespace Go.Proofs.YtoalbopcapgojaaDoor
open Go.RowKit Gf
set_option linter.unusedVariables false
set_option maxRecDepth 20000
set_option linter.unusedSimpArgs false
/-- outputs, from the first step on, as registers of unit columns -/
def meanR (ss : List Stp) (d : Int) : Nat → F := runO unX ss (fun _ _ => 0) (fun _ _ => 0) d
def meanRows (n no : Nat) (ss : List Stp) : List (List F) := (List.range no).map fun (d : Nat) => rowF n (meanR ss (d : Int))
def meanL (n no : Nat) (ss : List Stp) : List F := (meanRows n no ss).flatten
theorem meanRows_len (n no : Nat) (ss : List Stp) : (meanRows n no ss).length = no := by simp [meanRows]
theorem meanL_len (n no : Nat) (ss : List Stp) : (meanL n no ss).length = no * n := by
  rw [meanL, flat_len (c := n) (fun xs h => by obtain ⟨d, _, rfl⟩ := List.mem_map.1 h; exact rowF_len _ _), meanRows_len]
theorem run_makeN (n c : Nat) (hn : n ≤ 64) (w : World) :
    (Instr.makeSlice 68 (.int .i64 (n : Int)) (.int .i64 (n : Int))).run Tryd.prog w = .ok (.slice (some ⟨w.heap.size, 0, none⟩) n n) (w.alloc (.cells (slO n c (fun _ => none)) 31)) := by
  obtain ⟨i, hi, h1, h2, h3⟩ := infoS
  have := run_make (P := Tryd.prog) w 68 31 i _ Tryd.underlying68 hi h3 .i64 .i64 n n (by omega) (by omega) (by rw [h2]; omega) (by omega)
  have e : madeCells (Value.slice none 0 0).cells n = slO n c (fun _ => none) := by
    apply Array.ext_getElem?
    intro i
    by_cases h : i < n <;> simp [madeCells, slO, svO, Value.cells, h, Nat.mod_one]
  rw [this, h1]
  simp only [Int.toNat_natCast, Nat.mul_one, e]
/-- what a step does, whichever it is -/
theorem does_F (B cb M Q n rg no : Nat) (f : Nat → Option Addr × Nat) (g : Nat → Option (Option Addr × Nat)) (R O : Regs) (s : Stp) (m : Nat) (w : World) (hn : n ≤ 64) (hrg : rg ≤ 64) (hno : no ≤ 64) (hBw : B ≤ w.heap.size) (h : CmbW B w cb M Q n rg no f g R O)
    (hok : OkS n no rg s) (hm : m = (if s.op = 1 then 80 else if s.op = 2 then 82 else if s.op = 3 then 84 else if s.op = 4 then 86 else 88)) :
    Calls Tryd.prog m #[.pointer (some ⟨cb, 0, none⟩), .agg #[.int .i64 s.op, .int .i64 s.dst, .int .i64 s.src, .int .u8 (s.c.toNat : Int)]] w fun e w' => e = .returned (.tuple #[]) ∧ (∃ f' g', CmbW B w' cb M Q n rg no f' g' (doR unX s R) (doO s R O) ∧ ∀ d, (g' d).isSome = ((g d).isSome || (s.op == 5 && s.dst == (d : Int)))) ∧ Below B w w' := by
  obtain ⟨op, dst, src, c⟩ := s
  unfold OkS at hok
  simp only at hok hm ⊢
  rcases hok with ⟨rfl, h1, h2, h3⟩ | ⟨rfl, h1, h2, h3⟩ | ⟨rfl, h1, h2⟩ | ⟨rfl, h1, h2⟩ | ⟨rfl, h1, h2, h3⟩
  · obtain ⟨dst, rfl⟩ := Int.eq_ofNat_of_zero_le h1.1
    obtain ⟨src, rfl⟩ := Int.eq_ofNat_of_zero_le h2.1
    subst hm
    exact (does_load B cb M Q n rg no f g R O 1 dst src c.toNat (by omega) (by omega) w hn hrg hno hBw h).mono fun e w' ⟨a, ⟨f', g', k, hg⟩, b⟩ => ⟨a, ⟨f', g', k, fun d => by rw [hg]; simp⟩, b⟩
  · obtain ⟨dst, rfl⟩ := Int.eq_ofNat_of_zero_le h1.1
    subst hm
    exact (does_zero B cb M Q n rg no f g R O 2 dst src c.toNat (by omega) w hn hrg hno hBw h).mono fun e w' ⟨a, ⟨f', g', k, hg⟩, b⟩ => ⟨a, ⟨f', g', k, fun d => by rw [hg]; simp⟩, b⟩
  · obtain ⟨dst, rfl⟩ := Int.eq_ofNat_of_zero_le h1.1
    subst hm
    exact (does_mul B cb M Q n rg no f g R O 3 dst src c (by omega) w hn hrg hno hBw h).mono fun e w' ⟨a, ⟨f', g', k, hg⟩, b⟩ => ⟨a, ⟨f', g', k, fun d => by rw [hg]; simp⟩, b⟩
  · obtain ⟨dst, rfl⟩ := Int.eq_ofNat_of_zero_le h1.1
    obtain ⟨src, rfl⟩ := Int.eq_ofNat_of_zero_le h2.1
    subst hm
    exact (does_add B cb M Q n rg no f g R O 4 dst src c (by omega) (by omega) w hn hrg hno hBw h).mono fun e w' ⟨a, ⟨f', g', k, hg⟩, b⟩ => ⟨a, ⟨f', g', k, fun d => by rw [hg]; simp⟩, b⟩
  · obtain ⟨dst, rfl⟩ := Int.eq_ofNat_of_zero_le h1.1
    obtain ⟨src, rfl⟩ := Int.eq_ofNat_of_zero_le h2.1
    subst hm
    exact (does_out B cb M Q n rg no f g R O 5 dst src c.toNat (by omega) (by omega) w hn hrg hno hBw h).mono fun e w' ⟨a, ⟨f', g', k, hg⟩, b⟩ => ⟨a, ⟨f', g', k, fun d => by
      rw [hg]
      by_cases e : d = dst
      · subst e; simp
      · simp [e, show ¬ (dst : Int) = (d : Int) by omega]⟩, b⟩
/-- the machine while its registers are laid -/
structure IniW (B : Nat) (w : World) (cb M Q n rg no k : Nat) (g : Nat → Option (Option Addr × Nat)) : Prop where
  blk : w.heap[cb]? = some (.cells #[.int .i64 n, .slice (some ⟨M, 0, none⟩) rg rg, .slice (some ⟨Q, 0, none⟩) no no] 80 (0, 0))
  regs : w.heap[M]? = some (.cells (slO rg n g) 31 (0, 0))
  outs : w.heap[Q]? = some (.cells (slO no n (fun _ => none)) 31 (0, 0))
  row : ∀ x, x < k → ∃ p, g x = some p ∧ Row8T w p.1 (rowF n (fun _ => 0)) ∧ n ≤ p.2 ∧ (p.1 = none → p.2 = 0)
  hb : B ≤ cb
  hM : B ≤ M
  hQ : B ≤ Q
  hMQ : M ≠ Q
  hcM : cb ≠ M
  hcQ : cb ≠ Q
theorem IniW.below {B : Nat} {w w' : World} {cb M Q n rg no k : Nat} {g : Nat → Option (Option Addr × Nat)} (h : IniW B w cb M Q n rg no k g) (hb : Below w.heap.size w w') : IniW B w' cb M Q n rg no k g :=
  { h with blk := heap_later h.blk hb, regs := heap_later h.regs hb, outs := heap_later h.outs hb, row := fun x hx => by obtain ⟨p, h1, h2, h3⟩ := h.row x hx; exact ⟨p, h1, row8T_below h2 hb, h3⟩ }
theorem IniW.drew {B : Nat} {w : World} {cb M Q n rg no k : Nat} {g : Nat → Option (Option Addr × Nat)} (h : IniW B w cb M Q n rg no k g) : IniW B w.drew cb M Q n rg no k g :=
  { h with blk := h.blk, regs := h.regs, outs := h.outs, row := h.row }
theorem IniW.put {B : Nat} {w : World} {cb M Q n rg no k : Nat} {g : Nat → Option (Option Addr × Nat)} (h : IniW B w cb M Q n rg no k g) (hk : k < rg) {a : Option Addr} {m : Nat} (ha : Row8T w a (rowF n (fun _ => 0))) (hm : n ≤ m) (hn : a = none → m = 0) :
    IniW B (w.setCell ⟨M, k, none⟩ (.slice a n m)) cb M Q n rg no (k + 1) (fun x => if x = k then some (a, m) else g x) := by
  have hg : w.grownBy (w.setCell ⟨M, k, none⟩ (.slice a n m)) (some M) := grownBy_setCell (World.grownBy.refl _ _) _
  have hne : NoElems w (some M) := noElems_some h.regs (by decide)
  refine { h with blk := ?_, regs := ?_, outs := ?_, row := fun x hx => ?_ }
  · exact (heap_setCell_other _ _ _ _ h.hcM).trans h.blk
  · rw [heap_setCell_same _ _ _ _ _ _ h.regs, slO_set (a, m) hk]
  · exact (heap_setCell_other _ _ _ _ (fun e => h.hMQ e.symm)).trans h.outs
  · by_cases e : x = k
    · exact ⟨(a, m), by simp [e], row8T_grown ha hg hne, hm, hn⟩
    · obtain ⟨p, h1, h2, h3⟩ := h.row x (by omega)
      exact ⟨p, by simp [e, h1], row8T_grown h2 hg hne, h3⟩
theorem IniW.done {B : Nat} {w : World} {cb M Q n rg no : Nat} {g : Nat → Option (Option Addr × Nat)} (h : IniW B w cb M Q n rg no rg g) : CmbW B w cb M Q n rg no (fun x => (g x).getD (none, 0)) (fun _ => none) (fun _ _ => 0) (fun _ _ => 0) := by
  refine { h with blk := h.blk, regs := ⟨?_, fun x hx => ?_, fun x hx => ?_, fun x hx => ?_⟩, outs := h.outs, out := fun d hd p hp => by cases hp }
  · rw [h.regs]
    congr 2
    apply Array.ext_getElem?
    intro i
    by_cases hi : i < rg
    · obtain ⟨p, h1, _⟩ := h.row i hi
      rw [slO_at hi, slF_at hi, svO, h1]; rfl
    · rw [Array.getElem?_eq_none (by rw [slO_size]; omega), Array.getElem?_eq_none (by rw [slF_size]; omega)]
  · obtain ⟨p, h1, h2, h3⟩ := h.row x hx
    simp only [h1, Option.getD_some]; exact h2
  · obtain ⟨p, h1, h2, h3⟩ := h.row x hx
    simp only [h1, Option.getD_some]; exact h3.1
  · obtain ⟨p, h1, h2, h3⟩ := h.row x hx
    simp only [h1, Option.getD_some]; exact h3.2
theorem outs_rows8 {B : Nat} {w : World} {cb M Q n rg no : Nat} {f : Nat → Option Addr × Nat} {g : Nat → Option (Option Addr × Nat)} {R O : Regs} (h : CmbW B w cb M Q n rg no f g R O) (hg : ∀ d, d < no → (g d).isSome = true) : Rows8 w (some ⟨Q, 0, none⟩) ((List.range no).map fun (d : Nat) => rowF n (O (d : Int))) := by
  refine .inr ⟨Q, 0, rfl, fun j x hx => ?_⟩
  simp only [List.getElem?_map, Option.map_eq_some_iff] at hx
  obtain ⟨i, hi, rfl⟩ := hx
  obtain ⟨hjk, hi2⟩ := List.getElem?_eq_some_iff.1 hi
  simp only [List.length_range] at hjk
  simp only [List.getElem_range] at hi2
  subst hi2
  obtain ⟨p, hp⟩ := Option.isSome_iff_exists.1 (hg j hjk)
  refine ⟨p.1, p.2, ?_, (h.out j hjk p hp).1.row8⟩
  rw [Nat.zero_add, rowF_len]
  have := cellAt h.outs j _ (slO_at hjk)
  rwa [svO, hp] at this
set_option maxRecDepth 100000 in
set_option maxHeartbeats 16000000 in
theorem meaning_ok (ia oa sa : Option Addr) (il ic ol oc sl sc rg : Nat) (ins outs : List Int) (ss : List Stp) (w : World) (s : Addr) (hP : PrgW w ia oa sa il ic ol oc sl sc ins outs ss) (hs : w.cell? ⟨0, 0, none⟩ = some (errAt s)) (hF : InF ins outs rg ss) :
    Calls Tryd.prog 10 #[.agg #[.slice ia il ic, .slice oa ol oc, .int .i64 rg, .slice sa sl sc]] w fun e w' => ∃ g m, e = .returned (.tuple #[.agg #[.int .i64 ol, .int .i64 il, .slice (some ⟨g, 0, none⟩) m m], .nilIface]) ∧ m = ol * il ∧ w.heap.size ≤ g ∧ w'.heap[g]? = some (.cells (vfs (meanL il ol ss)) 5 (0, 0)) ∧ Below w.heap.size w w' := by
  have hil32 : il ≤ 32 := by rw [hP.eil]; exact goodH_len hF.1
  have hol32 : ol ≤ 32 := by rw [hP.eol]; exact goodH_len hF.2.1
  have hrgn : rg ≤ 64 := by have := hF.2.2.1.2; omega
  have hsl9 : sl ≤ 4096 := by rw [hP.esl]; exact hF.2.2.2.1
  have hcsl := hP.csl
  have HP : Hid _ := hP
  have HF : Hid (InF ins outs rg ss) := hF
  have HIL : Hid (il = ins.length) := hP.eil
  have HOL : Hid (ol = outs.length) := hP.eol
  have HSL : Hid (sl = ss.length) := hP.esl
  have hb0 : Below w.heap.size w ((w.alloc (.cells #[.slice ia il ic, .slice oa ol oc, .int .i64 rg, .slice sa sl sc] 25)).alloc (.cells #[.int .i64 0, .int .i64 0, .slice none 0 0] 33)) := ((Below.refl _ w).alloc (Nat.le_refl _) _).alloc (by simp) _
  have HC : Hid _ := pcheck_ok ia oa sa il ic ol oc sl sc ins outs rg ss _ s (hP.below hb0) (cell_later hb0 hs) hF
  have hA0 := holds_new (holds_new (holds_nil w) #[.slice ia il ic, .slice oa ol oc, .int .i64 rg, .slice sa sl sc] 25) #[.int .i64 0, .int .i64 0, .slice none 0 0] 33
  simp only [World.size_alloc] at hA0
  have HA0 : Hid _ := hA0
  have HB0 : Hid _ := hb0
  clear hP hs hF hb0 hA0
  go_enter Tryd.func10, Tryd.ntmps10
  go_wp2_with fail
  refine Calls.mono HC.out ?_
  rintro e W ⟨rfl, hb1⟩
  have HW : Hid (Below w.heap.size w W) := HB0.out.trans (hb1.mono HB0.out.size)
  have HA : Hid _ := holds_later HA0.out hb1
  clear hb1 HA0 HB0 HC
  have P0 : Hid (∀ u, Below W.heap.size W u → u.cell? ⟨w.heap.size, 0, none⟩ = some (.slice ia il ic)) := fun u hu => cellAt (heap_later (holds_at HA.out 1 rfl) hu) 0 _ rfl
  have P1 : Hid (∀ u, Below W.heap.size W u → u.cell? ⟨w.heap.size, 1, none⟩ = some (.slice oa ol oc)) := fun u hu => cellAt (heap_later (holds_at HA.out 1 rfl) hu) 1 _ rfl
  have P2 : Hid (∀ u, Below W.heap.size W u → u.cell? ⟨w.heap.size, 2, none⟩ = some (.int .i64 rg)) := fun u hu => cellAt (heap_later (holds_at HA.out 1 rfl) hu) 2 _ rfl
  go_upto_region 4 with fail
  go_cut [5] (fun v wx => ∃ cb M Q, v = .pointer (some ⟨cb, 0, none⟩) ∧ Below W.heap.size W wx ∧ wx.heap[cb]? = some (.cells #[.int .i64 il, .slice (some ⟨M, 0, none⟩) rg rg, .slice (some ⟨Q, 0, none⟩) ol ol] 80 (0, 0)) ∧
    wx.heap[M]? = some (.cells (slO rg il (fun _ => none)) 31 (0, 0)) ∧ wx.heap[Q]? = some (.cells (slO ol il (fun _ => none)) 31 (0, 0)) ∧ W.heap.size ≤ cb ∧ W.heap.size ≤ M ∧ W.heap.size ≤ Q ∧ M ≠ Q ∧ cb ≠ M ∧ cb ≠ Q)
  case first =>
    have hS0 : Below W.heap.size W W.drew := Below.drew (Below.refl _ W)
    refine wp_region_noPanic ?_
    refine wp_region_held_drew (S := fun u => Below W.heap.size W u) (by kernel_rfl) ?_ (fun hHeld => ?_)
    · exact hS0
    refine wpAnyH_take (i := 0) (oi := { dst := some 17, op := Op.fieldAddr 25 (Operand.tmp 1) 0, type := 0, pos := "prog.go:162", after := #[], guard := none }) (v := ?_) rfl (by kernel_rfl) (by kernel_rfl) (by kernel_rfl) (fun _ _ _ h => h) (Or.inl ⟨by rfl, ?_⟩) hHeld ?_
    rotate_left
    · intro u hSw
      go_simp
      try with_reducible rfl
    try simp only [Act.put, List.setIfInBounds_toArray, List.set_cons_zero, List.set_cons_succ]
    refine wpAnyH_take (i := 1) (oi := { dst := some 18, op := Op.load 22 (Operand.tmp 17), type := 22, pos := "prog.go:162", after := #[{ on := 0, ground := Ground.data }], guard := none }) (v := ?_) rfl (by kernel_rfl) (by kernel_rfl) (by kernel_rfl) (fun _ _ _ h => h) (Or.inl ⟨by rfl, ?_⟩) hHeld ?_
    rotate_left
    · intro u hSw
      have k9 := P0.out u hSw
      go_simp
      try with_reducible rfl
    try simp only [Act.put, List.setIfInBounds_toArray, List.set_cons_zero, List.set_cons_succ]
    refine wpAnyH_take (i := 2) (oi := { dst := some 19, op := Op.call { callee := Callee.builtin Builtin.len, args := #[Operand.tmp 18], argTypes := #[22] }, type := 3, pos := "prog.go:162", after := #[{ on := 1, ground := Ground.data }], guard := none }) (v := ?_) rfl (by kernel_rfl) (by kernel_rfl) (by kernel_rfl) (fun _ _ _ h => h) (Or.inl ⟨by rfl, ?_⟩) hHeld ?_
    rotate_left
    · intro u hSw
      go_simp
      try with_reducible rfl
    try simp only [Act.put, List.setIfInBounds_toArray, List.set_cons_zero, List.set_cons_succ]
    refine wpAnyH_take (i := 3) (oi := { dst := some 20, op := Op.fieldAddr 25 (Operand.tmp 1) 2, type := 0, pos := "prog.go:162", after := #[], guard := none }) (v := ?_) rfl (by kernel_rfl) (by kernel_rfl) (by kernel_rfl) (fun _ _ _ h => h) (Or.inl ⟨by rfl, ?_⟩) hHeld ?_
    rotate_left
    · intro u hSw
      go_simp
      try with_reducible rfl
    try simp only [Act.put, List.setIfInBounds_toArray, List.set_cons_zero, List.set_cons_succ]
    refine wpAnyH_take (i := 4) (oi := { dst := some 21, op := Op.load 3 (Operand.tmp 20), type := 3, pos := "prog.go:162", after := #[{ on := 3, ground := Ground.data }], guard := none }) (v := ?_) rfl (by kernel_rfl) (by kernel_rfl) (by kernel_rfl) (fun _ _ _ h => h) (Or.inl ⟨by rfl, ?_⟩) hHeld ?_
    rotate_left
    · intro u hSw
      have k9 := P2.out u hSw
      go_simp
      try with_reducible rfl
    try simp only [Act.put, List.setIfInBounds_toArray, List.set_cons_zero, List.set_cons_succ]
    refine wpAnyH_take (i := 6) (oi := { dst := some 23, op := Op.fieldAddr 25 (Operand.tmp 1) 1, type := 0, pos := "prog.go:162", after := #[], guard := none }) (v := ?_) rfl (by kernel_rfl) (by kernel_rfl) (by kernel_rfl) (fun _ _ _ h => h) (Or.inl ⟨by rfl, ?_⟩) hHeld ?_
    rotate_left
    · intro u hSw
      go_simp
      try with_reducible rfl
    try simp only [Act.put, List.setIfInBounds_toArray, List.set_cons_zero, List.set_cons_succ]
    refine wpAnyH_take (i := 7) (oi := { dst := some 24, op := Op.load 22 (Operand.tmp 23), type := 22, pos := "prog.go:162", after := #[{ on := 6, ground := Ground.data }], guard := none }) (v := ?_) rfl (by kernel_rfl) (by kernel_rfl) (by kernel_rfl) (fun _ _ _ h => h) (Or.inl ⟨by rfl, ?_⟩) hHeld ?_
    rotate_left
    · intro u hSw
      have k9 := P1.out u hSw
      go_simp
      try with_reducible rfl
    try simp only [Act.put, List.setIfInBounds_toArray, List.set_cons_zero, List.set_cons_succ]
    refine wpAnyH_take (i := 8) (oi := { dst := some 25, op := Op.call { callee := Callee.builtin Builtin.len, args := #[Operand.tmp 24], argTypes := #[22] }, type := 3, pos := "prog.go:162", after := #[{ on := 7, ground := Ground.data }], guard := none }) (v := ?_) rfl (by kernel_rfl) (by kernel_rfl) (by kernel_rfl) (fun _ _ _ h => h) (Or.inl ⟨by rfl, ?_⟩) hHeld ?_
    rotate_left
    · intro u hSw
      go_simp
      try with_reducible rfl
    try simp only [Act.put, List.setIfInBounds_toArray, List.set_cons_zero, List.set_cons_succ]
    refine wpAnyH_ready (rs := [5, 9, 11]) (by kernel_rfl) (by simp) ?_
    refine (AllReadyH.cons (o := { dst := some 22, op := Op.makeSlice 68 (Operand.tmp 21) (Operand.tmp 21), type := 68, pos := "prog.go:162", after := #[{ on := 4, ground := Ground.data }, { on := 4, ground := Ground.data }], guard := none }) rfl (fun K hK => ?_) (AllReadyH.cons (o := { dst := some 26, op := Op.makeSlice 68 (Operand.tmp 25) (Operand.tmp 25), type := 68, pos := "prog.go:162", after := #[{ on := 8, ground := Ground.data }, { on := 8, ground := Ground.data }], guard := none }) rfl (fun K hK => ?_) (AllReadyH.cons (o := { dst := some 5, op := Op.alloc 80, type := 0, pos := "prog.go:162", after := #[], guard := none }) rfl (fun K hK => ?_) AllReadyH.nil)))
    · have hS1 : Below W.heap.size W ((W.alloc (.cells (slO rg il (fun _ => none)) 31)).drew) := ((hS0).alloc (by simp <;> omega) _)
      have mkM := run_makeN rg il hrgn (W.drew)
      go_simp
      refine hK.out _ _ ?_ (fun hHeld => ?_)
      · exact hS1
      clear hK K
      try simp only [Act.put, List.setIfInBounds_toArray, List.set_cons_zero, List.set_cons_succ]
      refine wpAnyH_ready (rs := [9, 11]) (by kernel_rfl) (by simp) ?_
      refine (AllReadyH.cons (o := { dst := some 26, op := Op.makeSlice 68 (Operand.tmp 25) (Operand.tmp 25), type := 68, pos := "prog.go:162", after := #[{ on := 8, ground := Ground.data }, { on := 8, ground := Ground.data }], guard := none }) rfl (fun K hK => ?_) (AllReadyH.cons (o := { dst := some 5, op := Op.alloc 80, type := 0, pos := "prog.go:162", after := #[], guard := none }) rfl (fun K hK => ?_) AllReadyH.nil))
      · have hS2 : Below W.heap.size W (((W.alloc (.cells (slO rg il (fun _ => none)) 31)).alloc (.cells (slO ol il (fun _ => none)) 31)).drew) := ((hS1).alloc (by simp <;> omega) _)
        have mkQ := run_makeN ol il (by omega) ((W.alloc (.cells (slO rg il (fun _ => none)) 31)).drew)
        go_simp
        refine hK.out _ _ ?_ (fun hHeld => ?_)
        · exact hS2
        clear hK K
        try simp only [Act.put, List.setIfInBounds_toArray, List.set_cons_zero, List.set_cons_succ]
        refine wpAnyH_take (i := 10) (oi := { dst := some 27, op := Op.build 80 #[(0, Operand.tmp 19), (1, Operand.tmp 22), (2, Operand.tmp 26)], type := 80, pos := "prog.go:162", after := #[{ on := 2, ground := Ground.data }, { on := 5, ground := Ground.data }, { on := 9, ground := Ground.data }], guard := none }) (v := ?_) rfl (by kernel_rfl) (by kernel_rfl) (by kernel_rfl) (fun _ _ _ h => h) (Or.inl ⟨by rfl, ?_⟩) hHeld ?_
        rotate_left
        · intro u hSw
          go_simp
          try with_reducible rfl
        try simp only [Act.put, List.setIfInBounds_toArray, List.set_cons_zero, List.set_cons_succ]
        refine wpAnyH_ready (rs := [11]) (by kernel_rfl) (by simp) ?_
        refine (AllReadyH.cons (o := { dst := some 5, op := Op.alloc 80, type := 0, pos := "prog.go:162", after := #[], guard := none }) rfl (fun K hK => ?_) AllReadyH.nil)
        have hS3 : Below W.heap.size W ((((W.alloc (.cells (slO rg il (fun _ => none)) 31)).alloc (.cells (slO ol il (fun _ => none)) 31)).alloc (.cells #[.int .i64 0, .slice none 0 0, .slice none 0 0] 80)).drew) := ((hS2).alloc (by simp <;> omega) _)
        go_simp
        refine hK.out _ _ ?_ (fun hHeld => ?_)
        · exact hS3
        clear hK K
        try simp only [Act.put, List.setIfInBounds_toArray, List.set_cons_zero, List.set_cons_succ]
        refine wpAnyH_ready (rs := [12]) (by kernel_rfl) (by simp) ?_
        refine (AllReadyH.cons (o := { dst := none, op := Op.store 80 (Operand.tmp 5) (Operand.tmp 27), type := 0, pos := "prog.go:162", after := #[{ on := 11, ground := Ground.data }, { on := 10, ground := Ground.data }, { on := 0, ground := Ground.phase }, { on := 1, ground := Ground.phase }, { on := 2, ground := Ground.phase }, { on := 3, ground := Ground.phase }, { on := 4, ground := Ground.phase }, { on := 5, ground := Ground.phase }, { on := 6, ground := Ground.phase }, { on := 7, ground := Ground.phase }, { on := 8, ground := Ground.phase }, { on := 9, ground := Ground.phase }, { on := 10, ground := Ground.phase }, { on := 11, ground := Ground.phase }], guard := none }) rfl (fun K hK => ?_) AllReadyH.nil)
        go_simp
        refine hK.out _ _ ?_ (fun hHeld => ?_)
        · exact ((((Below.refl W.heap.size W).alloc (by simp <;> omega) _).alloc (by simp <;> omega) _).alloc (by simp <;> omega) _).drew
        clear hK K
        try simp only [Act.put, List.setIfInBounds_toArray, List.set_cons_zero, List.set_cons_succ]
        refine wpAnyH_done (by kernel_rfl) ?_ _
        refine NoPanic.normal ?_
        go_wp2
        go_meet
        have hA : Holds (((W.alloc (.cells (slO rg il (fun _ => none)) 31)).alloc (.cells (slO ol il (fun _ => none)) 31)).alloc (.cells #[.int .i64 il, .slice (some ⟨W.heap.size, 0, none⟩) rg rg, .slice (some ⟨W.heap.size + 1, 0, none⟩) ol ol] 80)) [(W.heap.size + 1 + 1, .cells #[.int .i64 il, .slice (some ⟨W.heap.size, 0, none⟩) rg rg, .slice (some ⟨W.heap.size + 1, 0, none⟩) ol ol] 80 (0, 0)), (W.heap.size + 1, .cells (slO ol il (fun _ => none)) 31 (0, 0)), (W.heap.size, .cells (slO rg il (fun _ => none)) 31 (0, 0))] := by
          have h := holds_new (holds_new (holds_new (holds_nil W) (slO rg il (fun _ => none)) 31) (slO ol il (fun _ => none)) 31) #[.int .i64 il, .slice (some ⟨W.heap.size, 0, none⟩) rg rg, .slice (some ⟨W.heap.size + 1, 0, none⟩) ol ol] 80
          simp only [World.size_alloc] at h
          exact h
        exact ⟨W.heap.size + 1 + 1, W.heap.size, W.heap.size + 1, rfl, ((((Below.refl W.heap.size W).alloc (by simp <;> omega) _).alloc (by simp <;> omega) _).alloc (by simp <;> omega) _).drew, holds_at hA 0 rfl, holds_at hA 2 rfl, holds_at hA 1 rfl, by omega, by omega, by omega, by omega, by omega, by omega⟩
      · have hS2 : Below W.heap.size W (((W.alloc (.cells (slO rg il (fun _ => none)) 31)).alloc (.cells #[.int .i64 0, .slice none 0 0, .slice none 0 0] 80)).drew) := ((hS1).alloc (by simp <;> omega) _)
        go_simp
        refine hK.out _ _ ?_ (fun hHeld => ?_)
        · exact hS2
        clear hK K
        try simp only [Act.put, List.setIfInBounds_toArray, List.set_cons_zero, List.set_cons_succ]
        refine wpAnyH_ready (rs := [9]) (by kernel_rfl) (by simp) ?_
        refine (AllReadyH.cons (o := { dst := some 26, op := Op.makeSlice 68 (Operand.tmp 25) (Operand.tmp 25), type := 68, pos := "prog.go:162", after := #[{ on := 8, ground := Ground.data }, { on := 8, ground := Ground.data }], guard := none }) rfl (fun K hK => ?_) AllReadyH.nil)
        have hS3 : Below W.heap.size W ((((W.alloc (.cells (slO rg il (fun _ => none)) 31)).alloc (.cells #[.int .i64 0, .slice none 0 0, .slice none 0 0] 80)).alloc (.cells (slO ol il (fun _ => none)) 31)).drew) := ((hS2).alloc (by simp <;> omega) _)
        have mkQ := run_makeN ol il (by omega) (((W.alloc (.cells (slO rg il (fun _ => none)) 31)).alloc (.cells #[.int .i64 0, .slice none 0 0, .slice none 0 0] 80)).drew)
        go_simp
        refine hK.out _ _ ?_ (fun hHeld => ?_)
        · exact hS3
        clear hK K
        try simp only [Act.put, List.setIfInBounds_toArray, List.set_cons_zero, List.set_cons_succ]
        refine wpAnyH_take (i := 10) (oi := { dst := some 27, op := Op.build 80 #[(0, Operand.tmp 19), (1, Operand.tmp 22), (2, Operand.tmp 26)], type := 80, pos := "prog.go:162", after := #[{ on := 2, ground := Ground.data }, { on := 5, ground := Ground.data }, { on := 9, ground := Ground.data }], guard := none }) (v := ?_) rfl (by kernel_rfl) (by kernel_rfl) (by kernel_rfl) (fun _ _ _ h => h) (Or.inl ⟨by rfl, ?_⟩) hHeld ?_
        rotate_left
        · intro u hSw
          go_simp
          try with_reducible rfl
        try simp only [Act.put, List.setIfInBounds_toArray, List.set_cons_zero, List.set_cons_succ]
        refine wpAnyH_ready (rs := [12]) (by kernel_rfl) (by simp) ?_
        refine (AllReadyH.cons (o := { dst := none, op := Op.store 80 (Operand.tmp 5) (Operand.tmp 27), type := 0, pos := "prog.go:162", after := #[{ on := 11, ground := Ground.data }, { on := 10, ground := Ground.data }, { on := 0, ground := Ground.phase }, { on := 1, ground := Ground.phase }, { on := 2, ground := Ground.phase }, { on := 3, ground := Ground.phase }, { on := 4, ground := Ground.phase }, { on := 5, ground := Ground.phase }, { on := 6, ground := Ground.phase }, { on := 7, ground := Ground.phase }, { on := 8, ground := Ground.phase }, { on := 9, ground := Ground.phase }, { on := 10, ground := Ground.phase }, { on := 11, ground := Ground.phase }], guard := none }) rfl (fun K hK => ?_) AllReadyH.nil)
        go_simp
        refine hK.out _ _ ?_ (fun hHeld => ?_)
        · exact ((((Below.refl W.heap.size W).alloc (by simp <;> omega) _).alloc (by simp <;> omega) _).alloc (by simp <;> omega) _).drew
        clear hK K
        try simp only [Act.put, List.setIfInBounds_toArray, List.set_cons_zero, List.set_cons_succ]
        refine wpAnyH_done (by kernel_rfl) ?_ _
        refine NoPanic.normal ?_
        go_wp2
        go_meet
        have hA : Holds (((W.alloc (.cells (slO rg il (fun _ => none)) 31)).alloc (.cells #[.int .i64 il, .slice (some ⟨W.heap.size, 0, none⟩) rg rg, .slice (some ⟨W.heap.size + 1 + 1, 0, none⟩) ol ol] 80)).alloc (.cells (slO ol il (fun _ => none)) 31)) [(W.heap.size + 1 + 1, .cells (slO ol il (fun _ => none)) 31 (0, 0)), (W.heap.size + 1, .cells #[.int .i64 il, .slice (some ⟨W.heap.size, 0, none⟩) rg rg, .slice (some ⟨W.heap.size + 1 + 1, 0, none⟩) ol ol] 80 (0, 0)), (W.heap.size, .cells (slO rg il (fun _ => none)) 31 (0, 0))] := by
          have h := holds_new (holds_new (holds_new (holds_nil W) (slO rg il (fun _ => none)) 31) #[.int .i64 il, .slice (some ⟨W.heap.size, 0, none⟩) rg rg, .slice (some ⟨W.heap.size + 1 + 1, 0, none⟩) ol ol] 80) (slO ol il (fun _ => none)) 31
          simp only [World.size_alloc] at h
          exact h
        exact ⟨W.heap.size + 1, W.heap.size, W.heap.size + 1 + 1, rfl, ((((Below.refl W.heap.size W).alloc (by simp <;> omega) _).alloc (by simp <;> omega) _).alloc (by simp <;> omega) _).drew, holds_at hA 1 rfl, holds_at hA 2 rfl, holds_at hA 0 rfl, by omega, by omega, by omega, by omega, by omega, by omega⟩
    · have hS1 : Below W.heap.size W ((W.alloc (.cells (slO ol il (fun _ => none)) 31)).drew) := ((hS0).alloc (by simp <;> omega) _)
      have mkQ := run_makeN ol il (by omega) (W.drew)
      go_simp
      refine hK.out _ _ ?_ (fun hHeld => ?_)
      · exact hS1
      clear hK K
      try simp only [Act.put, List.setIfInBounds_toArray, List.set_cons_zero, List.set_cons_succ]
      refine wpAnyH_ready (rs := [5, 11]) (by kernel_rfl) (by simp) ?_
      refine (AllReadyH.cons (o := { dst := some 22, op := Op.makeSlice 68 (Operand.tmp 21) (Operand.tmp 21), type := 68, pos := "prog.go:162", after := #[{ on := 4, ground := Ground.data }, { on := 4, ground := Ground.data }], guard := none }) rfl (fun K hK => ?_) (AllReadyH.cons (o := { dst := some 5, op := Op.alloc 80, type := 0, pos := "prog.go:162", after := #[], guard := none }) rfl (fun K hK => ?_) AllReadyH.nil))
      · have hS2 : Below W.heap.size W (((W.alloc (.cells (slO ol il (fun _ => none)) 31)).alloc (.cells (slO rg il (fun _ => none)) 31)).drew) := ((hS1).alloc (by simp <;> omega) _)
        have mkM := run_makeN rg il hrgn ((W.alloc (.cells (slO ol il (fun _ => none)) 31)).drew)
        go_simp
        refine hK.out _ _ ?_ (fun hHeld => ?_)
        · exact hS2
        clear hK K
        try simp only [Act.put, List.setIfInBounds_toArray, List.set_cons_zero, List.set_cons_succ]
        refine wpAnyH_take (i := 10) (oi := { dst := some 27, op := Op.build 80 #[(0, Operand.tmp 19), (1, Operand.tmp 22), (2, Operand.tmp 26)], type := 80, pos := "prog.go:162", after := #[{ on := 2, ground := Ground.data }, { on := 5, ground := Ground.data }, { on := 9, ground := Ground.data }], guard := none }) (v := ?_) rfl (by kernel_rfl) (by kernel_rfl) (by kernel_rfl) (fun _ _ _ h => h) (Or.inl ⟨by rfl, ?_⟩) hHeld ?_
        rotate_left
        · intro u hSw
          go_simp
          try with_reducible rfl
        try simp only [Act.put, List.setIfInBounds_toArray, List.set_cons_zero, List.set_cons_succ]
        refine wpAnyH_ready (rs := [11]) (by kernel_rfl) (by simp) ?_
        refine (AllReadyH.cons (o := { dst := some 5, op := Op.alloc 80, type := 0, pos := "prog.go:162", after := #[], guard := none }) rfl (fun K hK => ?_) AllReadyH.nil)
        have hS3 : Below W.heap.size W ((((W.alloc (.cells (slO ol il (fun _ => none)) 31)).alloc (.cells (slO rg il (fun _ => none)) 31)).alloc (.cells #[.int .i64 0, .slice none 0 0, .slice none 0 0] 80)).drew) := ((hS2).alloc (by simp <;> omega) _)
        go_simp
        refine hK.out _ _ ?_ (fun hHeld => ?_)
        · exact hS3
        clear hK K
        try simp only [Act.put, List.setIfInBounds_toArray, List.set_cons_zero, List.set_cons_succ]
        refine wpAnyH_ready (rs := [12]) (by kernel_rfl) (by simp) ?_
        refine (AllReadyH.cons (o := { dst := none, op := Op.store 80 (Operand.tmp 5) (Operand.tmp 27), type := 0, pos := "prog.go:162", after := #[{ on := 11, ground := Ground.data }, { on := 10, ground := Ground.data }, { on := 0, ground := Ground.phase }, { on := 1, ground := Ground.phase }, { on := 2, ground := Ground.phase }, { on := 3, ground := Ground.phase }, { on := 4, ground := Ground.phase }, { on := 5, ground := Ground.phase }, { on := 6, ground := Ground.phase }, { on := 7, ground := Ground.phase }, { on := 8, ground := Ground.phase }, { on := 9, ground := Ground.phase }, { on := 10, ground := Ground.phase }, { on := 11, ground := Ground.phase }], guard := none }) rfl (fun K hK => ?_) AllReadyH.nil)
        go_simp
        refine hK.out _ _ ?_ (fun hHeld => ?_)
        · exact ((((Below.refl W.heap.size W).alloc (by simp <;> omega) _).alloc (by simp <;> omega) _).alloc (by simp <;> omega) _).drew
        clear hK K
        try simp only [Act.put, List.setIfInBounds_toArray, List.set_cons_zero, List.set_cons_succ]
        refine wpAnyH_done (by kernel_rfl) ?_ _
        refine NoPanic.normal ?_
        go_wp2
        go_meet
        have hA : Holds (((W.alloc (.cells (slO ol il (fun _ => none)) 31)).alloc (.cells (slO rg il (fun _ => none)) 31)).alloc (.cells #[.int .i64 il, .slice (some ⟨W.heap.size + 1, 0, none⟩) rg rg, .slice (some ⟨W.heap.size, 0, none⟩) ol ol] 80)) [(W.heap.size + 1 + 1, .cells #[.int .i64 il, .slice (some ⟨W.heap.size + 1, 0, none⟩) rg rg, .slice (some ⟨W.heap.size, 0, none⟩) ol ol] 80 (0, 0)), (W.heap.size + 1, .cells (slO rg il (fun _ => none)) 31 (0, 0)), (W.heap.size, .cells (slO ol il (fun _ => none)) 31 (0, 0))] := by
          have h := holds_new (holds_new (holds_new (holds_nil W) (slO ol il (fun _ => none)) 31) (slO rg il (fun _ => none)) 31) #[.int .i64 il, .slice (some ⟨W.heap.size + 1, 0, none⟩) rg rg, .slice (some ⟨W.heap.size, 0, none⟩) ol ol] 80
          simp only [World.size_alloc] at h
          exact h
        exact ⟨W.heap.size + 1 + 1, W.heap.size + 1, W.heap.size, rfl, ((((Below.refl W.heap.size W).alloc (by simp <;> omega) _).alloc (by simp <;> omega) _).alloc (by simp <;> omega) _).drew, holds_at hA 0 rfl, holds_at hA 1 rfl, holds_at hA 2 rfl, by omega, by omega, by omega, by omega, by omega, by omega⟩
      · have hS2 : Below W.heap.size W (((W.alloc (.cells (slO ol il (fun _ => none)) 31)).alloc (.cells #[.int .i64 0, .slice none 0 0, .slice none 0 0] 80)).drew) := ((hS1).alloc (by simp <;> omega) _)
        go_simp
        refine hK.out _ _ ?_ (fun hHeld => ?_)
        · exact hS2
        clear hK K
        try simp only [Act.put, List.setIfInBounds_toArray, List.set_cons_zero, List.set_cons_succ]
        refine wpAnyH_ready (rs := [5]) (by kernel_rfl) (by simp) ?_
        refine (AllReadyH.cons (o := { dst := some 22, op := Op.makeSlice 68 (Operand.tmp 21) (Operand.tmp 21), type := 68, pos := "prog.go:162", after := #[{ on := 4, ground := Ground.data }, { on := 4, ground := Ground.data }], guard := none }) rfl (fun K hK => ?_) AllReadyH.nil)
        have hS3 : Below W.heap.size W ((((W.alloc (.cells (slO ol il (fun _ => none)) 31)).alloc (.cells #[.int .i64 0, .slice none 0 0, .slice none 0 0] 80)).alloc (.cells (slO rg il (fun _ => none)) 31)).drew) := ((hS2).alloc (by simp <;> omega) _)
        have mkM := run_makeN rg il hrgn (((W.alloc (.cells (slO ol il (fun _ => none)) 31)).alloc (.cells #[.int .i64 0, .slice none 0 0, .slice none 0 0] 80)).drew)
        go_simp
        refine hK.out _ _ ?_ (fun hHeld => ?_)
        · exact hS3
        clear hK K
        try simp only [Act.put, List.setIfInBounds_toArray, List.set_cons_zero, List.set_cons_succ]
        refine wpAnyH_take (i := 10) (oi := { dst := some 27, op := Op.build 80 #[(0, Operand.tmp 19), (1, Operand.tmp 22), (2, Operand.tmp 26)], type := 80, pos := "prog.go:162", after := #[{ on := 2, ground := Ground.data }, { on := 5, ground := Ground.data }, { on := 9, ground := Ground.data }], guard := none }) (v := ?_) rfl (by kernel_rfl) (by kernel_rfl) (by kernel_rfl) (fun _ _ _ h => h) (Or.inl ⟨by rfl, ?_⟩) hHeld ?_
        rotate_left
        · intro u hSw
          go_simp
          try with_reducible rfl
        try simp only [Act.put, List.setIfInBounds_toArray, List.set_cons_zero, List.set_cons_succ]
        refine wpAnyH_ready (rs := [12]) (by kernel_rfl) (by simp) ?_
        refine (AllReadyH.cons (o := { dst := none, op := Op.store 80 (Operand.tmp 5) (Operand.tmp 27), type := 0, pos := "prog.go:162", after := #[{ on := 11, ground := Ground.data }, { on := 10, ground := Ground.data }, { on := 0, ground := Ground.phase }, { on := 1, ground := Ground.phase }, { on := 2, ground := Ground.phase }, { on := 3, ground := Ground.phase }, { on := 4, ground := Ground.phase }, { on := 5, ground := Ground.phase }, { on := 6, ground := Ground.phase }, { on := 7, ground := Ground.phase }, { on := 8, ground := Ground.phase }, { on := 9, ground := Ground.phase }, { on := 10, ground := Ground.phase }, { on := 11, ground := Ground.phase }], guard := none }) rfl (fun K hK => ?_) AllReadyH.nil)
        go_simp
        refine hK.out _ _ ?_ (fun hHeld => ?_)
        · exact ((((Below.refl W.heap.size W).alloc (by simp <;> omega) _).alloc (by simp <;> omega) _).alloc (by simp <;> omega) _).drew
        clear hK K
        try simp only [Act.put, List.setIfInBounds_toArray, List.set_cons_zero, List.set_cons_succ]
        refine wpAnyH_done (by kernel_rfl) ?_ _
        refine NoPanic.normal ?_
        go_wp2
        go_meet
        have hA : Holds (((W.alloc (.cells (slO ol il (fun _ => none)) 31)).alloc (.cells #[.int .i64 il, .slice (some ⟨W.heap.size + 1 + 1, 0, none⟩) rg rg, .slice (some ⟨W.heap.size, 0, none⟩) ol ol] 80)).alloc (.cells (slO rg il (fun _ => none)) 31)) [(W.heap.size + 1 + 1, .cells (slO rg il (fun _ => none)) 31 (0, 0)), (W.heap.size + 1, .cells #[.int .i64 il, .slice (some ⟨W.heap.size + 1 + 1, 0, none⟩) rg rg, .slice (some ⟨W.heap.size, 0, none⟩) ol ol] 80 (0, 0)), (W.heap.size, .cells (slO ol il (fun _ => none)) 31 (0, 0))] := by
          have h := holds_new (holds_new (holds_new (holds_nil W) (slO ol il (fun _ => none)) 31) #[.int .i64 il, .slice (some ⟨W.heap.size + 1 + 1, 0, none⟩) rg rg, .slice (some ⟨W.heap.size, 0, none⟩) ol ol] 80) (slO rg il (fun _ => none)) 31
          simp only [World.size_alloc] at h
          exact h
        exact ⟨W.heap.size + 1, W.heap.size + 1 + 1, W.heap.size, rfl, ((((Below.refl W.heap.size W).alloc (by simp <;> omega) _).alloc (by simp <;> omega) _).alloc (by simp <;> omega) _).drew, holds_at hA 1 rfl, holds_at hA 0 rfl, holds_at hA 2 rfl, by omega, by omega, by omega, by omega, by omega, by omega⟩
    · have hS1 : Below W.heap.size W ((W.alloc (.cells #[.int .i64 0, .slice none 0 0, .slice none 0 0] 80)).drew) := ((hS0).alloc (by simp <;> omega) _)
      go_simp
      refine hK.out _ _ ?_ (fun hHeld => ?_)
      · exact hS1
      clear hK K
      try simp only [Act.put, List.setIfInBounds_toArray, List.set_cons_zero, List.set_cons_succ]
      refine wpAnyH_ready (rs := [5, 9]) (by kernel_rfl) (by simp) ?_
      refine (AllReadyH.cons (o := { dst := some 22, op := Op.makeSlice 68 (Operand.tmp 21) (Operand.tmp 21), type := 68, pos := "prog.go:162", after := #[{ on := 4, ground := Ground.data }, { on := 4, ground := Ground.data }], guard := none }) rfl (fun K hK => ?_) (AllReadyH.cons (o := { dst := some 26, op := Op.makeSlice 68 (Operand.tmp 25) (Operand.tmp 25), type := 68, pos := "prog.go:162", after := #[{ on := 8, ground := Ground.data }, { on := 8, ground := Ground.data }], guard := none }) rfl (fun K hK => ?_) AllReadyH.nil))
      · have hS2 : Below W.heap.size W (((W.alloc (.cells #[.int .i64 0, .slice none 0 0, .slice none 0 0] 80)).alloc (.cells (slO rg il (fun _ => none)) 31)).drew) := ((hS1).alloc (by simp <;> omega) _)
        have mkM := run_makeN rg il hrgn ((W.alloc (.cells #[.int .i64 0, .slice none 0 0, .slice none 0 0] 80)).drew)
        go_simp
        refine hK.out _ _ ?_ (fun hHeld => ?_)
        · exact hS2
        clear hK K
        try simp only [Act.put, List.setIfInBounds_toArray, List.set_cons_zero, List.set_cons_succ]
        refine wpAnyH_ready (rs := [9]) (by kernel_rfl) (by simp) ?_
        refine (AllReadyH.cons (o := { dst := some 26, op := Op.makeSlice 68 (Operand.tmp 25) (Operand.tmp 25), type := 68, pos := "prog.go:162", after := #[{ on := 8, ground := Ground.data }, { on := 8, ground := Ground.data }], guard := none }) rfl (fun K hK => ?_) AllReadyH.nil)
        have hS3 : Below W.heap.size W ((((W.alloc (.cells #[.int .i64 0, .slice none 0 0, .slice none 0 0] 80)).alloc (.cells (slO rg il (fun _ => none)) 31)).alloc (.cells (slO ol il (fun _ => none)) 31)).drew) := ((hS2).alloc (by simp <;> omega) _)
        have mkQ := run_makeN ol il (by omega) (((W.alloc (.cells #[.int .i64 0, .slice none 0 0, .slice none 0 0] 80)).alloc (.cells (slO rg il (fun _ => none)) 31)).drew)
        go_simp
        refine hK.out _ _ ?_ (fun hHeld => ?_)
        · exact hS3
        clear hK K
        try simp only [Act.put, List.setIfInBounds_toArray, List.set_cons_zero, List.set_cons_succ]
        refine wpAnyH_take (i := 10) (oi := { dst := some 27, op := Op.build 80 #[(0, Operand.tmp 19), (1, Operand.tmp 22), (2, Operand.tmp 26)], type := 80, pos := "prog.go:162", after := #[{ on := 2, ground := Ground.data }, { on := 5, ground := Ground.data }, { on := 9, ground := Ground.data }], guard := none }) (v := ?_) rfl (by kernel_rfl) (by kernel_rfl) (by kernel_rfl) (fun _ _ _ h => h) (Or.inl ⟨by rfl, ?_⟩) hHeld ?_
        rotate_left
        · intro u hSw
          go_simp
          try with_reducible rfl
        try simp only [Act.put, List.setIfInBounds_toArray, List.set_cons_zero, List.set_cons_succ]
        refine wpAnyH_ready (rs := [12]) (by kernel_rfl) (by simp) ?_
        refine (AllReadyH.cons (o := { dst := none, op := Op.store 80 (Operand.tmp 5) (Operand.tmp 27), type := 0, pos := "prog.go:162", after := #[{ on := 11, ground := Ground.data }, { on := 10, ground := Ground.data }, { on := 0, ground := Ground.phase }, { on := 1, ground := Ground.phase }, { on := 2, ground := Ground.phase }, { on := 3, ground := Ground.phase }, { on := 4, ground := Ground.phase }, { on := 5, ground := Ground.phase }, { on := 6, ground := Ground.phase }, { on := 7, ground := Ground.phase }, { on := 8, ground := Ground.phase }, { on := 9, ground := Ground.phase }, { on := 10, ground := Ground.phase }, { on := 11, ground := Ground.phase }], guard := none }) rfl (fun K hK => ?_) AllReadyH.nil)
        go_simp
        refine hK.out _ _ ?_ (fun hHeld => ?_)
        · exact ((((Below.refl W.heap.size W).alloc (by simp <;> omega) _).alloc (by simp <;> omega) _).alloc (by simp <;> omega) _).drew
        clear hK K
        try simp only [Act.put, List.setIfInBounds_toArray, List.set_cons_zero, List.set_cons_succ]
        refine wpAnyH_done (by kernel_rfl) ?_ _
        refine NoPanic.normal ?_
        go_wp2
        go_meet
        have hA : Holds (((W.alloc (.cells #[.int .i64 il, .slice (some ⟨W.heap.size + 1, 0, none⟩) rg rg, .slice (some ⟨W.heap.size + 1 + 1, 0, none⟩) ol ol] 80)).alloc (.cells (slO rg il (fun _ => none)) 31)).alloc (.cells (slO ol il (fun _ => none)) 31)) [(W.heap.size + 1 + 1, .cells (slO ol il (fun _ => none)) 31 (0, 0)), (W.heap.size + 1, .cells (slO rg il (fun _ => none)) 31 (0, 0)), (W.heap.size, .cells #[.int .i64 il, .slice (some ⟨W.heap.size + 1, 0, none⟩) rg rg, .slice (some ⟨W.heap.size + 1 + 1, 0, none⟩) ol ol] 80 (0, 0))] := by
          have h := holds_new (holds_new (holds_new (holds_nil W) #[.int .i64 il, .slice (some ⟨W.heap.size + 1, 0, none⟩) rg rg, .slice (some ⟨W.heap.size + 1 + 1, 0, none⟩) ol ol] 80) (slO rg il (fun _ => none)) 31) (slO ol il (fun _ => none)) 31
          simp only [World.size_alloc] at h
          exact h
        exact ⟨W.heap.size, W.heap.size + 1, W.heap.size + 1 + 1, rfl, ((((Below.refl W.heap.size W).alloc (by simp <;> omega) _).alloc (by simp <;> omega) _).alloc (by simp <;> omega) _).drew, holds_at hA 2 rfl, holds_at hA 1 rfl, holds_at hA 0 rfl, by omega, by omega, by omega, by omega, by omega, by omega⟩
      · have hS2 : Below W.heap.size W (((W.alloc (.cells #[.int .i64 0, .slice none 0 0, .slice none 0 0] 80)).alloc (.cells (slO ol il (fun _ => none)) 31)).drew) := ((hS1).alloc (by simp <;> omega) _)
        have mkQ := run_makeN ol il (by omega) ((W.alloc (.cells #[.int .i64 0, .slice none 0 0, .slice none 0 0] 80)).drew)
        go_simp
        refine hK.out _ _ ?_ (fun hHeld => ?_)
        · exact hS2
        clear hK K
        try simp only [Act.put, List.setIfInBounds_toArray, List.set_cons_zero, List.set_cons_succ]
        refine wpAnyH_ready (rs := [5]) (by kernel_rfl) (by simp) ?_
        refine (AllReadyH.cons (o := { dst := some 22, op := Op.makeSlice 68 (Operand.tmp 21) (Operand.tmp 21), type := 68, pos := "prog.go:162", after := #[{ on := 4, ground := Ground.data }, { on := 4, ground := Ground.data }], guard := none }) rfl (fun K hK => ?_) AllReadyH.nil)
        have hS3 : Below W.heap.size W ((((W.alloc (.cells #[.int .i64 0, .slice none 0 0, .slice none 0 0] 80)).alloc (.cells (slO ol il (fun _ => none)) 31)).alloc (.cells (slO rg il (fun _ => none)) 31)).drew) := ((hS2).alloc (by simp <;> omega) _)
        have mkM := run_makeN rg il hrgn (((W.alloc (.cells #[.int .i64 0, .slice none 0 0, .slice none 0 0] 80)).alloc (.cells (slO ol il (fun _ => none)) 31)).drew)
        go_simp
        refine hK.out _ _ ?_ (fun hHeld => ?_)
        · exact hS3
        clear hK K
        try simp only [Act.put, List.setIfInBounds_toArray, List.set_cons_zero, List.set_cons_succ]
        refine wpAnyH_take (i := 10) (oi := { dst := some 27, op := Op.build 80 #[(0, Operand.tmp 19), (1, Operand.tmp 22), (2, Operand.tmp 26)], type := 80, pos := "prog.go:162", after := #[{ on := 2, ground := Ground.data }, { on := 5, ground := Ground.data }, { on := 9, ground := Ground.data }], guard := none }) (v := ?_) rfl (by kernel_rfl) (by kernel_rfl) (by kernel_rfl) (fun _ _ _ h => h) (Or.inl ⟨by rfl, ?_⟩) hHeld ?_
        rotate_left
        · intro u hSw
          go_simp
          try with_reducible rfl
        try simp only [Act.put, List.setIfInBounds_toArray, List.set_cons_zero, List.set_cons_succ]
        refine wpAnyH_ready (rs := [12]) (by kernel_rfl) (by simp) ?_
        refine (AllReadyH.cons (o := { dst := none, op := Op.store 80 (Operand.tmp 5) (Operand.tmp 27), type := 0, pos := "prog.go:162", after := #[{ on := 11, ground := Ground.data }, { on := 10, ground := Ground.data }, { on := 0, ground := Ground.phase }, { on := 1, ground := Ground.phase }, { on := 2, ground := Ground.phase }, { on := 3, ground := Ground.phase }, { on := 4, ground := Ground.phase }, { on := 5, ground := Ground.phase }, { on := 6, ground := Ground.phase }, { on := 7, ground := Ground.phase }, { on := 8, ground := Ground.phase }, { on := 9, ground := Ground.phase }, { on := 10, ground := Ground.phase }, { on := 11, ground := Ground.phase }], guard := none }) rfl (fun K hK => ?_) AllReadyH.nil)
        go_simp
        refine hK.out _ _ ?_ (fun hHeld => ?_)
        · exact ((((Below.refl W.heap.size W).alloc (by simp <;> omega) _).alloc (by simp <;> omega) _).alloc (by simp <;> omega) _).drew
        clear hK K
        try simp only [Act.put, List.setIfInBounds_toArray, List.set_cons_zero, List.set_cons_succ]
        refine wpAnyH_done (by kernel_rfl) ?_ _
        refine NoPanic.normal ?_
        go_wp2
        go_meet
        have hA : Holds (((W.alloc (.cells #[.int .i64 il, .slice (some ⟨W.heap.size + 1 + 1, 0, none⟩) rg rg, .slice (some ⟨W.heap.size + 1, 0, none⟩) ol ol] 80)).alloc (.cells (slO ol il (fun _ => none)) 31)).alloc (.cells (slO rg il (fun _ => none)) 31)) [(W.heap.size + 1 + 1, .cells (slO rg il (fun _ => none)) 31 (0, 0)), (W.heap.size + 1, .cells (slO ol il (fun _ => none)) 31 (0, 0)), (W.heap.size, .cells #[.int .i64 il, .slice (some ⟨W.heap.size + 1 + 1, 0, none⟩) rg rg, .slice (some ⟨W.heap.size + 1, 0, none⟩) ol ol] 80 (0, 0))] := by
          have h := holds_new (holds_new (holds_new (holds_nil W) #[.int .i64 il, .slice (some ⟨W.heap.size + 1 + 1, 0, none⟩) rg rg, .slice (some ⟨W.heap.size + 1, 0, none⟩) ol ol] 80) (slO ol il (fun _ => none)) 31) (slO rg il (fun _ => none)) 31
          simp only [World.size_alloc] at h
          exact h
        exact ⟨W.heap.size, W.heap.size + 1 + 1, W.heap.size + 1, rfl, ((((Below.refl W.heap.size W).alloc (by simp <;> omega) _).alloc (by simp <;> omega) _).alloc (by simp <;> omega) _).drew, holds_at hA 2 rfl, holds_at hA 0 rfl, holds_at hA 1 rfl, by omega, by omega, by omega, by omega, by omega, by omega⟩

  case rest =>
  obtain ⟨cb, M, Q, rfl, hbc, hkc, hkM, hkQ, hl1, hl2, hl3, hn1, hn2, hn3⟩ := hcut
  have HI0 : Hid (IniW W.heap.size wc cb M Q il rg ol 0 (fun _ => none)) := ⟨hkc, hkM, hkQ, fun x hx => absurd hx (Nat.not_lt_zero _), hl1, hl2, hl3, hn1, hn2, hn3⟩
  have HBC : Hid (Below W.heap.size W wc) := hbc
  have c1 := cellAt hkc 1 _ rfl
  clear hbc hkc hkM hkQ hl1 hl2 hl3 hn1 hn2 hn3 P0 P1 P2
  go_wp2
  clear c1
  go_loopw [31] (fun i wr => ∃ (k : Nat) (g : Nat → Option (Option Addr × Nat)), k ≤ rg ∧ i = .int .i64 k ∧ Below W.heap.size W wr ∧ IniW W.heap.size wr cb M Q il rg ol k g) (fun i _ => rg - (intOf i).toNat)
  case atStart => exact ⟨0, _, Nat.zero_le _, rfl, HBC.out, HI0.out⟩
  case round =>
    obtain ⟨k, g, hk, rfl, hbr, hir⟩ := hrel
    have HBR : Hid (Below W.heap.size W wr) := hbr
    have HI : Hid _ := hir
    clear hbr hir
    by_cases hlt : k < rg
    · have HK1 : Hid (∀ u, wr.grownBy u (some M) → u.cell? ⟨cb, 1, none⟩ = some (.slice (some ⟨M, 0, none⟩) rg rg)) := fun u hu => cellAt ((hu.block cb (ltHeap HI.out.blk) (by simpa using HI.out.hcM)).trans HI.out.blk) 1 _ rfl
      go_wp2
      refine wp_region_noPanic ?_
      refine wp_region_held_drew (S := fun u => wr.grownBy u (some M)) (by kernel_rfl) ?_ (fun hHeld => ?_)
      · exact grownBy_drew (World.grownBy.refl _ _)
      refine wpAnyH_take (i := 0) (oi := { dst := some 34, op := Op.fieldAddr 80 (Operand.tmp 5) 1, type := 0, pos := "prog.go:164", after := #[], guard := none }) (v := ?_) rfl (by kernel_rfl) (by kernel_rfl) (by kernel_rfl) (fun _ _ _ h => h) (Or.inl ⟨by rfl, ?_⟩) hHeld ?_
      rotate_left
      · intro u hSw
        go_simp
        try with_reducible rfl
      try simp only [Act.put, List.setIfInBounds_toArray, List.set_cons_zero, List.set_cons_succ]
      refine wpAnyH_take (i := 1) (oi := { dst := some 35, op := Op.load 68 (Operand.tmp 34), type := 68, pos := "prog.go:164", after := #[{ on := 0, ground := Ground.data }], guard := none }) (v := ?_) rfl (by kernel_rfl) (by kernel_rfl) (by kernel_rfl) (fun _ _ _ h => h) (Or.inl ⟨by rfl, ?_⟩) hHeld ?_
      rotate_left
      · intro u hSw
        have k9 := HK1.out u hSw
        go_simp
        try with_reducible rfl
      try simp only [Act.put, List.setIfInBounds_toArray, List.set_cons_zero, List.set_cons_succ]
      refine wpAnyH_take (i := 2) (oi := { dst := some 36, op := Op.move (Operand.tmp 6), type := 3, pos := "prog.go:164", after := #[], guard := none }) (v := ?_) rfl (by kernel_rfl) (by kernel_rfl) (by kernel_rfl) (fun _ _ _ h => h) (Or.inl ⟨by rfl, ?_⟩) hHeld ?_
      rotate_left
      · intro u hSw
        go_simp
        try with_reducible rfl
      try simp only [Act.put, List.setIfInBounds_toArray, List.set_cons_zero, List.set_cons_succ]
      refine wpAnyH_ready (rs := [3]) (by kernel_rfl) (by simp) ?_
      refine (AllReadyH.cons (o := { dst := some 37, op := Op.call { callee := Callee.value (Operand.func 37), args := #[Operand.tmp 5], argTypes := #[80] }, type := 31, pos := "prog.go:164", after := #[], guard := none }) rfl (fun K hK => ?_) AllReadyH.nil)
      go_simp
      refine Calls.mono (nothing_F cb il _ (by omega) (cellAt HI.out.drew.blk 0 _ rfl)) ?_
      rintro e w6 ⟨rfl, hw6⟩
      have hb6 : Below wr.drew.heap.size wr.drew w6 := by rw [hw6]; exact (Below.refl _ _).alloc (Nat.le_refl _) _
      have hr6 : w6.heap[wr.heap.size]? = some (.cells (vfs (zeros il)) 5 (0, 0)) := by rw [hw6]; exact heap_alloc_last _ _
      have hI6 := HI.out.drew.below hb6
      have hS6 : wr.grownBy w6 (some M) := grown_below (grownBy_drew (World.grownBy.refl _ _)) hb6
      clear hw6
      go_wp2_with fail
      refine hK.out _ _ ?_ (fun hHeld => ?_)
      · exact hS6
      clear hK K
      try simp only [Act.put, List.setIfInBounds_toArray, List.set_cons_zero, List.set_cons_succ]
      refine wpAnyH_take (i := 4) (oi := { dst := some 38, op := Op.indexAddr 68 (Operand.tmp 35) (Operand.tmp 36), type := 0, pos := "prog.go:164", after := #[{ on := 1, ground := Ground.data }, { on := 2, ground := Ground.data }, { on := 0, ground := Ground.phase }, { on := 1, ground := Ground.phase }, { on := 2, ground := Ground.phase }, { on := 3, ground := Ground.phase }], guard := none }) (v := ?_) rfl (by kernel_rfl) (by kernel_rfl) (by kernel_rfl) (fun _ _ _ h => h) (Or.inl ⟨by rfl, ?_⟩) hHeld ?_
      rotate_left
      · intro u hSw
        go_simp
        try with_reducible rfl
      try simp only [Act.put, List.setIfInBounds_toArray, List.set_cons_zero, List.set_cons_succ]
      refine wpAnyH_ready (rs := [5]) (by kernel_rfl) (by simp) ?_
      refine (AllReadyH.cons (o := { dst := none, op := Op.store 31 (Operand.tmp 38) (Operand.tmp 37), type := 0, pos := "prog.go:164", after := #[{ on := 4, ground := Ground.data }, { on := 3, ground := Ground.data }, { on := 3, ground := Ground.chain }, { on := 0, ground := Ground.phase }, { on := 1, ground := Ground.phase }, { on := 2, ground := Ground.phase }, { on := 3, ground := Ground.phase }], guard := none }) rfl (fun K hK => ?_) AllReadyH.nil)
      have d8 : w6.frozen? ⟨M, k, none⟩ = false := frozen_of_row _ _ _ _ _ hI6.regs
      obtain ⟨d9, e9⟩ : ∃ d9, w6.cell? ⟨M, k, none⟩ = some d9 := ⟨_, cellAt hI6.regs k _ (slO_at hlt)⟩
      go_simp
      refine hK.out _ _ ?_ (fun hHeld => ?_)
      · exact grownBy_setCell hS6 _
      clear hK K
      try simp only [Act.put, List.setIfInBounds_toArray, List.set_cons_zero, List.set_cons_succ]
      refine wpAnyH_done (by kernel_rfl) ?_ _
      refine NoPanic.normal ?_

      have HP : Hid _ := hI6.put hlt (a := some ⟨wr.heap.size, 0, none⟩) (m := il) (by rw [← zeros_rowF]; exact row8T_own hr6) (Nat.le_refl _) (fun e => by cases e)
      have HPB : Hid _ := ((HBR.out.drew).trans (hb6.mono HBR.out.size)).setCell (p := ⟨M, k, none⟩) HI.out.hM (.slice (some ⟨wr.heap.size, 0, none⟩) il il)
      clear hI6 hr6 hb6 hS6 d8 e9 HK1
      go_wp2
      exact ⟨⟨k + 1, _, by omega, by go_num, HPB.out, HP.out⟩, by simp [intOf]; omega⟩
    · obtain rfl : k = rg := by omega
      have HCM0 : Hid _ := HI.out.done
      have hPA := heap_later (holds_at HA.out 1 rfl) HBR.out
      have p3 := cellAt hPA 3 _ rfl
      clear hPA
      go_wp2
      clear p3
      generalize wr = wq at *
      go_loopw [43] (fun i wr => ∃ (j : Nat) (f : Nat → Option Addr × Nat) (g : Nat → Option (Option Addr × Nat)), j ≤ sl ∧ i = .int .i64 j ∧ Below W.heap.size W wr ∧ CmbW W.heap.size wr cb M Q il k ol f g (runR unX (ss.take j) (fun _ _ => 0)) (runO unX (ss.take j) (fun _ _ => 0) (fun _ _ => 0)) ∧ ∀ d : Nat, (g d).isSome = decide (1 ≤ cntO (ss.take j) d)) (fun i _ => sl - (intOf i).toNat)
      case atStart => exact ⟨0, _, _, Nat.zero_le _, rfl, HBR.out, by rw [List.take_zero]; exact HCM0.out, fun d => by rw [List.take_zero]; rfl⟩
      case round =>
        obtain ⟨j, f, g2, hj, rfl, hbr, hcm, hgs⟩ := hrel
        have HBR2 : Hid (Below W.heap.size W wr) := hbr
        have HCM : Hid _ := hcm
        have HGS : Hid (∀ d : Nat, (g2 d).isSome = decide (1 ≤ cntO (ss.take j) d)) := hgs
        clear hbr hcm hgs
        by_cases hlj : j < sl
        · have hjs : j < ss.length := by rw [← HSL.out]; exact hlj
          obtain ⟨b, off, hsa, hc⟩ := stpW_get (stpW_below HP.out.S (HW.out.trans (HBR2.out.mono HW.out.size))) hjs
          obtain ⟨c0, c1, c2, c3⟩ := hc j hjs
          obtain ⟨⟨op, dst, src, c⟩, hs⟩ : ∃ s, ss[j] = s := ⟨_, rfl⟩
          rw [hs] at c0 c1 c2 c3
          simp only at c0 c1 c2 c3
          have hget : ss[j]? = some ⟨op, dst, src, c⟩ := by rw [List.getElem?_eq_getElem hjs, hs]
          have HTK : Hid (ss.take (j + 1) = ss.take j ++ [⟨op, dst, src, c⟩]) := by show _ = _; rw [List.take_add_one, hget]; rfl
          have hok : OkS il ol k ⟨op, dst, src, c⟩ := by rw [HIL.out, HOL.out]; exact HF.out.2.2.2.2.1 _ (List.mem_of_getElem? hget)
          have HOK : Hid _ := hok
          have hop : 1 ≤ op ∧ op ≤ 5 := by unfold OkS at hok; simp only at hok; omega
          have HO0 : Hid (okN op = true) := decide_eq_true hop
          obtain ⟨s9, f9, so, an, as9, ou, n9, m9, hO, hmm⟩ := op_some hop
          have HMM : Hid _ := hmm
          have HO1 : Hid _ := hO.cells
          have hem := hO.em
          subst hsa
          clear hc hs hget hjs hok hop hO hmm
          have HB1 : Hid (Below W.heap.size W (wr.alloc (.cells #[.int .i64 op, .int .i64 dst, .int .i64 src, .int .u8 (c.toNat : Int)] 48))) := HBR2.out.alloc HBR2.out.size _
          have HS1 : Hid _ := heap_alloc_last wr (.cells #[.int .i64 op, .int .i64 dst, .int .i64 src, .int .u8 (c.toNat : Int)] 48)
          have HC1 : Hid _ := HCM.out.below ((Below.refl _ wr).alloc (Nat.le_refl _) (.cells #[.int .i64 op, .int .i64 dst, .int .i64 src, .int .u8 (c.toNat : Int)] 48))
          go_wp2_with fail
          refine Calls.mono (find_F op _) ?_
          rw [HO0.out, HO1.out]
          rintro e w2 ⟨rfl, hb2⟩
          have HB2 : Hid (Below W.heap.size W w2) := HB1.out.trans (hb2.mono HB1.out.size)
          have HC2 : Hid _ := HC1.out.below hb2
          have hs2 := heap_later HS1.out hb2
          have HS3 : Hid _ := heap_later hs2 ((Below.refl _ w2).alloc (Nat.le_refl _) (.cells #[.string s9, .bool f9, .bool so, .bool an, .bool as9, .bool ou, .func (.func n9) #[] #[], .func (.func m9) #[] #[]] 85))
          have HC3 : Hid _ := HC2.out.below ((Below.refl _ w2).alloc (Nat.le_refl _) (.cells #[.string s9, .bool f9, .bool so, .bool an, .bool as9, .bool ou, .func (.func n9) #[] #[], .func (.func m9) #[] #[]] 85))
          have HB3 : Hid (Below W.heap.size W (w2.alloc (.cells #[.string s9, .bool f9, .bool so, .bool an, .bool as9, .bool ou, .func (.func n9) #[] #[], .func (.func m9) #[] #[]] 85))) := HB2.out.alloc HB2.out.size _
          have s0 := cellAt HS3.out 0 _ rfl
          have s1 := cellAt HS3.out 1 _ rfl
          have s2 := cellAt HS3.out 2 _ rfl
          have s3 := cellAt HS3.out 3 _ rfl
          have q0 := cellAt hs2 0 _ rfl
          clear hb2 hs2 c0 c1 c2 c3
          go_wp2_with fail
          refine Calls.mono (does_F W.heap.size cb M Q il k ol f g2 _ _ ⟨op, dst, src, c⟩ m9 _ (by omega) (by omega) (by omega) HB3.out.size HC3.out HOK.out HMM.out) ?_
          clear hem s0 s1 s2 s3 q0
          rintro e w4 ⟨rfl, ⟨f4, g4, hc4, hg4⟩, hb4⟩
          have HB4 : Hid (Below W.heap.size W w4) := HB3.out.trans hb4
          have HC4 : Hid (CmbW W.heap.size w4 cb M Q il k ol f4 g4 (runR unX (ss.take (j + 1)) (fun _ _ => 0)) (runO unX (ss.take (j + 1)) (fun _ _ => 0) (fun _ _ => 0))) := by
            rw [HTK.out, runR_app, runO_app]; exact hc4
          have HG4 : Hid (∀ d : Nat, (g4 d).isSome = decide (1 ≤ cntO (ss.take (j + 1)) d)) := fun d => by
            rw [hg4, HGS.out, HTK.out]
            by_cases e1 : op = 5
            · by_cases e2 : dst = (d : Int)
              · rw [cnt_out e1 e2]; simp [e1, e2]
              · rw [cnt_other e2]; simp [e2]
            · rw [cnt_not e1]; simp [e1]
          clear hc4 hg4 hb4
          go_wp2
          exact ⟨⟨j + 1, f4, g4, by omega, by go_num, HB4.out, HC4.out, HG4.out⟩, by simp [intOf]; omega⟩
        · obtain rfl : j = sl := by omega
          have hfull : ss.take j = ss := by rw [HSL.out, List.take_length]
          have hcm := HCM.out
          have hgs := HGS.out
          rw [hfull] at hcm hgs
          have HR : Hid (Rows8 wr (some ⟨Q, 0, none⟩) (meanRows il ol ss)) := outs_rows8 hcm (fun d hd => by rw [hgs]; exact decide_eq_true (by have := HF.out.2.2.2.2.2 d (by rw [← HOL.out]; exact hd); omega))
          have q0 := cellAt hcm.blk 0 _ rfl
          have q2 := cellAt hcm.blk 2 _ rfl
          clear hfull hcm hgs
          go_wp2_with fail
          refine Calls.mono (of_F il ol ol (some ⟨Q, 0, none⟩) (meanRows il ol ss) _ (by omega) (meanRows_len _ _ _).symm (by omega) (fun xs h => by obtain ⟨d, _, rfl⟩ := List.mem_map.1 h; exact rowF_len _ _) HR.out) ?_
          rintro e w6 ⟨g6, m6, rfl, hm6, hg6, hh6, hb6⟩
          have HB6 : Hid (Below w.heap.size w w6) := (HW.out.trans (HBR2.out.mono HW.out.size)).trans (hb6.mono (by have := HW.out.size; have := HBR2.out.size; omega))
          have hmk := heap_later (heap_later (holds_at HA.out 0 rfl) HBR2.out) hb6
          have HH6 : Hid _ := hh6
          have HM6 : Hid (m6 = ol * il) := hm6
          have hlt6 : w.heap.size + 1 < g6 := by have := ltHeap (holds_at HA.out 0 rfl); have := HBR2.out.size; omega
          have r0 := cellAt hmk 0 _ rfl
          have r1 := cellAt hmk 1 _ rfl
          have r2 := cellAt hmk 2 _ rfl
          have e0 : w6.frozen? ⟨w.heap.size + 1, 0, none⟩ = false := frozen_of_row _ _ _ _ _ hmk
          have e1 : w6.frozen? ⟨w.heap.size + 1, 1, none⟩ = false := frozen_of_row _ _ _ _ _ hmk
          have e2 : w6.frozen? ⟨w.heap.size + 1, 2, none⟩ = false := frozen_of_row _ _ _ _ _ hmk
          have z6 := ltHeap hmk
          clear hm6 hg6 hh6 hb6 hmk q0 q2
          go_wp2
          refine bodyPost_ret (v := .tuple #[.agg #[.int .i64 ol, .int .i64 il, .slice (some ⟨g6, 0, none⟩) m6 m6], .nilIface]) (by simp [results, Tryd.results10, go_sem, r0, r1, r2, z6]) rfl ⟨g6, m6, rfl, HM6.out, by omega, ?_, ?_⟩
          · exact (heap_setCell_other _ _ _ _ (by show g6 ≠ w.heap.size + 1; omega)).trans ((heap_setCell_other _ _ _ _ (by show g6 ≠ w.heap.size + 1; omega)).trans ((heap_setCell_other _ _ _ _ (by show g6 ≠ w.heap.size + 1; omega)).trans HH6.out))
          · exact ((HB6.out.setCell (by simp) _).setCell (by simp) _).setCell (by simp) _
end Go.Proofs.YtoalbopcapgojaaDoor
