/- One row, making, column or number more in the span. -/
import Derived.Test.YtjmbpldkggbdlaaGreatDoorSpanM
import Derived.Test.YtjmbpldkggbdlaaGreatDoorRegHeld
namespace Go.Proofs.YtjmbpldkggbdlaaGreatDoor
open Go.RowKit Gf
set_option linter.unusedVariables false
set_option maxRecDepth 20000
theorem wanted_append_run3 {P : Program} {w : World} {o : Oper} {a : Act} {K : Act → World → Prop} {Q : Exit → Act → World → Prop} {ys : Nat → Option Bool} {L : Prop} (hgd : o.guard = none) (s x : Operand) (t : TypeId)
    (ho : o.op = .call { callee := .builtin .append, args := #[s, x], argTypes := #[t, t] }) (v u r : Value) (w' : World) (hs : a.eval s = v) (hx : a.eval x = u)
    (hr : (Builtin.append_ #[t, t] o.type #[v, u]).run P w = .ok r w') (h : K (a.put o.dst r) w') : if Region.wanted o ys = true then Oper.wp P o a w K Q else L := by
  rw [if_pos (by simp [Region.wanted, hgd])]
  unfold Oper.wp execOp
  simp only [ho, resolve, invoke, builtin, Sem.run_bind, Sem.run_pure, Result.andThen_ok, List.map_toArray, List.map_cons, List.map_nil, hs, hx, hr]
  exact h
theorem own_apart2 {w w' : World} {B size n : Nat} {v u : Value} {e : TypeId} {xs : List Value} (ho : w.ownsRow B e size u n xs) (h : w.grownBy w' v.ownBlock) (hne : v.ownBlock = none ∨ v.ownBlock ≠ u.ownBlock) : w'.ownsRow B e size u n xs :=
  ho.kept h (by
    cases hu : u.ownBlock with
    | none => exact .inl rfl
    | some g =>
      refine .inr fun e => ?_
      rcases hne with h0 | h0
      · rw [h0] at e; cases e
      · exact h0 (by rw [hu]; exact e.symm))
theorem own_kind {w w' : World} {B B2 size m n : Nat} {v u : Value} {e e2 : TypeId} {xs ys : List Value} (ho : w.ownsRow B e size u n xs) (hv : w.ownsRow B2 e2 size v m ys) (he : e ≠ e2) (h : w.grownBy w' v.ownBlock) : w'.ownsRow B e size u n xs :=
  own_apart2 ho h (by
    rcases hv.2 with ⟨rfl, _⟩ | ⟨g, cap, cur, rfl, _, h1, _⟩
    · exact .inl rfl
    · refine .inr fun e3 => ?_
      rcases ho.2 with ⟨rfl, _⟩ | ⟨g', cap', cur', rfl, _, h2, _⟩
      · cases e3
      · have : g = g' := by simpa [Value.ownBlock] using e3
        rw [this, h2] at h1
        cases h1
        exact he rfl)
theorem own_set {w : World} {B size n SB k : Nat} {u v : Value} {e t : TypeId} {xs : List Value} {cs : Array Value} {fr : Nat × Nat} (ho : w.ownsRow B e size u n xs) (hb : w.heap[SB]? = some (.cells cs t fr)) (he : t ≠ e) : (w.setCell ⟨SB, k, none⟩ v).ownsRow B e size u n xs :=
  ho.kept (grownBy_setCell (World.grownBy.refl w (some SB)) _) (by
    rcases ho.2 with ⟨rfl, _⟩ | ⟨g, cap, cur, rfl, _, h2, _⟩
    · exact .inl rfl
    · refine .inr fun e3 => ?_
      have : g = SB := by simpa [Value.ownBlock] using e3
      rw [this, hb] at h2
      cases h2
      exact he rfl)
theorem own_new_ne {w : World} {B size n : Nat} {v u : Value} {e : TypeId} {xs : List Value} {g m cap : Nat} (ho : w.ownsRow B e size u n xs) (hne : v.ownBlock = none ∨ v.ownBlock ≠ u.ownBlock) (hor : v.ownBlock = some g ∨ g = w.heap.size) :
    (Value.slice (some ⟨g, 0, none⟩) m cap).ownBlock ≠ u.ownBlock := by
  intro e2
  have e3 : u.ownBlock = some g := e2.symm
  rcases hor with h | h
  · rcases hne with h0 | h0
    · rw [h0] at h; cases h
    · exact h0 (h.trans e3.symm)
  · have := (ho.lt g e3).2
    omega
variable {w : World} {B SB c n tR tM tF tB : Nat} {vR vM vF vB : Value} {fr fm : Nat → Option Addr × Nat} {V : Mt} {Ms : Nat → List F} {f bs : List Nat}
/-- what a push leaves of lists of elements that are none of the span's -/
def Keeps (w w' : World) : Prop := ∀ a xs, Row8T w a xs → Row8T w' a xs
theorem SpanW.push_rows (h : SpanW w B SB c n tR tM tF tB vR vM vF vB fr fm V Ms f bs) {b : Nat} {a : Option Addr} {m : Nat} {v : Nat → F} (ty : TypeId) (hx : w.cell? ⟨b, 0, none⟩ = some (.slice a c m)) (ha : Row8T w a (rowF c v)) (hB : B ≤ w.heap.size) (hSB : B ≤ SB) (ht : tR ≤ 4096) :
    ∃ g cap w', (Builtin.append_ #[83, 83] ty #[vR, .slice (some ⟨b, 0, none⟩) 1 1]).run Tryz.prog w = .ok (.slice (some ⟨g, 0, none⟩) (tR + 1) cap) w' ∧ w'.cell? ⟨SB, 1, none⟩ = some vR ∧ w'.frozen? ⟨SB, 1, none⟩ = false ∧ Below B w w' ∧ Below B w (w'.setCell ⟨SB, 1, none⟩ (.slice (some ⟨g, 0, none⟩) (tR + 1) cap)) ∧ Keeps w (w'.setCell ⟨SB, 1, none⟩ (.slice (some ⟨g, 0, none⟩) (tR + 1) cap)) ∧
      SpanW (w'.setCell ⟨SB, 1, none⟩ (.slice (some ⟨g, 0, none⟩) (tR + 1) cap)) B SB c n (tR + 1) tM tF tB (.slice (some ⟨g, 0, none⟩) (tR + 1) cap) vM vF vB (fun i => if i = tR then (a, m) else fr i) fm (fun i => if i = tR then v else V i) Ms f bs := by
  obtain ⟨g, cap, w', hrun, ho, hgr, hor, hlt⟩ := appendS (c := 1) ty h.rows hx rfl ht hB
  rw [spR_snoc] at ho
  have hbox := own_other h.rows hgr h.box (by decide)
  have hK : Keeps w (w'.setCell ⟨SB, 1, none⟩ (.slice (some ⟨g, 0, none⟩) (tR + 1) cap)) := fun a xs hh => row8T_grown (row8T_grown hh hgr (noElems_own h.rows (by decide))) (grownBy_setCell (World.grownBy.refl w' (some SB)) _) (noElems_some hbox (by decide))
  have hne := own_new_ne (m := tR + 1) (cap := cap) h.made h.ne1 hor
  have hb := below_own (Below.refl B w) h.rows hgr hB
  refine ⟨g, cap, w', hrun, cellAt hbox 1 _ rfl, frozen_of_row _ _ _ _ _ hbox, hb, hb.setCell hSB _, hK, ⟨?_, own_set ho hbox (by decide), own_set (own_apart2 h.made hgr h.ne1) hbox (by decide), own_set (own_kind h.firsts h.rows (by decide) hgr) hbox (by decide), own_set (own_kind h.basis h.rows (by decide) hgr) hbox (by decide), h.fl, h.bl, fun i hi => ?_, fun i hi => hK _ _ (h.madeT i hi), h.ml, .inr hne, h.ne2, .inr fun e => hne e.symm, h.ne4⟩⟩
  · rw [heap_setCell_same _ _ _ _ _ _ hbox]; rfl
  · by_cases e : i = tR
    · simp only [e, if_true]; exact hK _ _ ha
    · simp only [e, if_false]; exact hK _ _ (h.rowT i (by omega))
theorem SpanW.push_made (h : SpanW w B SB c n tR tM tF tB vR vM vF vB fr fm V Ms f bs) {b : Nat} {a : Option Addr} {m : Nat} {us : List F} (ty : TypeId) (hx : w.cell? ⟨b, 0, none⟩ = some (.slice a us.length m)) (ha : Row8T w a us) (hu : us.length ≤ n) (hB : B ≤ w.heap.size) (hSB : B ≤ SB) (ht : tM ≤ 4096) :
    ∃ g cap w', (Builtin.append_ #[83, 83] ty #[vM, .slice (some ⟨b, 0, none⟩) 1 1]).run Tryz.prog w = .ok (.slice (some ⟨g, 0, none⟩) (tM + 1) cap) w' ∧ w'.cell? ⟨SB, 2, none⟩ = some vM ∧ w'.frozen? ⟨SB, 2, none⟩ = false ∧ Below B w w' ∧ Below B w (w'.setCell ⟨SB, 2, none⟩ (.slice (some ⟨g, 0, none⟩) (tM + 1) cap)) ∧ Keeps w (w'.setCell ⟨SB, 2, none⟩ (.slice (some ⟨g, 0, none⟩) (tM + 1) cap)) ∧
      SpanW (w'.setCell ⟨SB, 2, none⟩ (.slice (some ⟨g, 0, none⟩) (tM + 1) cap)) B SB c n tR (tM + 1) tF tB vR (.slice (some ⟨g, 0, none⟩) (tM + 1) cap) vF vB fr (fun i => if i = tM then (a, m) else fm i) V (fun i => if i = tM then us else Ms i) f bs := by
  obtain ⟨g, cap, w', hrun, ho, hgr, hor, hlt⟩ := appendS (c := 1) ty h.made hx rfl ht hB
  rw [spM_snoc] at ho
  have hbox := own_other h.made hgr h.box (by decide)
  have hK : Keeps w (w'.setCell ⟨SB, 2, none⟩ (.slice (some ⟨g, 0, none⟩) (tM + 1) cap)) := fun a xs hh => row8T_grown (row8T_grown hh hgr (noElems_own h.made (by decide))) (grownBy_setCell (World.grownBy.refl w' (some SB)) _) (noElems_some hbox (by decide))
  have hne := own_new_ne (m := tM + 1) (cap := cap) h.rows h.ne3 hor
  have hb := below_own (Below.refl B w) h.made hgr hB
  refine ⟨g, cap, w', hrun, cellAt hbox 2 _ rfl, frozen_of_row _ _ _ _ _ hbox, hb, hb.setCell hSB _, hK, ⟨?_, own_set (own_apart2 h.rows hgr h.ne3) hbox (by decide), own_set ho hbox (by decide), own_set (own_kind h.firsts h.made (by decide) hgr) hbox (by decide), own_set (own_kind h.basis h.made (by decide) hgr) hbox (by decide), h.fl, h.bl, fun i hi => hK _ _ (h.rowT i hi), fun i hi => ?_, fun i hi => ?_, .inr fun e => hne e.symm, h.ne2, .inr hne, h.ne4⟩⟩
  · rw [heap_setCell_same _ _ _ _ _ _ hbox]; rfl
  · by_cases e : i = tM
    · simp only [e, if_true]; exact hK _ _ ha
    · simp only [e, if_false]; exact hK _ _ (h.madeT i (by omega))
  · by_cases e : i = tM
    · simp only [e, if_true]; exact hu
    · simp only [e, if_false]; exact h.ml i (by omega)
theorem SpanW.push_first (h : SpanW w B SB c n tR tM tF tB vR vM vF vB fr fm V Ms f bs) {b k : Nat} (ty : TypeId) (hx : w.cell? ⟨b, 0, none⟩ = some (.int .i64 k)) (hB : B ≤ w.heap.size) (hSB : B ≤ SB) (ht : tF ≤ 4096) :
    ∃ g cap w', (Builtin.append_ #[22, 22] ty #[vF, .slice (some ⟨b, 0, none⟩) 1 1]).run Tryz.prog w = .ok (.slice (some ⟨g, 0, none⟩) (tF + 1) cap) w' ∧ w'.cell? ⟨SB, 3, none⟩ = some vF ∧ w'.frozen? ⟨SB, 3, none⟩ = false ∧ Below B w (w'.setCell ⟨SB, 3, none⟩ (.slice (some ⟨g, 0, none⟩) (tF + 1) cap)) ∧
      SpanW (w'.setCell ⟨SB, 3, none⟩ (.slice (some ⟨g, 0, none⟩) (tF + 1) cap)) B SB c n tR tM (tF + 1) tB vR vM (.slice (some ⟨g, 0, none⟩) (tF + 1) cap) vB fr fm V Ms (f ++ [k]) bs := by
  obtain ⟨g, cap, w', hrun, ho, hgr, hor, hlt⟩ := appendI (c := 1) ty h.firsts hx (by omega) hB
  rw [natV_snoc] at ho
  have hbox := own_other h.firsts hgr h.box (by decide)
  have hK : Keeps w (w'.setCell ⟨SB, 3, none⟩ (.slice (some ⟨g, 0, none⟩) (tF + 1) cap)) := fun a xs hh => row8T_grown (row8T_grown hh hgr (noElems_own h.firsts (by decide))) (grownBy_setCell (World.grownBy.refl w' (some SB)) _) (noElems_some hbox (by decide))
  have hne := own_new_ne (m := tF + 1) (cap := cap) h.basis h.ne2 hor
  refine ⟨g, cap, w', hrun, cellAt hbox 3 _ rfl, frozen_of_row _ _ _ _ _ hbox, (below_own (Below.refl B w) h.firsts hgr hB).setCell hSB _, ⟨?_, own_set (own_kind h.rows h.firsts (by decide) hgr) hbox (by decide), own_set (own_kind h.made h.firsts (by decide) hgr) hbox (by decide), own_set ho hbox (by decide), own_set (own_apart2 h.basis hgr h.ne2) hbox (by decide), by simp [h.fl], h.bl, fun i hi => hK _ _ (h.rowT i hi), fun i hi => hK _ _ (h.madeT i hi), h.ml, h.ne1, .inr hne, h.ne3, .inr fun e => hne e.symm⟩⟩
  rw [heap_setCell_same _ _ _ _ _ _ hbox]; rfl
theorem SpanW.push_basis (h : SpanW w B SB c n tR tM tF tB vR vM vF vB fr fm V Ms f bs) {b k : Nat} (ty : TypeId) (hx : w.cell? ⟨b, 0, none⟩ = some (.int .i64 k)) (hB : B ≤ w.heap.size) (hSB : B ≤ SB) (ht : tB ≤ 4096) :
    ∃ g cap w', (Builtin.append_ #[22, 22] ty #[vB, .slice (some ⟨b, 0, none⟩) 1 1]).run Tryz.prog w = .ok (.slice (some ⟨g, 0, none⟩) (tB + 1) cap) w' ∧ w'.cell? ⟨SB, 5, none⟩ = some vB ∧ w'.frozen? ⟨SB, 5, none⟩ = false ∧ Below B w (w'.setCell ⟨SB, 5, none⟩ (.slice (some ⟨g, 0, none⟩) (tB + 1) cap)) ∧
      SpanW (w'.setCell ⟨SB, 5, none⟩ (.slice (some ⟨g, 0, none⟩) (tB + 1) cap)) B SB c n tR tM tF (tB + 1) vR vM vF (.slice (some ⟨g, 0, none⟩) (tB + 1) cap) fr fm V Ms f (bs ++ [k]) := by
  obtain ⟨g, cap, w', hrun, ho, hgr, hor, hlt⟩ := appendI (c := 1) ty h.basis hx (by omega) hB
  rw [natV_snoc] at ho
  have hbox := own_other h.basis hgr h.box (by decide)
  have hK : Keeps w (w'.setCell ⟨SB, 5, none⟩ (.slice (some ⟨g, 0, none⟩) (tB + 1) cap)) := fun a xs hh => row8T_grown (row8T_grown hh hgr (noElems_own h.basis (by decide))) (grownBy_setCell (World.grownBy.refl w' (some SB)) _) (noElems_some hbox (by decide))
  have hne := own_new_ne (m := tB + 1) (cap := cap) h.firsts h.ne4 hor
  refine ⟨g, cap, w', hrun, cellAt hbox 5 _ rfl, frozen_of_row _ _ _ _ _ hbox, (below_own (Below.refl B w) h.basis hgr hB).setCell hSB _, ⟨?_, own_set (own_kind h.rows h.basis (by decide) hgr) hbox (by decide), own_set (own_kind h.made h.basis (by decide) hgr) hbox (by decide), own_set (own_apart2 h.firsts hgr h.ne4) hbox (by decide), own_set ho hbox (by decide), h.fl, by simp [h.bl], fun i hi => hK _ _ (h.rowT i hi), fun i hi => hK _ _ (h.madeT i hi), h.ml, h.ne1, .inr fun e => hne e.symm, h.ne3, .inr hne⟩⟩
  rw [heap_setCell_same _ _ _ _ _ _ hbox]; rfl
theorem SpanW.drew (h : SpanW w B SB c n tR tM tF tB vR vM vF vB fr fm V Ms f bs) : SpanW w.drew B SB c n tR tM tF tB vR vM vF vB fr fm V Ms f bs :=
  ⟨h.box, World.ownsRow.drew h.rows, World.ownsRow.drew h.made, World.ownsRow.drew h.firsts, World.ownsRow.drew h.basis, h.fl, h.bl, h.rowT, h.madeT, h.ml, h.ne1, h.ne2, h.ne3, h.ne4⟩
/-- one row more is counted -/
theorem SpanW.count (h : SpanW w B SB c n tR tM tF tB vR vM vF vB fr fm V Ms f bs) : Keeps w (w.setCell ⟨SB, 4, none⟩ (.int .i64 ((n : Int) + 1))) ∧ SpanW (w.setCell ⟨SB, 4, none⟩ (.int .i64 ((n : Int) + 1))) B SB c (n + 1) tR tM tF tB vR vM vF vB fr fm V Ms f bs := by
  have hbox := h.box
  have hK : Keeps w (w.setCell ⟨SB, 4, none⟩ (.int .i64 ((n : Int) + 1))) := fun a xs hh => row8T_grown hh (grownBy_setCell (World.grownBy.refl w (some SB)) _) (noElems_some hbox (by decide))
  refine ⟨hK, ⟨?_, own_set h.rows hbox (by decide), own_set h.made hbox (by decide), own_set h.firsts hbox (by decide), own_set h.basis hbox (by decide), h.fl, h.bl, fun i hi => hK _ _ (h.rowT i hi), fun i hi => hK _ _ (h.madeT i hi), fun i hi => Nat.le_succ_of_le (h.ml i hi), h.ne1, h.ne2, h.ne3, h.ne4⟩⟩
  rw [heap_setCell_same _ _ _ _ _ _ hbox]
  have e : ((n : Int) + 1) = ((n + 1 : Nat) : Int) := by simp
  rw [e]; rfl
end Go.Proofs.YtjmbpldkggbdlaaGreatDoor
