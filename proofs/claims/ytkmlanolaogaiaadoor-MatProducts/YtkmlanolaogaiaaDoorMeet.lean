/- A statement whose calls come in their order and whose new variables are made anywhere between: all orders, in one step. Nothing of the program is proved here. -/
import Derived.Test.YtkmlanolaogaiaaDoorHolds
import Derived.Test.YtkmlanolaogaiaaDoorRegHeld
namespace Go.Proofs.YtkmlanolaogaiaaDoor
open Go.RowKit Gf
set_option linter.unusedVariables false
set_option maxRecDepth 20000
/-- slots filled, one after the other -/
def puts (a : Act) (L : List (Tmp × Value)) : Act := L.foldl (fun a x => a.put (some x.1) x.2) a
theorem puts_nil (a : Act) : puts a [] = a := rfl
theorem puts_cons (a : Act) (x : Tmp × Value) (L : List (Tmp × Value)) : puts a (x :: L) = puts (a.put (some x.1) x.2) L := rfl
theorem puts_perm {L L' : List (Tmp × Value)} (h : L.Perm L') : ∀ (a : Act), (L.map (·.1)).Nodup → puts a L = puts a L' := by
  induction h with
  | nil => intro a _; rfl
  | cons x _ ih => intro a hn; rw [puts_cons, puts_cons]; exact ih _ (List.nodup_cons.1 hn).2
  | swap x y l =>
    intro a hn
    rw [puts_cons, puts_cons, puts_cons, puts_cons]
    rw [Act.put_comm]
    intro d hd e
    simp only [List.map_cons, List.nodup_cons, List.mem_cons, not_or] at hn
    exact hn.1.1 (Option.some.inj (hd.trans e.symm))
  | trans h1 h2 ih1 ih2 => intro a hn; rw [ih1 a hn]; exact ih2 a ((h1.map _).nodup_iff.1 hn)
theorem put_getD (a : Act) (d t : Tmp) (v : Value) (h : t ≠ d) : (a.put (some d) v).tmps.getD t undef = a.tmps.getD t undef := by
  simp [Act.put, Ne.symm h]
/-- all of these are listed -/
def finish (l : Array Bool) (is : List Nat) : Array Bool := is.foldl (fun l i => l.setIfInBounds i true) l
theorem set_comm (l : Array Bool) (i j : Nat) : (l.setIfInBounds i true).setIfInBounds j true = (l.setIfInBounds j true).setIfInBounds i true := by
  by_cases h : i = j
  · rw [h]
  · exact Array.setIfInBounds_comm _ _ h
theorem finish_perm {is js : List Nat} (h : is.Perm js) : ∀ l, finish l is = finish l js := by
  induction h with
  | nil => intro l; rfl
  | cons x _ ih => intro l; exact ih _
  | swap x y l' => intro l; show finish ((l.setIfInBounds y true).setIfInBounds x true) l' = finish ((l.setIfInBounds x true).setIfInBounds y true) l'; rw [set_comm]
  | trans _ _ ih1 ih2 => intro l; rw [ih1, ih2]
/-- a call of the statement: its place, its operation, its slot, the function, what it is handed, what is known of its answer -/
structure CallS where
  i : Nat
  o : Oper
  d : Tmp
  f : FuncId
  args : Array Value
  φ : Value → World → Prop
/-- what may come up is the next call, or a variable not yet made: so on all ways -/
def RdyB (md : Region.Mode) (ops : Array Oper) : Nat → List Nat → List Nat → Array Bool → Bool
  | 0, cs, al, l => cs.isEmpty && al.isEmpty
  | n + 1, cs, al, l =>
    (!(Region.ready md ops l).isEmpty && (Region.ready md ops l).all fun i => cs.head? == some i || al.contains i) &&
    ((match cs with
      | [] => true
      | c :: cs' => RdyB md ops n cs' al (l.setIfInBounds c true)) &&
     al.all fun x => RdyB md ops n cs (al.erase x) (l.setIfInBounds x true))
theorem meet {P : Program} {md : Region.Mode} {ops : Array Oper} {Q : Exit → Act → World → Prop} {S : World → Prop} {Z : Obj} (a0 : Act) (ds : List Tmp) (dst : Nat → Tmp) (f0 : Nat)
    (hSb : ∀ u w', S u → Below u.heap.size u w' → S w') (hSa : ∀ u, S u → S (u.alloc Z)) :
    ∀ (n : Nat) (cs : List CallS) (al : List Nat) (l : Array Bool) (a : Act) (w : World), cs.length + al.length = n →
      (∀ c ∈ cs, ops[c.i]? = some c.o ∧ c.o.dst = some c.d ∧ c.o.guard = none ∧ c.d ∈ ds ∧ (∀ a' : Act, (∀ t, t ∉ ds → a'.tmps.getD t undef = a0.tmps.getD t undef) → ∀ w, (execOp a'.eval c.o).run P w = .ok (.enter c.f c.args) w) ∧
        (∀ w, S w → Calls P c.f c.args w fun e w' => ∃ v, e = .returned v ∧ Below w.heap.size w w' ∧ c.φ v w') ∧ ∀ v u w', c.φ v u → Below u.heap.size u w' → c.φ v w') →
      (∀ x ∈ al, ∃ o, ops[x]? = some o ∧ o.dst = some (dst x) ∧ o.guard = none ∧ dst x ∈ ds ∧ ∀ ρ w, (execOp ρ o).run P w = .ok (.value (.pointer (some ⟨w.heap.size, 0, none⟩))) (w.alloc Z)) →
      ((cs.map (·.d) ++ al.map dst).Nodup) →
      (∀ t, t ∉ ds → a.tmps.getD t undef = a0.tmps.getD t undef) → S w →
      RdyB md ops n (cs.map (·.i)) al l = true →
      (∀ (υ : Tmp → Value) (ν : Tmp → Nat) (w' : World), Below w.heap.size w w' → S w' → (∀ c ∈ cs, c.φ (υ c.d) w') → (∀ x ∈ al, w.heap.size ≤ ν (dst x) ∧ ∃ v : World, w.heap.size ≤ v.heap.size ∧ v.heap.size = ν (dst x) ∧ Below (v.alloc Z).heap.size (v.alloc Z) w') →
        (∀ x ∈ al, ∀ y ∈ al, x ≠ y → ν (dst x) ≠ ν (dst y)) →
        wpAnyH P md ops Q S f0 (finish l (cs.map (·.i) ++ al)) (puts a (cs.map (fun c => (c.d, υ c.d)) ++ al.map (fun x => (dst x, Value.pointer (some ⟨ν (dst x), 0, none⟩))))) w') →
      wpAnyH P md ops Q S (n + f0) l a w := by
  intro n
  induction n with
  | zero =>
    intro cs al l a w hn hcs has hnd hsame hS hr hend
    obtain rfl : cs = [] := List.eq_nil_of_length_eq_zero (by omega)
    obtain rfl : al = [] := List.eq_nil_of_length_eq_zero (by simpa using hn)
    have := hend (fun _ => undef) (fun _ => 0) w (Below.refl _ _) hS (fun c hc => by cases hc) (fun x hx => by cases hx) (fun x hx => by cases hx)
    simpa [finish, puts] using this
  | succ n ih =>
    intro cs al l a w hn hcs has hnd hsame hS hr hend
    simp only [RdyB, Bool.and_eq_true, Bool.not_eq_true', List.all_eq_true, Bool.or_eq_true] at hr
    obtain ⟨⟨hne, hall⟩, hrc, hra⟩ := hr
    rw [Nat.succ_add]
    refine ⟨fun h0 => by rw [h0] at hne; simp at hne, fun i hi => ?_⟩
    rcases hall i hi with hc | hx
    · cases cs with
      | nil => simp at hc
      | cons c cs' =>
        obtain rfl : c.i = i := by simpa using hc
        obtain ⟨ho, hd, hg, hds, hx, hcall, hst⟩ := hcs c (List.mem_cons_self ..)
        unfold wpOp
        rw [ho]
        simp only [Region.wanted, hg, if_true]
        refine .inl ?_
        unfold Oper.wp
        rw [hx a hsame w]
        simp only [Oper.upon]
        refine (hcall w hS).mono ?_
        rintro e w' ⟨v, rfl, hb, hφ⟩
        refine ⟨hSb _ _ hS hb, ?_⟩
        rw [hd]
        refine ih cs' al _ _ w' (by simp at hn; omega) (fun c' h' => hcs c' (List.mem_cons_of_mem _ h')) has ?_ ?_ (hSb _ _ hS hb) hrc ?_
        · simp only [List.map_cons, List.cons_append, List.nodup_cons] at hnd; exact hnd.2
        · intro t ht
          rw [put_getD _ _ _ _ (fun e => ht (by rw [e]; exact hds))]; exact hsame t ht
        · intro υ ν w'' hb2 hS2 hφs hns hdis
          have hkey : ∀ c' ∈ cs', c'.d ≠ c.d := fun c' h' e => by
            simp only [List.map_cons, List.cons_append, List.nodup_cons] at hnd
            exact hnd.1 (by rw [← e]; exact List.mem_append_left _ (List.mem_map_of_mem h'))
          have := hend (fun t => if t = c.d then v else υ t) ν w'' (hb.trans (hb2.mono hb.size)) hS2 (fun c' h' => by
            rcases List.mem_cons.1 h' with rfl | h'
            · simp only [if_true]; exact hst _ _ _ hφ hb2
            · simp only [if_neg (hkey c' h')]; exact hφs c' h') (fun x hx => by
              obtain ⟨h1, v1, h2, h3, h4⟩ := hns x hx
              exact ⟨Nat.le_trans hb.size h1, v1, Nat.le_trans hb.size h2, h3, h4⟩) hdis
          have e1 : cs'.map (fun c' => (c'.d, if c'.d = c.d then v else υ c'.d)) = cs'.map (fun c' => (c'.d, υ c'.d)) := List.map_congr_left fun c' h' => by rw [if_neg (hkey c' h')]
          simp only [List.map_cons, List.cons_append, puts_cons, if_true, e1] at this
          exact this
    · have hmem : i ∈ al := by simpa using hx
      obtain ⟨o, ho, hd, hg, hds, hrun⟩ := has i hmem
      unfold wpOp
      rw [ho]
      simp only [Region.wanted, hg, if_true]
      refine .inl ?_
      unfold Oper.wp
      rw [hrun]
      simp only [Oper.upon]
      refine ⟨hSa _ hS, ?_⟩
      rw [hd]
      have hperm : al.Perm (i :: al.erase i) := List.perm_cons_erase hmem
      have hnd2 : (cs.map (·.d) ++ (i :: al.erase i).map dst).Nodup := (List.Perm.append_left _ (hperm.map dst)).nodup_iff.1 hnd
      have hb0 : Below w.heap.size w (w.alloc Z) := (Below.refl _ _).alloc (Nat.le_refl _) _
      have hkeyA : ∀ y ∈ al.erase i, dst y ≠ dst i := fun y hy e => by
        rw [List.nodup_append] at hnd2
        have := hnd2.2.1
        simp only [List.map_cons, List.nodup_cons] at this
        exact this.1 (by rw [← e]; exact List.mem_map_of_mem hy)
      have hkeyC : ∀ c ∈ cs, c.d ≠ dst i := fun c hc e => by
        rw [List.nodup_append] at hnd2
        exact hnd2.2.2 c.d (List.mem_map_of_mem hc) (dst i) (by simp) e
      refine ih cs (al.erase i) _ _ (w.alloc Z) ?_ hcs (fun x hx => has x (List.mem_of_mem_erase hx)) ?_ ?_ (hSa _ hS) (hra i hmem) ?_
      · have := hperm.length_eq; simp at this; omega
      · have h3 : (cs.map (·.d) ++ dst i :: (al.erase i).map dst).Nodup := hnd2
        exact (List.nodup_cons.1 (List.perm_middle.nodup_iff.1 h3)).2
      · intro t ht
        rw [put_getD _ _ _ _ (fun e => ht (by rw [e]; exact hds))]; exact hsame t ht
      · intro υ ν w'' hb2 hS2 hφs hns hdis
        have hlt : ∀ y ∈ al.erase i, w.heap.size < ν (dst y) := fun y hy => by have := (hns y hy).1; simp at this; omega
        have := hend υ (fun t => if t = dst i then w.heap.size else ν t) w'' (hb0.trans (hb2.mono (by simp))) hS2 hφs (fun x hx => by
          by_cases e : x = i
          · subst e; simp only [if_true]; exact ⟨Nat.le_refl _, w, Nat.le_refl _, rfl, hb2⟩
          · have hx' : x ∈ al.erase i := by
              rcases List.mem_cons.1 (hperm.mem_iff.1 hx) with h | h
              · exact absurd h e
              · exact h
            simp only [if_neg (hkeyA x hx')]
            obtain ⟨h1, v1, h2, h3, h4⟩ := hns x hx'
            exact ⟨by simp at h1; omega, v1, by simp at h2; omega, h3, h4⟩) (fun x hx y hy hxy => by
          have hin : ∀ z ∈ al, z ≠ i → z ∈ al.erase i := fun z hz e => by
            rcases List.mem_cons.1 (hperm.mem_iff.1 hz) with h | h
            · exact absurd h e
            · exact h
          by_cases ex : x = i
          · subst ex
            have hy' := hin y hy (Ne.symm hxy)
            simp only [if_true, if_neg (hkeyA y hy')]
            have := hlt y hy'; omega
          · have hx' := hin x hx ex
            by_cases ey : y = i
            · subst ey
              simp only [if_true, if_neg (hkeyA x hx')]
              have := hlt x hx'; omega
            · have hy' := hin y hy ey
              simp only [if_neg (hkeyA x hx'), if_neg (hkeyA y hy')]
              exact hdis x hx' y hy' hxy)
        have e1 : (al.erase i).map (fun x => (dst x, Value.pointer (some ⟨if dst x = dst i then w.heap.size else ν (dst x), 0, none⟩))) = (al.erase i).map (fun x => (dst x, Value.pointer (some ⟨ν (dst x), 0, none⟩))) := List.map_congr_left fun x hx => by rw [if_neg (hkeyA x hx)]
        have hp1 : (cs.map (fun c => (c.d, υ c.d)) ++ al.map (fun x => (dst x, Value.pointer (some ⟨if dst x = dst i then w.heap.size else ν (dst x), 0, none⟩)))).Perm
            ((dst i, Value.pointer (some ⟨w.heap.size, 0, none⟩)) :: (cs.map (fun c => (c.d, υ c.d)) ++ (al.erase i).map (fun x => (dst x, Value.pointer (some ⟨ν (dst x), 0, none⟩))))) := by
          refine (List.Perm.append_left _ (hperm.map _)).trans ?_
          simp only [List.map_cons, if_true, e1]
          exact List.perm_middle
        have hkeys : (cs.map (fun c => (c.d, υ c.d)) ++ al.map (fun x => (dst x, Value.pointer (some ⟨if dst x = dst i then w.heap.size else ν (dst x), 0, none⟩)))).map (·.1) = cs.map (·.d) ++ al.map dst := by simp [Function.comp_def]
        rw [puts_perm hp1 _ (by rw [hkeys]; exact hnd), puts_cons] at this
        have hp2 : (cs.map (·.i) ++ al).Perm (i :: (cs.map (·.i) ++ al.erase i)) := (List.Perm.append_left _ hperm).trans List.perm_middle
        rw [finish_perm hp2] at this
        exact this
end Go.Proofs.YtkmlanolaogaiaaDoor
