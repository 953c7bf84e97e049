/- Plain algebra of stage 9: straight-line programs over halves: what they make, what of them can go, registers renamed; no program is spoken of. -/
import Derived.Test.YtkoakingmnjdoaaGreatDoorGf
namespace Go.Proofs.YtkoakingmnjdoaaGreatDoor
open Gf
set_option linter.unusedVariables false
set_option maxRecDepth 20000
/-- a step, its numbers as they stand in the list -/
structure Stp where
  op : Int
  dst : Int
  src : Int
  c : F
deriving DecidableEq
/-- a column of values, by register and byte -/
abbrev Regs := Int → Nat → F
def setR (R : Regs) (d : Int) (v : Nat → F) : Regs := fun r => if r = d then v else R r
theorem setR_same {R : Regs} {d : Int} {v : Nat → F} : setR R d v d = v := if_pos rfl
theorem setR_other {R : Regs} {d r : Int} {v : Nat → F} (h : r ≠ d) : setR R d v r = R r := if_neg h
/-- one step on the registers -/
def doR (X : Int → Nat → F) (s : Stp) (R : Regs) : Regs :=
  if s.op = 1 then setR R s.dst (X s.src)
  else if s.op = 2 then setR R s.dst (fun _ => 0)
  else if s.op = 3 then setR R s.dst (fun b => gm s.c (R s.dst b))
  else if s.op = 4 then setR R s.dst (fun b => ga (R s.dst b) (gm s.c (R s.src b)))
  else R
/-- one step on the outputs -/
def doO (s : Stp) (R O : Regs) : Regs := if s.op = 5 then setR O s.dst (R s.src) else O
/-- a program, from the first step on -/
def runR (X : Int → Nat → F) : List Stp → Regs → Regs
  | [], R => R
  | s :: l, R => runR X l (doR X s R)
def runO (X : Int → Nat → F) : List Stp → Regs → Regs → Regs
  | [], _, O => O
  | s :: l, R, O => runO X l (doR X s R) (doO s R O)
theorem runR_app (X : Int → Nat → F) : ∀ (l m : List Stp) (R : Regs), runR X (l ++ m) R = runR X m (runR X l R)
  | [], m, R => rfl
  | s :: l, m, R => runR_app X l m _
theorem runO_app (X : Int → Nat → F) : ∀ (l m : List Stp) (R O : Regs), runO X (l ++ m) R O = runO X m (runR X l R) (runO X l R O)
  | [], m, R, O => rfl
  | s :: l, m, R, O => runO_app X l m _ _
/-- is a step not idle, where the registers A are asked for behind it -/
def bsyS (s : Stp) (A : Int → Bool) : Bool := s.op == 5 || A s.dst
/-- which are asked for ahead of a step that is not idle -/
def aftS (s : Stp) (A : Int → Bool) : Int → Bool :=
  if s.op = 5 then fun r => if r = s.src then true else A r
  else if s.op = 1 ∨ s.op = 2 then fun r => if r = s.dst then false else A r
  else if s.op = 4 then fun r => if r = s.src then true else A r
  else A
def liv : List Stp → Int → Bool
  | [] => fun _ => false
  | s :: l => if bsyS s (liv l) = true then aftS s (liv l) else liv l
def trimS : List Stp → List Stp
  | [] => []
  | s :: l => if bsyS s (liv l) = true then s :: trimS l else trimS l
def bsyL : List Stp → List Bool
  | [] => []
  | s :: l => bsyS s (liv l) :: bsyL l
theorem bsyL_len : ∀ l : List Stp, (bsyL l).length = l.length
  | [] => rfl
  | s :: l => by rw [bsyL, List.length_cons, bsyL_len l, List.length_cons]
theorem liv_trim : ∀ l : List Stp, liv (trimS l) = liv l
  | [] => rfl
  | s :: l => by
    rw [trimS]
    by_cases h : bsyS s (liv l) = true
    · rw [if_pos h, liv, liv, liv_trim l]
    · rw [if_neg h, liv_trim l, liv, if_neg h]
theorem trim_trim : ∀ l : List Stp, trimS (trimS l) = trimS l
  | [] => rfl
  | s :: l => by
    by_cases h : bsyS s (liv l) = true
    · have e : trimS (s :: l) = s :: trimS l := by rw [trimS, if_pos h]
      rw [e, trimS, liv_trim, if_pos h, trim_trim l]
    · have e : trimS (s :: l) = trimS l := by rw [trimS, if_neg h]
      rw [e, trim_trim l]
theorem trim_len : ∀ l : List Stp, (trimS l).length ≤ l.length
  | [] => Nat.le_refl _
  | s :: l => by
    rw [trimS]
    split
    · exact Nat.succ_le_succ (trim_len l)
    · exact Nat.le_trans (trim_len l) (Nat.le_succ _)
theorem trim_sub : ∀ (l : List Stp) (s : Stp), s ∈ trimS l → s ∈ l
  | [], _, h => h
  | x :: l, s, h => by
    rw [trimS] at h
    split at h
    · rcases List.mem_cons.1 h with rfl | h
      · exact List.mem_cons_self
      · exact List.mem_cons_of_mem _ (trim_sub l s h)
    · exact List.mem_cons_of_mem _ (trim_sub l s h)
/-- the stores stay -/
theorem trim_outs (d : Int) : ∀ l : List Stp, (trimS l).countP (fun s => s.op == 5 && s.dst == d) = l.countP (fun s => s.op == 5 && s.dst == d)
  | [] => rfl
  | s :: l => by
    rw [trimS]
    by_cases h : bsyS s (liv l) = true
    · rw [if_pos h, List.countP_cons, List.countP_cons, trim_outs d l]
    · have h5 : (s.op == 5) = false := by
        rw [bsyS, Bool.or_eq_true, not_or] at h
        simpa using h.1
      rw [if_neg h, List.countP_cons, h5, Bool.false_and, if_neg (by simp), Nat.add_zero, trim_outs d l]
/-- a list's own liveness tells what its outputs lean on -/
theorem run_liv (X : Int → Nat → F) : ∀ (l : List Stp) (R R' O : Regs), (∀ r, liv l r = true → R r = R' r) → runO X l R O = runO X (trimS l) R' O
  | [], R, R', O, h => rfl
  | s :: l, R, R', O, h => by
    rw [liv] at h
    rw [trimS]
    by_cases hb : bsyS s (liv l) = true
    · rw [if_pos hb] at h
      rw [if_pos hb, runO, runO]
      have hO : doO s R O = doO s R' O := by
        unfold doO
        split
        · rename_i h5
          have : R s.src = R' s.src := h _ (by rw [aftS, if_pos h5, if_pos rfl])
          rw [this]
        · rfl
      rw [hO]
      refine run_liv X l _ _ _ fun r hr => ?_
      unfold doR
      unfold aftS at h
      by_cases h1 : s.op = 1
      · rw [if_pos h1, if_pos h1]
        by_cases e : r = s.dst
        · subst e; rw [setR_same, setR_same]
        · rw [setR_other e, setR_other e]
          exact h r (by rw [if_neg (by omega), if_pos (.inl h1), if_neg e]; exact hr)
      rw [if_neg h1, if_neg h1]
      by_cases h2 : s.op = 2
      · rw [if_pos h2, if_pos h2]
        by_cases e : r = s.dst
        · subst e; rw [setR_same, setR_same]
        · rw [setR_other e, setR_other e]
          exact h r (by rw [if_neg (by omega), if_pos (.inr h2), if_neg e]; exact hr)
      rw [if_neg h2, if_neg h2]
      have hd : s.op ≠ 5 → liv l s.dst = true := fun h5 => by
        rw [bsyS, Bool.or_eq_true] at hb
        rcases hb with hb | hb
        · exact absurd (by simpa using hb) h5
        · exact hb
      by_cases h3 : s.op = 3
      · rw [if_pos h3, if_pos h3]
        have hA : ∀ r, liv l r = true → R r = R' r := fun r hr => h r (by rw [if_neg (by omega), if_neg (by omega), if_neg (by omega)]; exact hr)
        by_cases e : r = s.dst
        · subst e; rw [setR_same, setR_same, hA _ (hd (by omega))]
        · rw [setR_other e, setR_other e]; exact hA r hr
      rw [if_neg h3, if_neg h3]
      by_cases h4 : s.op = 4
      · rw [if_pos h4, if_pos h4]
        have hA : ∀ r, liv l r = true → R r = R' r := fun r hr => h r (by
          rw [if_neg (by omega), if_neg (by omega), if_pos h4]
          split
          · rfl
          · exact hr)
        have hS : R s.src = R' s.src := h _ (by rw [if_neg (by omega), if_neg (by omega), if_pos h4, if_pos rfl])
        by_cases e : r = s.dst
        · subst e; rw [setR_same, setR_same, hA _ (hd (by omega)), hS]
        · rw [setR_other e, setR_other e]; exact hA r hr
      rw [if_neg h4, if_neg h4]
      refine h r ?_
      by_cases h5 : s.op = 5
      · rw [if_pos h5]
        split
        · rfl
        · exact hr
      · rw [if_neg h5, if_neg (by omega), if_neg h4]; exact hr
    · rw [if_neg hb] at h
      rw [if_neg hb, runO]
      have h5 : ¬ s.op = 5 := fun e => hb (by rw [bsyS, e]; rfl)
      have hd : ¬ liv l s.dst = true := fun e => hb (by rw [bsyS, e, Bool.or_true])
      have hO : doO s R O = O := by rw [doO, if_neg h5]
      rw [hO]
      refine run_liv X l _ _ _ fun r hr => ?_
      have e : r ≠ s.dst := fun e => hd (e ▸ hr)
      have hk : doR X s R r = R r := by
        unfold doR
        repeat' split
        all_goals first | exact setR_other e | rfl
      rw [hk]; exact h r hr
theorem run_trim (X : Int → Nat → F) (l : List Stp) (R O : Regs) : runO X (trimS l) R O = runO X l R O := (run_liv X l R R O fun _ _ => rfl).symm
/-- liveness of two lists in a row leans on the second's alone -/
theorem liv_app {m m' : List Stp} (h : liv m = liv m') : ∀ l : List Stp, liv (l ++ m) = liv (l ++ m')
  | [] => h
  | s :: l => by rw [List.cons_append, List.cons_append, liv, liv, liv_app h l]
theorem trim_app {m m' : List Stp} (h : liv m = liv m') (ht : trimS m = trimS m') : ∀ l : List Stp, trimS (l ++ m) = trimS (l ++ m')
  | [] => ht
  | s :: l => by rw [List.cons_append, List.cons_append, trimS, trimS, liv_app h l, trim_app h ht l]
/-- does a step touch register q -/
def Touches (q : Int) (s : Stp) : Prop := (s.op ≠ 5 ∧ s.dst = q) ∨ ((s.op = 4 ∨ s.op = 5) ∧ s.src = q)
theorem liv_free {q : Int} : ∀ {l : List Stp}, (∀ s ∈ l, ¬ Touches q s) → liv l q = false
  | [], _ => rfl
  | s :: l, h => by
    have ih := liv_free (l := l) fun x hx => h x (List.mem_cons_of_mem _ hx)
    have hs := h s List.mem_cons_self
    unfold Touches at hs
    rw [not_or] at hs
    rw [liv]
    split
    · unfold aftS
      by_cases h5 : s.op = 5
      · rw [if_pos h5, if_neg (fun e => hs.2 ⟨.inr h5, e.symm⟩)]; exact ih
      rw [if_neg h5]
      by_cases h12 : s.op = 1 ∨ s.op = 2
      · rw [if_pos h12, if_neg (fun e => hs.1 ⟨h5, e.symm⟩)]; exact ih
      rw [if_neg h12]
      by_cases h4 : s.op = 4
      · rw [if_pos h4, if_neg (fun e => hs.2 ⟨.inl h4, e.symm⟩)]; exact ih
      rw [if_neg h4]; exact ih
    · exact ih
theorem run_free (X : Int → Nat → F) {q : Int} : ∀ {l : List Stp}, (∀ s ∈ l, ¬ Touches q s) → ∀ (R R' O : Regs), (∀ r, r ≠ q → R r = R' r) → runO X l R O = runO X l R' O
  | [], _, R, R', O, h => rfl
  | s :: l, ht, R, R', O, h => by
    have hs := ht s List.mem_cons_self
    unfold Touches at hs
    rw [not_or] at hs
    have hd : s.op ≠ 5 → s.dst ≠ q := fun h5 e => hs.1 ⟨h5, e⟩
    have hsr : s.op = 4 ∨ s.op = 5 → s.src ≠ q := fun h5 e => hs.2 ⟨h5, e⟩
    rw [runO, runO]
    have hO : doO s R O = doO s R' O := by
      unfold doO
      split
      · rename_i h5; rw [h _ (hsr (.inr h5))]
      · rfl
    rw [hO]
    refine run_free X (fun x hx => ht x (List.mem_cons_of_mem _ hx)) _ _ _ fun r hr => ?_
    unfold doR
    by_cases h1 : s.op = 1
    · rw [if_pos h1, if_pos h1]; unfold setR; split <;> first | rfl | exact h r hr
    rw [if_neg h1, if_neg h1]
    by_cases h2 : s.op = 2
    · rw [if_pos h2, if_pos h2]; unfold setR; split <;> first | rfl | exact h r hr
    rw [if_neg h2, if_neg h2]
    by_cases h3 : s.op = 3
    · rw [if_pos h3, if_pos h3, h _ (hd (by omega))]; unfold setR; split <;> first | rfl | exact h r hr
    rw [if_neg h3, if_neg h3]
    by_cases h4 : s.op = 4
    · rw [if_pos h4, if_pos h4, h _ (hd (by omega)), h _ (hsr (.inl h4))]; unfold setR; split <;> first | rfl | exact h r hr
    rw [if_neg h4, if_neg h4]; exact h r hr
theorem runR_free (X : Int → Nat → F) {q : Int} : ∀ {l : List Stp}, (∀ s ∈ l, ¬ Touches q s) → ∀ (R : Regs), runR X l R q = R q
  | [], _, R => rfl
  | s :: l, ht, R => by
    have hs := ht s List.mem_cons_self
    unfold Touches at hs
    rw [not_or] at hs
    rw [runR, runR_free X (fun x hx => ht x (List.mem_cons_of_mem _ hx))]
    by_cases h5 : s.op = 5
    · unfold doR
      rw [if_neg (by omega), if_neg (by omega), if_neg (by omega), if_neg (by omega)]
    · have hq : q ≠ s.dst := fun e => hs.1 ⟨h5, e.symm⟩
      unfold doR
      repeat' split
      all_goals first | exact setR_other hq | rfl
/-- two steps put in that write a register which no other touches: the meaning stays, and they are idle -/
theorem idle_trim {q : Int} {l m mid : List Stp} (hm : ∀ s ∈ m, ¬ Touches q s) (hmid : ∀ s ∈ mid, s.op ≠ 5 ∧ s.dst = q) : trimS (l ++ (mid ++ m)) = trimS (l ++ m) := by
  have H : ∀ n : List Stp, (∀ s ∈ n, s.op ≠ 5 ∧ s.dst = q) → liv (n ++ m) = liv m ∧ trimS (n ++ m) = trimS m := by
    intro n
    induction n with
    | nil => intro _; exact ⟨rfl, rfl⟩
    | cons s n ih =>
      intro hn
      have ih := ih fun x hx => hn x (List.mem_cons_of_mem _ hx)
      obtain ⟨h5, hd⟩ := hn s List.mem_cons_self
      have hb : ¬ bsyS s (liv (n ++ m)) = true := by
        rw [bsyS, ih.1, hd, liv_free hm, Bool.or_false]
        simpa using h5
      exact ⟨by rw [List.cons_append, liv, if_neg hb, ih.1], by rw [List.cons_append, trimS, if_neg hb, ih.2]⟩
  obtain ⟨h1, h2⟩ := H mid hmid
  exact trim_app h1 h2 l
theorem idle_run (X : Int → Nat → F) {q : Int} {m : List Stp} (hm : ∀ s ∈ m, ¬ Touches q s) : ∀ {mid : List Stp}, (∀ s ∈ mid, s.op ≠ 5 ∧ s.dst = q) → ∀ (R O : Regs), runO X (mid ++ m) R O = runO X m R O
  | [], _, R, O => rfl
  | s :: n, hn, R, O => by
    obtain ⟨h5, hd⟩ := hn s List.mem_cons_self
    rw [List.cons_append, runO, idle_run X hm (fun x hx => hn x (List.mem_cons_of_mem _ hx)), doO, if_neg h5]
    refine run_free X hm _ _ _ fun r hr => ?_
    have hq : r ≠ s.dst := by rw [hd]; exact hr
    unfold doR
    repeat' split
    all_goals first | exact setR_other hq | rfl
theorem idle_meaning (X : Int → Nat → F) {q : Int} {l m mid : List Stp} (hm : ∀ s ∈ m, ¬ Touches q s) (hmid : ∀ s ∈ mid, s.op ≠ 5 ∧ s.dst = q) (R O : Regs) : runO X (l ++ (mid ++ m)) R O = runO X (l ++ m) R O := by
  rw [runO_app X l (mid ++ m), runO_app X l m, runO_app X mid m]
  have h := idle_run X hm hmid (runR X l R) (runO X l R O)
  rw [runO_app] at h
  exact h
/-- a register's name in another naming -/
def renS (f : Int → Int) (s : Stp) : Stp := { s with dst := if s.op = 5 then s.dst else f s.dst, src := if s.op = 4 ∨ s.op = 5 then f s.src else s.src }
theorem run_ren (X : Int → Nat → F) {f : Int → Int} (hf : ∀ a b, f a = f b → a = b) : ∀ (l : List Stp) (R R' O : Regs), (∀ r, R' (f r) = R r) → runO X (l.map (renS f)) R' O = runO X l R O
  | [], _, _, _, _ => rfl
  | s :: l, R, R', O, h => by
    rw [List.map_cons, runO, runO]
    have hO : doO (renS f s) R' O = doO s R O := by
      unfold doO renS
      by_cases h5 : s.op = 5
      · simp only [h5, if_true, or_true]; rw [h]
      · simp only [if_neg h5]
    rw [hO]
    refine run_ren X hf l _ _ _ fun r => ?_
    unfold doR renS
    have hset : ∀ (d : Int) (v v' : Nat → F), v' = v → setR R' (f d) v' (f r) = setR R d v r := fun d v v' hv => by
      unfold setR
      by_cases e : r = d
      · rw [if_pos e, if_pos (by rw [e]), hv]
      · rw [if_neg e, if_neg (fun e2 => e (hf _ _ e2)), h]
    by_cases h1 : s.op = 1
    · simp only [h1, if_true]; simpa using hset _ _ _ rfl
    by_cases h2 : s.op = 2
    · simp only [h2]; simpa using hset _ _ _ rfl
    by_cases h3 : s.op = 3
    · simp only [h3]; simpa using hset _ _ _ (by rw [h])
    by_cases h4 : s.op = 4
    · simp only [h4]; simpa using hset _ _ _ (by rw [h, h])
    simp only [if_neg h1, if_neg h2, if_neg h3, if_neg h4]
    exact h r
/-- two numbers exchanged -/
def xch (a b n : Int) : Int := if n = a then b else if n = b then a else n
theorem xch_inj {a b m n : Int} (h : xch a b m = xch a b n) : m = n := by
  unfold xch at h
  split at h <;> split at h <;> (try split at h) <;> (try split at h) <;> omega
end Go.Proofs.YtkoakingmnjdoaaGreatDoor
