/- Plain algebra of stage 10: what a straight-line program makes of sums of inputs, and what its meaning says of all inputs; no program is spoken of. -/
import Derived.Test.YtoalbopcapgojabDoorStepG
namespace Go.Proofs.YtoalbopcapgojabDoor
open Gf
set_option linter.unusedVariables false
set_option maxRecDepth 20000
def gaR (R S : Regs) : Regs := fun d b => ga (R d b) (S d b)
theorem ga4 (a b c d : F) : ga (ga a b) (ga c d) = ga (ga a c) (ga b d) := by
  rw [F.add_assoc, F.add_assoc, F.add_left_comm b c d]
theorem doR_1 {X : Int → Nat → F} {s : Stp} {R : Regs} (h : s.op = 1) : doR X s R = setR R s.dst (X s.src) := by rw [doR, if_pos h]
theorem doR_2 {X : Int → Nat → F} {s : Stp} {R : Regs} (h : s.op = 2) : doR X s R = setR R s.dst (fun _ => 0) := by rw [doR, if_neg (by omega), if_pos h]
theorem doR_3 {X : Int → Nat → F} {s : Stp} {R : Regs} (h : s.op = 3) : doR X s R = setR R s.dst (fun b => gm s.c (R s.dst b)) := by rw [doR, if_neg (by omega), if_neg (by omega), if_pos h]
theorem doR_4 {X : Int → Nat → F} {s : Stp} {R : Regs} (h : s.op = 4) : doR X s R = setR R s.dst (fun b => ga (R s.dst b) (gm s.c (R s.src b))) := by rw [doR, if_neg (by omega), if_neg (by omega), if_neg (by omega), if_pos h]
theorem doR_n {X : Int → Nat → F} {s : Stp} {R : Regs} (h1 : s.op ≠ 1) (h2 : s.op ≠ 2) (h3 : s.op ≠ 3) (h4 : s.op ≠ 4) : doR X s R = R := by rw [doR, if_neg h1, if_neg h2, if_neg h3, if_neg h4]
theorem gaR_setR (R S : Regs) (d : Int) (v u : Nat → F) : gaR (setR R d v) (setR S d u) = setR (gaR R S) d (fun b => ga (v b) (u b)) := by
  funext r b
  by_cases e : r = d
  · subst e; simp only [gaR, setR_same]
  · simp only [gaR, setR_other e]
theorem doR_add (X Y : Int → Nat → F) (s : Stp) (R S : Regs) : doR (gaR X Y) s (gaR R S) = gaR (doR X s R) (doR Y s S) := by
  by_cases h1 : s.op = 1
  · rw [doR_1 h1, doR_1 h1, doR_1 h1, gaR_setR]; rfl
  by_cases h2 : s.op = 2
  · rw [doR_2 h2, doR_2 h2, doR_2 h2, gaR_setR]; simp only [F.add_self]
  by_cases h3 : s.op = 3
  · rw [doR_3 h3, doR_3 h3, doR_3 h3, gaR_setR]; simp only [gaR, F.mul_add]
  by_cases h4 : s.op = 4
  · rw [doR_4 h4, doR_4 h4, doR_4 h4, gaR_setR]; simp only [gaR, F.mul_add]; congr 1; funext b; exact ga4 _ _ _ _
  · rw [doR_n h1 h2 h3 h4, doR_n h1 h2 h3 h4, doR_n h1 h2 h3 h4]
theorem doO_add (s : Stp) (R S O P : Regs) : doO s (gaR R S) (gaR O P) = gaR (doO s R O) (doO s S P) := by
  unfold doO
  by_cases h5 : s.op = 5
  · rw [if_pos h5, if_pos h5, if_pos h5, gaR_setR]; rfl
  · rw [if_neg h5, if_neg h5, if_neg h5]
theorem runO_add (X Y : Int → Nat → F) : ∀ (l : List Stp) (R S O P : Regs), runO (gaR X Y) l (gaR R S) (gaR O P) = gaR (runO X l R O) (runO Y l S P)
  | [], R, S, O, P => rfl
  | s :: l, R, S, O, P => by rw [runO, runO, runO, doR_add, doO_add]; exact runO_add X Y l _ _ _ _
def noR : Regs := fun _ _ => 0
theorem gaR_no : gaR noR noR = noR := by funext r b; exact F.add_self _
/-- of sums of inputs the sums of outputs -/
theorem run_sum (X Y : Int → Nat → F) (l : List Stp) : runO (gaR X Y) l noR noR = gaR (runO X l noR noR) (runO Y l noR noR) := by
  have := runO_add X Y l noR noR noR noR
  rwa [gaR_no] at this
/-- inputs that are alike where they are loaded make alike outputs -/
theorem run_alike {X Y : Int → Nat → F} {b : Nat} : ∀ {l : List Stp}, (∀ s ∈ l, s.op = 1 → X s.src b = Y s.src b) → ∀ (R S O P : Regs), (∀ r, R r b = S r b) → (∀ r, O r b = P r b) → ∀ r, runO X l R O r b = runO Y l S P r b
  | [], h, R, S, O, P, hR, hO, r => hO r
  | s :: l, h, R, S, O, P, hR, hO, r => by
    rw [runO, runO]
    refine run_alike (fun t ht => h t (List.mem_cons_of_mem _ ht)) _ _ _ _ (fun q => ?_) (fun q => ?_) r
    · have h1' := h s (List.mem_cons_self ..)
      by_cases h1 : s.op = 1
      · rw [doR_1 h1, doR_1 h1]
        by_cases e : q = s.dst
        · subst e; rw [setR_same, setR_same]; exact h1' h1
        · rw [setR_other e, setR_other e]; exact hR q
      by_cases h2 : s.op = 2
      · rw [doR_2 h2, doR_2 h2]
        by_cases e : q = s.dst
        · subst e; rw [setR_same, setR_same]
        · rw [setR_other e, setR_other e]; exact hR q
      by_cases h3 : s.op = 3
      · rw [doR_3 h3, doR_3 h3]
        by_cases e : q = s.dst
        · subst e; rw [setR_same, setR_same, hR]
        · rw [setR_other e, setR_other e]; exact hR q
      by_cases h4 : s.op = 4
      · rw [doR_4 h4, doR_4 h4]
        by_cases e : q = s.dst
        · subst e; rw [setR_same, setR_same, hR, hR]
        · rw [setR_other e, setR_other e]; exact hR q
      · rw [doR_n h1 h2 h3 h4, doR_n h1 h2 h3 h4]; exact hR q
    · unfold doO
      by_cases h5 : s.op = 5
      · rw [if_pos h5, if_pos h5]
        by_cases e : q = s.dst
        · subst e; rw [setR_same, setR_same]; exact hR _
        · rw [setR_other e, setR_other e]; exact hO q
      · rw [if_neg h5, if_neg h5]; exact hO q
/-- what a state is of the inputs, told by what it is of unit columns -/
def MeanR (X : Int → Nat → F) (n b : Nat) (R U : Regs) : Prop := ∀ r, R r b = sumF (fun i => gm (U r i) (X (i : Int) b)) n
theorem meanR_do {X : Int → Nat → F} {n b : Nat} {R U : Regs} {s : Stp} (h : MeanR X n b R U) (hs : s.op = 1 → 0 ≤ s.src ∧ s.src < n) : MeanR X n b (doR X s R) (doR unX s U) := by
  intro r
  by_cases h1 : s.op = 1
  · rw [doR_1 h1, doR_1 h1]
    by_cases e : r = s.dst
    · subst e
      rw [setR_same]
      simp only [setR_same]
      obtain ⟨ha, hb⟩ := hs h1
      obtain ⟨k, hk⟩ := Int.eq_ofNat_of_zero_le ha
      rw [sumF_pick (fun i => gm (unX s.src i) (X (i : Int) b)) k n (by omega) (fun l _ hl => by
        simp only [unX]; rw [if_neg (by omega), F.zero_mul])]
      simp only [unX]; rw [if_pos (by omega), F.one_mul, hk]
    · rw [setR_other e]; simp only [setR_other e]; exact h r
  by_cases h2 : s.op = 2
  · rw [doR_2 h2, doR_2 h2]
    by_cases e : r = s.dst
    · subst e; rw [setR_same]; simp only [setR_same]; exact (sumF_none fun l _ => F.zero_mul _).symm
    · rw [setR_other e]; simp only [setR_other e]; exact h r
  by_cases h3 : s.op = 3
  · rw [doR_3 h3, doR_3 h3]
    by_cases e : r = s.dst
    · subst e; rw [setR_same]; simp only [setR_same]; rw [h s.dst, sumF_mul_left]; exact sumF_congr fun l _ => (F.mul_assoc _ _ _).symm
    · rw [setR_other e]; simp only [setR_other e]; exact h r
  by_cases h4 : s.op = 4
  · rw [doR_4 h4, doR_4 h4]
    by_cases e : r = s.dst
    · subst e; rw [setR_same]; simp only [setR_same]; rw [h s.dst, h s.src, sumF_mul_left, ← sumF_add]; exact sumF_congr fun l _ => by rw [F.add_mul, F.mul_assoc]
    · rw [setR_other e]; simp only [setR_other e]; exact h r
  · rw [doR_n h1 h2 h3 h4, doR_n h1 h2 h3 h4]; exact h r
theorem meanO_do {X : Int → Nat → F} {n b : Nat} {R U O V : Regs} {s : Stp} (h : MeanR X n b R U) (k : MeanR X n b O V) : MeanR X n b (doO s R O) (doO s U V) := by
  intro r
  unfold doO
  by_cases h5 : s.op = 5
  · rw [if_pos h5, if_pos h5]
    by_cases e : r = s.dst
    · subst e; rw [setR_same]; simp only [setR_same]; exact h _
    · rw [setR_other e]; simp only [setR_other e]; exact k r
  · rw [if_neg h5, if_neg h5]; exact k r
theorem meanR_run {X : Int → Nat → F} {n b : Nat} : ∀ {l : List Stp}, (∀ s ∈ l, s.op = 1 → 0 ≤ s.src ∧ s.src < n) → ∀ {R U O V : Regs}, MeanR X n b R U → MeanR X n b O V → MeanR X n b (runO X l R O) (runO unX l U V)
  | [], _, R, U, O, V, h, k => k
  | s :: l, hs, R, U, O, V, h, k => by
    rw [runO, runO]
    exact meanR_run (fun t ht => hs t (List.mem_cons_of_mem _ ht)) (meanR_do h (hs s (List.mem_cons_self ..))) (meanO_do h k)
theorem meanR_no (X : Int → Nat → F) (n b : Nat) : MeanR X n b noR noR := fun r => (sumF_none fun l _ => F.zero_mul _).symm
/-- the outputs are the meaning's rows times the inputs -/
theorem run_mean (X : Int → Nat → F) (n b : Nat) {l : List Stp} (hs : ∀ s ∈ l, s.op = 1 → 0 ≤ s.src ∧ s.src < n) (d : Int) : runO X l noR noR d b = sumF (fun i => gm (runO unX l noR noR d i) (X (i : Int) b)) n := meanR_run hs (meanR_no X n b) (meanR_no X n b) d
end Go.Proofs.YtoalbopcapgojabDoor
