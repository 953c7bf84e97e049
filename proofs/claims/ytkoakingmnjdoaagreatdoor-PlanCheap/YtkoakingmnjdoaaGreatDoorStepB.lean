/- What the document's own Busy answers, of all programs in form. -/
import Derived.Test.YtkoakingmnjdoaaGreatDoorStepF
import Derived.Test.YtkoakingmnjdoaaGreatDoorHolds
namespace Go.Proofs.YtkoakingmnjdoaaGreatDoor
open Go.RowKit Gf
set_option linter.unusedVariables false
set_option maxRecDepth 20000
set_option linter.unusedSimpArgs false
def visB (bs : List Bool) : Array Value := (bs.map Value.bool).toArray
theorem visB_get {bs : List Bool} {j : Nat} {b : Bool} (h : bs[j]? = some b) : (visB bs)[j]? = some (.bool b) := by simp [visB, h]
theorem visB_set (bs : List Bool) (j : Nat) (b : Bool) : (visB bs).setIfInBounds j (.bool b) = visB (bs.set j b) := by
  apply Array.toList_inj.1
  simp [visB, List.map_set]
theorem infoB9 : ∃ i, Tryz.prog.info? 4 = some i ∧ i.size = 1 ∧ i.bytes = 1 ∧ i.zero = some (.bool false) := by
  have hi : (Tryz.prog.info? 4).map (fun i => (i.size, i.bytes, i.zero)) = some (1, 1, some (.bool false)) := by kernel_rfl
  cases hq : Tryz.prog.info? 4 with
  | none => simp [hq] at hi
  | some i =>
    simp only [hq, Option.map_some, Option.some.injEq, Prod.mk.injEq] at hi
    exact ⟨i, rfl, hi.1, hi.2.1, hi.2.2⟩
theorem run_makeB9 (n : Nat) (hn : n ≤ 17592186043904) (w : World) :
    (Instr.makeSlice 160 (.int .i64 (n : Int)) (.int .i64 (n : Int))).run Tryz.prog w = .ok (.slice (some ⟨w.heap.size, 0, none⟩) n n) (w.alloc (.cells (visB (List.replicate n false)) 4)) := by
  obtain ⟨i, hi, h1, h2, h3⟩ := infoB9
  have := run_make (P := Tryz.prog) w 160 4 i _ Tryz.underlying160 hi h3 .i64 .i64 n n (by omega) (by omega) (by rw [h2]; omega) (by omega)
  rw [this, h1]
  have e : madeCells (Value.bool false).cells (n * 1) = visB (List.replicate n false) := by
    apply Array.ext_getElem?
    intro k
    have hz : (Value.bool false).cells = #[.bool false] := by rfl
    rw [hz]
    by_cases h : k < n <;> simp [madeCells, visB, h, Nat.mod_one]
  simp only [Int.toNat_natCast, e]
/-- the answers so far, j steps being left -/
def outL (ss : List Stp) (j : Nat) : List Bool := List.replicate j false ++ bsyL (ss.drop j)
theorem outL_set {ss : List Stp} {p : Nat} {s : Stp} (h : ss[p]? = some s) : (outL ss (p + 1)).set p (bsyS s (liv (ss.drop (p + 1)))) = outL ss p := by
  have hp : p < ss.length := by
    rcases Nat.lt_or_ge p ss.length with h' | h'
    · exact h'
    · rw [List.getElem?_eq_none h'] at h; cases h
  have hs : ss[p] = s := by rw [List.getElem?_eq_getElem hp] at h; exact Option.some.inj h
  have hd : ss.drop p = s :: ss.drop (p + 1) := by rw [List.drop_eq_getElem_cons hp, hs]
  unfold outL
  rw [hd, bsyL, List.replicate_succ', List.append_assoc, List.set_append_right _ _ (by simp)]
  simp
theorem outL_at {ss : List Stp} {p j : Nat} (h : p < j) : (outL ss j)[p]? = some false := by
  rw [outL, List.getElem?_append_left (by simpa using h), List.getElem?_replicate, if_pos h]
theorem liv_drop {ss : List Stp} {p : Nat} {s : Stp} (h : ss[p]? = some s) : liv (ss.drop p) = if bsyS s (liv (ss.drop (p + 1))) = true then aftS s (liv (ss.drop (p + 1))) else liv (ss.drop (p + 1)) := by
  have hp : p < ss.length := by
    rcases Nat.lt_or_ge p ss.length with h' | h'
    · exact h'
    · rw [List.getElem?_eq_none h'] at h; cases h
  have hs : ss[p] = s := by rw [List.getElem?_eq_getElem hp] at h; exact Option.some.inj h
  rw [List.drop_eq_getElem_cons hp, hs, liv]
def askL (A : Int → Bool) : List Bool := (List.range 65).map fun (r : Nat) => A (r : Int)
theorem askL_get {A : Int → Bool} {q : Nat} (h : q < 65) : (askL A)[q]? = some (A q) := by simp [askL, h]
theorem askL_set {A : Int → Bool} {q : Nat} (v : Bool) (h : q < 65) : (askL A).set q v = askL (fun r => if r = q then v else A r) := by
  apply List.ext_getElem?
  intro i
  rw [List.getElem?_set]
  by_cases hi : i < 65
  · rw [askL_get hi]
    by_cases e : q = i
    · subst e; rw [if_pos rfl]; simp [askL, h]
    · have e2 : ¬ (i : Int) = (q : Int) := by omega
      rw [if_neg e, askL_get hi, if_neg e2]
  · have h1 : (askL A).length = 65 := by simp [askL]
    rw [List.getElem?_eq_none (by simp [askL]; omega), List.getElem?_eq_none (by simp [askL]; omega)]
    split
    · rw [if_neg (by rw [h1]; omega)]
    · rfl
theorem askL_nil : askL (liv []) = List.replicate 65 false := by
  show (List.range 65).map (fun _ => false) = _
  decide
end Go.Proofs.YtkoakingmnjdoaaGreatDoor
