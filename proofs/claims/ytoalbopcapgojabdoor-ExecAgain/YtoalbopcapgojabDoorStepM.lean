/- What Meaning of package prog answers of programs in form. -/
import Derived.Test.YtoalbopcapgojabDoorStepE
import Derived.Test.YtoalbopcapgojabDoorStepG
import Derived.Test.YtoalbopcapgojabDoorMatO
import Derived.Deep.DeepCutAuto
namespace Go.Proofs.YtoalbopcapgojabDoor
open Go.RowKit Gf
set_option linter.unusedVariables false
set_option maxRecDepth 20000
set_option linter.unusedSimpArgs false
/-- outputs, from the first step on, as registers of unit columns -/
def meanR (ss : List Stp) (d : Int) : Nat → F := runO unX ss (fun _ _ => 0) (fun _ _ => 0) d
def meanRows (n no : Nat) (ss : List Stp) : List (List F) := (List.range no).map fun (d : Nat) => rowF n (meanR ss (d : Int))
def meanL (n no : Nat) (ss : List Stp) : List F := (meanRows n no ss).flatten
theorem meanRows_len (n no : Nat) (ss : List Stp) : (meanRows n no ss).length = no := by simp [meanRows]
theorem meanL_len (n no : Nat) (ss : List Stp) : (meanL n no ss).length = no * n := by
  rw [meanL, flat_len (c := n) (fun xs h => by obtain ⟨d, _, rfl⟩ := List.mem_map.1 h; exact rowF_len _ _), meanRows_len]
theorem run_makeN (n c : Nat) (hn : n ≤ 64) (w : World) :
    (Instr.makeSlice 29 (.int .i64 (n : Int)) (.int .i64 (n : Int))).run Tryd.prog w = .ok (.slice (some ⟨w.heap.size, 0, none⟩) n n) (w.alloc (.cells (slO n c (fun _ => none)) 26)) := by
  obtain ⟨i, hi, h1, h2, h3⟩ := infoS
  have := run_make (P := Tryd.prog) w 29 26 i _ Tryd.underlying29 hi h3 .i64 .i64 n n (by omega) (by omega) (by rw [h2]; omega) (by omega)
  have e : madeCells (Value.slice none 0 0).cells n = slO n c (fun _ => none) := by
    apply Array.ext_getElem?
    intro i
    by_cases h : i < n <;> simp [madeCells, slO, svO, Value.cells, h, Nat.mod_one]
  rw [this, h1]
  simp only [Int.toNat_natCast, Nat.mul_one, e]
/-- what a step does, whichever it is -/
theorem does_F (B cb M Q n rg no : Nat) (f : Nat → Option Addr × Nat) (g : Nat → Option (Option Addr × Nat)) (R O : Regs) (s : Stp) (m : Nat) (w : World) (hn : n ≤ 64) (hrg : rg ≤ 64) (hno : no ≤ 64) (hBw : B ≤ w.heap.size) (h : CmbW B w cb M Q n rg no f g R O)
    (hok : OkS n no rg s) (hm : m = (if s.op = 1 then 48 else if s.op = 2 then 50 else if s.op = 3 then 52 else if s.op = 4 then 54 else 56)) :
    Calls Tryd.prog m #[.pointer (some ⟨cb, 0, none⟩), .agg #[.int .i64 s.op, .int .i64 s.dst, .int .i64 s.src, .int .u8 (s.c.toNat : Int)]] w fun e w' => e = .returned (.tuple #[]) ∧ (∃ f' g', CmbW B w' cb M Q n rg no f' g' (doR unX s R) (doO s R O) ∧ ∀ d, (g' d).isSome = ((g d).isSome || (s.op == 5 && s.dst == (d : Int)))) ∧ Below B w w' := by
  obtain ⟨op, dst, src, c⟩ := s
  unfold OkS at hok
  simp only at hok hm ⊢
  rcases hok with ⟨rfl, h1, h2, h3⟩ | ⟨rfl, h1, h2, h3⟩ | ⟨rfl, h1, h2⟩ | ⟨rfl, h1, h2⟩ | ⟨rfl, h1, h2, h3⟩
  · obtain ⟨dst, rfl⟩ := Int.eq_ofNat_of_zero_le h1.1
    obtain ⟨src, rfl⟩ := Int.eq_ofNat_of_zero_le h2.1
    subst hm
    exact (does_load B cb M Q n rg no f g R O 1 dst src c.toNat (by omega) (by omega) w hn hrg hno hBw h).mono fun e w' ⟨a, ⟨f', g', k, hg⟩, b⟩ => ⟨a, ⟨f', g', k, fun d => by rw [hg]; simp⟩, b⟩
  · obtain ⟨dst, rfl⟩ := Int.eq_ofNat_of_zero_le h1.1
    subst hm
    exact (does_zero B cb M Q n rg no f g R O 2 dst src c.toNat (by omega) w hn hrg hno hBw h).mono fun e w' ⟨a, ⟨f', g', k, hg⟩, b⟩ => ⟨a, ⟨f', g', k, fun d => by rw [hg]; simp⟩, b⟩
  · obtain ⟨dst, rfl⟩ := Int.eq_ofNat_of_zero_le h1.1
    subst hm
    exact (does_mul B cb M Q n rg no f g R O 3 dst src c (by omega) w hn hrg hno hBw h).mono fun e w' ⟨a, ⟨f', g', k, hg⟩, b⟩ => ⟨a, ⟨f', g', k, fun d => by rw [hg]; simp⟩, b⟩
  · obtain ⟨dst, rfl⟩ := Int.eq_ofNat_of_zero_le h1.1
    obtain ⟨src, rfl⟩ := Int.eq_ofNat_of_zero_le h2.1
    subst hm
    exact (does_add B cb M Q n rg no f g R O 4 dst src c (by omega) (by omega) w hn hrg hno hBw h).mono fun e w' ⟨a, ⟨f', g', k, hg⟩, b⟩ => ⟨a, ⟨f', g', k, fun d => by rw [hg]; simp⟩, b⟩
  · obtain ⟨dst, rfl⟩ := Int.eq_ofNat_of_zero_le h1.1
    obtain ⟨src, rfl⟩ := Int.eq_ofNat_of_zero_le h2.1
    subst hm
    exact (does_out B cb M Q n rg no f g R O 5 dst src c.toNat (by omega) (by omega) w hn hrg hno hBw h).mono fun e w' ⟨a, ⟨f', g', k, hg⟩, b⟩ => ⟨a, ⟨f', g', k, fun d => by
      rw [hg]
      by_cases e : d = dst
      · subst e; simp
      · simp [e, show ¬ (dst : Int) = (d : Int) by omega]⟩, b⟩
/-- the machine while its registers are laid -/
structure IniW (B : Nat) (w : World) (cb M Q n rg no k : Nat) (g : Nat → Option (Option Addr × Nat)) : Prop where
  blk : w.heap[cb]? = some (.cells #[.int .i64 n, .slice (some ⟨M, 0, none⟩) rg rg, .slice (some ⟨Q, 0, none⟩) no no] 94 (0, 0))
  regs : w.heap[M]? = some (.cells (slO rg n g) 26 (0, 0))
  outs : w.heap[Q]? = some (.cells (slO no n (fun _ => none)) 26 (0, 0))
  row : ∀ x, x < k → ∃ p, g x = some p ∧ Row8T w p.1 (rowF n (fun _ => 0)) ∧ n ≤ p.2 ∧ (p.1 = none → p.2 = 0)
  hb : B ≤ cb
  hM : B ≤ M
  hQ : B ≤ Q
  hMQ : M ≠ Q
  hcM : cb ≠ M
  hcQ : cb ≠ Q
theorem IniW.below {B : Nat} {w w' : World} {cb M Q n rg no k : Nat} {g : Nat → Option (Option Addr × Nat)} (h : IniW B w cb M Q n rg no k g) (hb : Below w.heap.size w w') : IniW B w' cb M Q n rg no k g :=
  { h with blk := heap_later h.blk hb, regs := heap_later h.regs hb, outs := heap_later h.outs hb, row := fun x hx => by obtain ⟨p, h1, h2, h3⟩ := h.row x hx; exact ⟨p, h1, row8T_below h2 hb, h3⟩ }
theorem IniW.drew {B : Nat} {w : World} {cb M Q n rg no k : Nat} {g : Nat → Option (Option Addr × Nat)} (h : IniW B w cb M Q n rg no k g) : IniW B w.drew cb M Q n rg no k g :=
  { h with blk := h.blk, regs := h.regs, outs := h.outs, row := h.row }
theorem IniW.put {B : Nat} {w : World} {cb M Q n rg no k : Nat} {g : Nat → Option (Option Addr × Nat)} (h : IniW B w cb M Q n rg no k g) (hk : k < rg) {a : Option Addr} {m : Nat} (ha : Row8T w a (rowF n (fun _ => 0))) (hm : n ≤ m) (hn : a = none → m = 0) :
    IniW B (w.setCell ⟨M, k, none⟩ (.slice a n m)) cb M Q n rg no (k + 1) (fun x => if x = k then some (a, m) else g x) := by
  have hg : w.grownBy (w.setCell ⟨M, k, none⟩ (.slice a n m)) (some M) := grownBy_setCell (World.grownBy.refl _ _) _
  have hne : NoElems w (some M) := noElems_some h.regs (by decide)
  refine { h with blk := ?_, regs := ?_, outs := ?_, row := fun x hx => ?_ }
  · exact (heap_setCell_other _ _ _ _ h.hcM).trans h.blk
  · rw [heap_setCell_same _ _ _ _ _ _ h.regs, slO_set (a, m) hk]
  · exact (heap_setCell_other _ _ _ _ (fun e => h.hMQ e.symm)).trans h.outs
  · by_cases e : x = k
    · exact ⟨(a, m), by simp [e], row8T_grown ha hg hne, hm, hn⟩
    · obtain ⟨p, h1, h2, h3⟩ := h.row x (by omega)
      exact ⟨p, by simp [e, h1], row8T_grown h2 hg hne, h3⟩
theorem IniW.done {B : Nat} {w : World} {cb M Q n rg no : Nat} {g : Nat → Option (Option Addr × Nat)} (h : IniW B w cb M Q n rg no rg g) : CmbW B w cb M Q n rg no (fun x => (g x).getD (none, 0)) (fun _ => none) (fun _ _ => 0) (fun _ _ => 0) := by
  refine { h with blk := h.blk, regs := ⟨?_, fun x hx => ?_, fun x hx => ?_, fun x hx => ?_⟩, outs := h.outs, out := fun d hd p hp => by cases hp }
  · rw [h.regs]
    congr 2
    apply Array.ext_getElem?
    intro i
    by_cases hi : i < rg
    · obtain ⟨p, h1, _⟩ := h.row i hi
      rw [slO_at hi, slF_at hi, svO, h1]; rfl
    · rw [Array.getElem?_eq_none (by rw [slO_size]; omega), Array.getElem?_eq_none (by rw [slF_size]; omega)]
  · obtain ⟨p, h1, h2, h3⟩ := h.row x hx
    simp only [h1, Option.getD_some]; exact h2
  · obtain ⟨p, h1, h2, h3⟩ := h.row x hx
    simp only [h1, Option.getD_some]; exact h3.1
  · obtain ⟨p, h1, h2, h3⟩ := h.row x hx
    simp only [h1, Option.getD_some]; exact h3.2
theorem outs_rows8 {B : Nat} {w : World} {cb M Q n rg no : Nat} {f : Nat → Option Addr × Nat} {g : Nat → Option (Option Addr × Nat)} {R O : Regs} (h : CmbW B w cb M Q n rg no f g R O) (hg : ∀ d, d < no → (g d).isSome = true) : Rows8 w (some ⟨Q, 0, none⟩) ((List.range no).map fun (d : Nat) => rowF n (O (d : Int))) := by
  refine .inr ⟨Q, 0, rfl, fun j x hx => ?_⟩
  simp only [List.getElem?_map, Option.map_eq_some_iff] at hx
  obtain ⟨i, hi, rfl⟩ := hx
  obtain ⟨hjk, hi2⟩ := List.getElem?_eq_some_iff.1 hi
  simp only [List.length_range] at hjk
  simp only [List.getElem_range] at hi2
  subst hi2
  obtain ⟨p, hp⟩ := Option.isSome_iff_exists.1 (hg j hjk)
  refine ⟨p.1, p.2, ?_, (h.out j hjk p hp).1.row8⟩
  rw [Nat.zero_add, rowF_len]
  have := cellAt h.outs j _ (slO_at hjk)
  rwa [svO, hp] at this
end Go.Proofs.YtoalbopcapgojabDoor
