/- What Meaning of package prog answers of programs in form. -/
import Derived.Test.YtbjjmlebpohmcaaDoorStepE
import Derived.Test.YtbjjmlebpohmcaaDoorStepG
import Derived.Test.YtbjjmlebpohmcaaDoorMatO
import Derived.Deep.DeepCutAuto
namespace Go.Proofs.YtbjjmlebpohmcaaDoor
open Go.RowKit Gf
set_option linter.unusedVariables false
set_option maxRecDepth 20000
set_option linter.unusedSimpArgs false
/-- outputs, from the first step on, as registers of unit columns -/
def meanR (ss : List Stp) (d : Int) : Nat → F := runO unX ss (fun _ _ => 0) (fun _ _ => 0) d
def meanRows (n no : Nat) (ss : List Stp) : List (List F) := (List.range no).map fun (d : Nat) => rowF n (meanR ss (d : Int))
def meanL (n no : Nat) (ss : List Stp) : List F := (meanRows n no ss).flatten
theorem meanRows_len (n no : Nat) (ss : List Stp) : (meanRows n no ss).length = no := by simp [meanRows]
theorem meanL_len (n no : Nat) (ss : List Stp) : (meanL n no ss).length = no * n := by
  rw [meanL, flat_len (c := n) (fun xs h => by obtain ⟨d, _, rfl⟩ := List.mem_map.1 h; exact rowF_len _ _), meanRows_len]
theorem run_makeN (n c : Nat) (hn : n ≤ 64) (w : World) :
    (Instr.makeSlice 58 (.int .i64 (n : Int)) (.int .i64 (n : Int))).run Tryd.prog w = .ok (.slice (some ⟨w.heap.size, 0, none⟩) n n) (w.alloc (.cells (slO n c (fun _ => none)) 31)) := by
  obtain ⟨i, hi, h1, h2, h3⟩ := infoS
  have := run_make (P := Tryd.prog) w 58 31 i _ Tryd.underlying58 hi h3 .i64 .i64 n n (by omega) (by omega) (by rw [h2]; omega) (by omega)
  have e : madeCells (Value.slice none 0 0).cells n = slO n c (fun _ => none) := by
    apply Array.ext_getElem?
    intro i
    by_cases h : i < n <;> simp [madeCells, slO, svO, Value.cells, h, Nat.mod_one]
  rw [this, h1]
  simp only [Int.toNat_natCast, Nat.mul_one, e]
/-- what a step does, whichever it is -/
theorem does_F (B cb M Q n rg no : Nat) (f : Nat → Option Addr × Nat) (g : Nat → Option (Option Addr × Nat)) (R O : Regs) (s : Stp) (m : Nat) (w : World) (hn : n ≤ 64) (hrg : rg ≤ 64) (hno : no ≤ 64) (hBw : B ≤ w.heap.size) (h : CmbW B w cb M Q n rg no f g R O)
    (hok : OkS n no rg s) (hm : m = (if s.op = 1 then 52 else if s.op = 2 then 54 else if s.op = 3 then 56 else if s.op = 4 then 58 else 60)) :
    Calls Tryd.prog m #[.pointer (some ⟨cb, 0, none⟩), .agg #[.int .i64 s.op, .int .i64 s.dst, .int .i64 s.src, .int .u8 (s.c.toNat : Int)]] w fun e w' => e = .returned (.tuple #[]) ∧ (∃ f' g', CmbW B w' cb M Q n rg no f' g' (doR unX s R) (doO s R O) ∧ ∀ d, (g' d).isSome = ((g d).isSome || (s.op == 5 && s.dst == (d : Int)))) ∧ Below B w w' := by
  obtain ⟨op, dst, src, c⟩ := s
  unfold OkS at hok
  simp only at hok hm ⊢
  rcases hok with ⟨rfl, h1, h2, h3⟩ | ⟨rfl, h1, h2, h3⟩ | ⟨rfl, h1, h2⟩ | ⟨rfl, h1, h2⟩ | ⟨rfl, h1, h2, h3⟩
  · obtain ⟨dst, rfl⟩ := Int.eq_ofNat_of_zero_le h1.1
    obtain ⟨src, rfl⟩ := Int.eq_ofNat_of_zero_le h2.1
    subst hm
    exact (does_load B cb M Q n rg no f g R O 1 dst src c.toNat (by omega) (by omega) w hn hrg hno hBw h).mono fun e w' ⟨a, ⟨f', g', k, hg⟩, b⟩ => ⟨a, ⟨f', g', k, fun d => by rw [hg]; simp⟩, b⟩
  · obtain ⟨dst, rfl⟩ := Int.eq_ofNat_of_zero_le h1.1
    subst hm
    exact (does_zero B cb M Q n rg no f g R O 2 dst src c.toNat (by omega) w hn hrg hno hBw h).mono fun e w' ⟨a, ⟨f', g', k, hg⟩, b⟩ => ⟨a, ⟨f', g', k, fun d => by rw [hg]; simp⟩, b⟩
  · obtain ⟨dst, rfl⟩ := Int.eq_ofNat_of_zero_le h1.1
    subst hm
    exact (does_mul B cb M Q n rg no f g R O 3 dst src c (by omega) w hn hrg hno hBw h).mono fun e w' ⟨a, ⟨f', g', k, hg⟩, b⟩ => ⟨a, ⟨f', g', k, fun d => by rw [hg]; simp⟩, b⟩
  · obtain ⟨dst, rfl⟩ := Int.eq_ofNat_of_zero_le h1.1
    obtain ⟨src, rfl⟩ := Int.eq_ofNat_of_zero_le h2.1
    subst hm
    exact (does_add B cb M Q n rg no f g R O 4 dst src c (by omega) (by omega) w hn hrg hno hBw h).mono fun e w' ⟨a, ⟨f', g', k, hg⟩, b⟩ => ⟨a, ⟨f', g', k, fun d => by rw [hg]; simp⟩, b⟩
  · obtain ⟨dst, rfl⟩ := Int.eq_ofNat_of_zero_le h1.1
    obtain ⟨src, rfl⟩ := Int.eq_ofNat_of_zero_le h2.1
    subst hm
    exact (does_out B cb M Q n rg no f g R O 5 dst src c.toNat (by omega) (by omega) w hn hrg hno hBw h).mono fun e w' ⟨a, ⟨f', g', k, hg⟩, b⟩ => ⟨a, ⟨f', g', k, fun d => by
      rw [hg]
      by_cases e : d = dst
      · subst e; simp
      · simp [e, show ¬ (dst : Int) = (d : Int) by omega]⟩, b⟩
/-- the machine while its registers are laid -/
structure IniW (B : Nat) (w : World) (cb M Q n rg no k : Nat) (g : Nat → Option (Option Addr × Nat)) : Prop where
  blk : w.heap[cb]? = some (.cells #[.int .i64 n, .slice (some ⟨M, 0, none⟩) rg rg, .slice (some ⟨Q, 0, none⟩) no no] 60 (0, 0))
  regs : w.heap[M]? = some (.cells (slO rg n g) 31 (0, 0))
  outs : w.heap[Q]? = some (.cells (slO no n (fun _ => none)) 31 (0, 0))
  row : ∀ x, x < k → ∃ p, g x = some p ∧ Row8T w p.1 (rowF n (fun _ => 0)) ∧ n ≤ p.2 ∧ (p.1 = none → p.2 = 0)
  hb : B ≤ cb
  hM : B ≤ M
  hQ : B ≤ Q
  hMQ : M ≠ Q
  hcM : cb ≠ M
  hcQ : cb ≠ Q
theorem IniW.below {B : Nat} {w w' : World} {cb M Q n rg no k : Nat} {g : Nat → Option (Option Addr × Nat)} (h : IniW B w cb M Q n rg no k g) (hb : Below w.heap.size w w') : IniW B w' cb M Q n rg no k g :=
  { h with blk := heap_later h.blk hb, regs := heap_later h.regs hb, outs := heap_later h.outs hb, row := fun x hx => by obtain ⟨p, h1, h2, h3⟩ := h.row x hx; exact ⟨p, h1, row8T_below h2 hb, h3⟩ }
theorem IniW.drew {B : Nat} {w : World} {cb M Q n rg no k : Nat} {g : Nat → Option (Option Addr × Nat)} (h : IniW B w cb M Q n rg no k g) : IniW B w.drew cb M Q n rg no k g :=
  { h with blk := h.blk, regs := h.regs, outs := h.outs, row := h.row }
theorem IniW.put {B : Nat} {w : World} {cb M Q n rg no k : Nat} {g : Nat → Option (Option Addr × Nat)} (h : IniW B w cb M Q n rg no k g) (hk : k < rg) {a : Option Addr} {m : Nat} (ha : Row8T w a (rowF n (fun _ => 0))) (hm : n ≤ m) (hn : a = none → m = 0) :
    IniW B (w.setCell ⟨M, k, none⟩ (.slice a n m)) cb M Q n rg no (k + 1) (fun x => if x = k then some (a, m) else g x) := by
  have hg : w.grownBy (w.setCell ⟨M, k, none⟩ (.slice a n m)) (some M) := grownBy_setCell (World.grownBy.refl _ _) _
  have hne : NoElems w (some M) := noElems_some h.regs (by decide)
  refine { h with blk := ?_, regs := ?_, outs := ?_, row := fun x hx => ?_ }
  · exact (heap_setCell_other _ _ _ _ h.hcM).trans h.blk
  · rw [heap_setCell_same _ _ _ _ _ _ h.regs, slO_set (a, m) hk]
  · exact (heap_setCell_other _ _ _ _ (fun e => h.hMQ e.symm)).trans h.outs
  · by_cases e : x = k
    · exact ⟨(a, m), by simp [e], row8T_grown ha hg hne, hm, hn⟩
    · obtain ⟨p, h1, h2, h3⟩ := h.row x (by omega)
      exact ⟨p, by simp [e, h1], row8T_grown h2 hg hne, h3⟩
theorem IniW.done {B : Nat} {w : World} {cb M Q n rg no : Nat} {g : Nat → Option (Option Addr × Nat)} (h : IniW B w cb M Q n rg no rg g) : CmbW B w cb M Q n rg no (fun x => (g x).getD (none, 0)) (fun _ => none) (fun _ _ => 0) (fun _ _ => 0) := by
  refine { h with blk := h.blk, regs := ⟨?_, fun x hx => ?_, fun x hx => ?_, fun x hx => ?_⟩, outs := h.outs, out := fun d hd p hp => by cases hp }
  · rw [h.regs]
    congr 2
    apply Array.ext_getElem?
    intro i
    by_cases hi : i < rg
    · obtain ⟨p, h1, _⟩ := h.row i hi
      rw [slO_at hi, slF_at hi, svO, h1]; rfl
    · rw [Array.getElem?_eq_none (by rw [slO_size]; omega), Array.getElem?_eq_none (by rw [slF_size]; omega)]
  · obtain ⟨p, h1, h2, h3⟩ := h.row x hx
    simp only [h1, Option.getD_some]; exact h2
  · obtain ⟨p, h1, h2, h3⟩ := h.row x hx
    simp only [h1, Option.getD_some]; exact h3.1
  · obtain ⟨p, h1, h2, h3⟩ := h.row x hx
    simp only [h1, Option.getD_some]; exact h3.2
theorem outs_rows8 {B : Nat} {w : World} {cb M Q n rg no : Nat} {f : Nat → Option Addr × Nat} {g : Nat → Option (Option Addr × Nat)} {R O : Regs} (h : CmbW B w cb M Q n rg no f g R O) (hg : ∀ d, d < no → (g d).isSome = true) : Rows8 w (some ⟨Q, 0, none⟩) ((List.range no).map fun (d : Nat) => rowF n (O (d : Int))) := by
  refine .inr ⟨Q, 0, rfl, fun j x hx => ?_⟩
  simp only [List.getElem?_map, Option.map_eq_some_iff] at hx
  obtain ⟨i, hi, rfl⟩ := hx
  obtain ⟨hjk, hi2⟩ := List.getElem?_eq_some_iff.1 hi
  simp only [List.length_range] at hjk
  simp only [List.getElem_range] at hi2
  subst hi2
  obtain ⟨p, hp⟩ := Option.isSome_iff_exists.1 (hg j hjk)
  refine ⟨p.1, p.2, ?_, (h.out j hjk p hp).1.row8⟩
  rw [Nat.zero_add, rowF_len]
  have := cellAt h.outs j _ (slO_at hjk)
  rwa [svO, hp] at this
set_option maxRecDepth 100000 in
set_option maxHeartbeats 16000000 in
theorem meaning_ok (ia oa sa : Option Addr) (il ic ol oc sl sc rg : Nat) (ins outs : List Int) (ss : List Stp) (w : World) (s : Addr) (hP : PrgW w ia oa sa il ic ol oc sl sc ins outs ss) (hs : w.cell? ⟨0, 0, none⟩ = some (errAt s)) (hF : InF ins outs rg ss) :
    Calls Tryd.prog 10 #[.agg #[.slice ia il ic, .slice oa ol oc, .int .i64 rg, .slice sa sl sc]] w fun e w' => ∃ g m, e = .returned (.tuple #[.agg #[.int .i64 ol, .int .i64 il, .slice (some ⟨g, 0, none⟩) m m], .nilIface]) ∧ m = ol * il ∧ w.heap.size ≤ g ∧ w'.heap[g]? = some (.cells (vfs (meanL il ol ss)) 5 (0, 0)) ∧ Below w.heap.size w w' := by
  have hil32 : il ≤ 32 := by rw [hP.eil]; exact goodH_len hF.1
  have hol32 : ol ≤ 32 := by rw [hP.eol]; exact goodH_len hF.2.1
  have hrgn : rg ≤ 64 := by have := hF.2.2.1.2; omega
  have hsl9 : sl ≤ 4096 := by rw [hP.esl]; exact hF.2.2.2.1
  have hcsl := hP.csl
  have HP : Hid _ := hP
  have HF : Hid (InF ins outs rg ss) := hF
  have HIL : Hid (il = ins.length) := hP.eil
  have HOL : Hid (ol = outs.length) := hP.eol
  have HSL : Hid (sl = ss.length) := hP.esl
  have hb0 : Below w.heap.size w ((w.alloc (.cells #[.slice ia il ic, .slice oa ol oc, .int .i64 rg, .slice sa sl sc] 25)).alloc (.cells #[.int .i64 0, .int .i64 0, .slice none 0 0] 33)) := ((Below.refl _ w).alloc (Nat.le_refl _) _).alloc (by simp) _
  have HC : Hid _ := pcheck_ok ia oa sa il ic ol oc sl sc ins outs rg ss _ s (hP.below hb0) (cell_later hb0 hs) hF
  have hA0 := holds_new (holds_new (holds_nil w) #[.slice ia il ic, .slice oa ol oc, .int .i64 rg, .slice sa sl sc] 25) #[.int .i64 0, .int .i64 0, .slice none 0 0] 33
  simp only [World.size_alloc] at hA0
  have HA0 : Hid _ := hA0
  have HB0 : Hid _ := hb0
  clear hP hs hF hb0 hA0
  go_enter Tryd.func10, Tryd.ntmps10
  go_wp2_with fail
  refine Calls.mono HC.out ?_
  rintro e W ⟨rfl, hb1⟩
  have HW : Hid (Below w.heap.size w W) := HB0.out.trans (hb1.mono HB0.out.size)
  have HA : Hid _ := holds_later HA0.out hb1
  clear hb1 HA0 HB0 HC
  have P0 : Hid (∀ u, Below W.heap.size W u → u.cell? ⟨w.heap.size, 0, none⟩ = some (.slice ia il ic)) := fun u hu => cellAt (heap_later (holds_at HA.out 1 rfl) hu) 0 _ rfl
  have P1 : Hid (∀ u, Below W.heap.size W u → u.cell? ⟨w.heap.size, 1, none⟩ = some (.slice oa ol oc)) := fun u hu => cellAt (heap_later (holds_at HA.out 1 rfl) hu) 1 _ rfl
  have P2 : Hid (∀ u, Below W.heap.size W u → u.cell? ⟨w.heap.size, 2, none⟩ = some (.int .i64 rg)) := fun u hu => cellAt (heap_later (holds_at HA.out 1 rfl) hu) 2 _ rfl
  go_upto_region 4 with fail
  go_cut [5] (fun v wx => ∃ cb M Q, v = .pointer (some ⟨cb, 0, none⟩) ∧ Below W.heap.size W wx ∧ wx.heap[cb]? = some (.cells #[.int .i64 il, .slice (some ⟨M, 0, none⟩) rg rg, .slice (some ⟨Q, 0, none⟩) ol ol] 60 (0, 0)) ∧
    wx.heap[M]? = some (.cells (slO rg il (fun _ => none)) 31 (0, 0)) ∧ wx.heap[Q]? = some (.cells (slO ol il (fun _ => none)) 31 (0, 0)) ∧ W.heap.size ≤ cb ∧ W.heap.size ≤ M ∧ W.heap.size ≤ Q ∧ M ≠ Q ∧ cb ≠ M ∧ cb ≠ Q)
  case first =>
    have hS0 : Below W.heap.size W W.drew := Below.drew (Below.refl _ W)
    refine wp_region_noPanic ?_
    refine wp_region_held_drew (S := fun u => Below W.heap.size W u) (by kernel_rfl) ?_ (fun hHeld => ?_)
    · exact hS0
    refine wpAnyH_take (i := 0) (oi := { dst := some 17, op := Op.fieldAddr 25 (Operand.tmp 1) 0, type := 0, pos := "prog.go:162", after := #[], guard := none }) (v := ?_) rfl (by kernel_rfl) (by kernel_rfl) (by kernel_rfl) (fun _ _ _ h => h) (Or.inl ⟨by rfl, ?_⟩) hHeld ?_
    rotate_left
    · intro u hSw
      go_simp
      try with_reducible rfl
    try simp only [Act.put, List.setIfInBounds_toArray, List.set_cons_zero, List.set_cons_succ]
    refine wpAnyH_take (i := 1) (oi := { dst := some 18, op := Op.load 22 (Operand.tmp 17), type := 22, pos := "prog.go:162", after := #[{ on := 0, ground := Ground.data }], guard := none }) (v := ?_) rfl (by kernel_rfl) (by kernel_rfl) (by kernel_rfl) (fun _ _ _ h => h) (Or.inl ⟨by rfl, ?_⟩) hHeld ?_
    rotate_left
    · intro u hSw
      have k9 := P0.out u hSw
      go_simp
      try with_reducible rfl
    try simp only [Act.put, List.setIfInBounds_toArray, List.set_cons_zero, List.set_cons_succ]
    refine wpAnyH_take (i := 2) (oi := { dst := some 19, op := Op.call { callee := Callee.builtin Builtin.len, args := #[Operand.tmp 18], argTypes := #[22] }, type := 3, pos := "prog.go:162", after := #[{ on := 1, ground := Ground.data }], guard := none }) (v := ?_) rfl (by kernel_rfl) (by kernel_rfl) (by kernel_rfl) (fun _ _ _ h => h) (Or.inl ⟨by rfl, ?_⟩) hHeld ?_
    rotate_left
    · intro u hSw
      go_simp
      try with_reducible rfl
    try simp only [Act.put, List.setIfInBounds_toArray, List.set_cons_zero, List.set_cons_succ]
    refine wpAnyH_take (i := 3) (oi := { dst := some 20, op := Op.fieldAddr 25 (Operand.tmp 1) 2, type := 0, pos := "prog.go:162", after := #[], guard := none }) (v := ?_) rfl (by kernel_rfl) (by kernel_rfl) (by kernel_rfl) (fun _ _ _ h => h) (Or.inl ⟨by rfl, ?_⟩) hHeld ?_
    rotate_left
    · intro u hSw
      go_simp
      try with_reducible rfl
    try simp only [Act.put, List.setIfInBounds_toArray, List.set_cons_zero, List.set_cons_succ]
    refine wpAnyH_take (i := 4) (oi := { dst := some 21, op := Op.load 3 (Operand.tmp 20), type := 3, pos := "prog.go:162", after := #[{ on := 3, ground := Ground.data }], guard := none }) (v := ?_) rfl (by kernel_rfl) (by kernel_rfl) (by kernel_rfl) (fun _ _ _ h => h) (Or.inl ⟨by rfl, ?_⟩) hHeld ?_
    rotate_left
    · intro u hSw
      have k9 := P2.out u hSw
      go_simp
      try with_reducible rfl
    try simp only [Act.put, List.setIfInBounds_toArray, List.set_cons_zero, List.set_cons_succ]
    refine wpAnyH_take (i := 6) (oi := { dst := some 23, op := Op.fieldAddr 25 (Operand.tmp 1) 1, type := 0, pos := "prog.go:162", after := #[], guard := none }) (v := ?_) rfl (by kernel_rfl) (by kernel_rfl) (by kernel_rfl) (fun _ _ _ h => h) (Or.inl ⟨by rfl, ?_⟩) hHeld ?_
    rotate_left
    · intro u hSw
      go_simp
      try with_reducible rfl
    try simp only [Act.put, List.setIfInBounds_toArray, List.set_cons_zero, List.set_cons_succ]
    refine wpAnyH_take (i := 7) (oi := { dst := some 24, op := Op.load 22 (Operand.tmp 23), type := 22, pos := "prog.go:162", after := #[{ on := 6, ground := Ground.data }], guard := none }) (v := ?_) rfl (by kernel_rfl) (by kernel_rfl) (by kernel_rfl) (fun _ _ _ h => h) (Or.inl ⟨by rfl, ?_⟩) hHeld ?_
    rotate_left
    · intro u hSw
      have k9 := P1.out u hSw
      go_simp
      try with_reducible rfl
    try simp only [Act.put, List.setIfInBounds_toArray, List.set_cons_zero, List.set_cons_succ]
    refine wpAnyH_take (i := 8) (oi := { dst := some 25, op := Op.call { callee := Callee.builtin Builtin.len, args := #[Operand.tmp 24], argTypes := #[22] }, type := 3, pos := "prog.go:162", after := #[{ on := 7, ground := Ground.data }], guard := none }) (v := ?_) rfl (by kernel_rfl) (by kernel_rfl) (by kernel_rfl) (fun _ _ _ h => h) (Or.inl ⟨by rfl, ?_⟩) hHeld ?_
    rotate_left
    · intro u hSw
      go_simp
      try with_reducible rfl
    try simp only [Act.put, List.setIfInBounds_toArray, List.set_cons_zero, List.set_cons_succ]
    refine wpAnyH_ready (rs := [5, 9, 11]) (by kernel_rfl) (by simp) ?_
    refine (AllReadyH.cons (o := { dst := some 22, op := Op.makeSlice 58 (Operand.tmp 21) (Operand.tmp 21), type := 58, pos := "prog.go:162", after := #[{ on := 4, ground := Ground.data }, { on := 4, ground := Ground.data }], guard := none }) rfl (fun K hK => ?_) (AllReadyH.cons (o := { dst := some 26, op := Op.makeSlice 58 (Operand.tmp 25) (Operand.tmp 25), type := 58, pos := "prog.go:162", after := #[{ on := 8, ground := Ground.data }, { on := 8, ground := Ground.data }], guard := none }) rfl (fun K hK => ?_) (AllReadyH.cons (o := { dst := some 5, op := Op.alloc 60, type := 0, pos := "prog.go:162", after := #[], guard := none }) rfl (fun K hK => ?_) AllReadyH.nil)))
    · have hS1 : Below W.heap.size W ((W.alloc (.cells (slO rg il (fun _ => none)) 31)).drew) := ((hS0).alloc (by simp <;> omega) _)
      have mkM := run_makeN rg il hrgn (W.drew)
      go_simp
      refine hK.out _ _ ?_ (fun hHeld => ?_)
      · exact hS1
      clear hK K
      try simp only [Act.put, List.setIfInBounds_toArray, List.set_cons_zero, List.set_cons_succ]
      refine wpAnyH_ready (rs := [9, 11]) (by kernel_rfl) (by simp) ?_
      refine (AllReadyH.cons (o := { dst := some 26, op := Op.makeSlice 58 (Operand.tmp 25) (Operand.tmp 25), type := 58, pos := "prog.go:162", after := #[{ on := 8, ground := Ground.data }, { on := 8, ground := Ground.data }], guard := none }) rfl (fun K hK => ?_) (AllReadyH.cons (o := { dst := some 5, op := Op.alloc 60, type := 0, pos := "prog.go:162", after := #[], guard := none }) rfl (fun K hK => ?_) AllReadyH.nil))
      · have hS2 : Below W.heap.size W (((W.alloc (.cells (slO rg il (fun _ => none)) 31)).alloc (.cells (slO ol il (fun _ => none)) 31)).drew) := ((hS1).alloc (by simp <;> omega) _)
        have mkQ := run_makeN ol il (by omega) ((W.alloc (.cells (slO rg il (fun _ => none)) 31)).drew)
        go_simp
        refine hK.out _ _ ?_ (fun hHeld => ?_)
        · exact hS2
        clear hK K
        try simp only [Act.put, List.setIfInBounds_toArray, List.set_cons_zero, List.set_cons_succ]
        refine wpAnyH_take (i := 10) (oi := { dst := some 27, op := Op.build 60 #[(0, Operand.tmp 19), (1, Operand.tmp 22), (2, Operand.tmp 26)], type := 60, pos := "prog.go:162", after := #[{ on := 2, ground := Ground.data }, { on := 5, ground := Ground.data }, { on := 9, ground := Ground.data }], guard := none }) (v := ?_) rfl (by kernel_rfl) (by kernel_rfl) (by kernel_rfl) (fun _ _ _ h => h) (Or.inl ⟨by rfl, ?_⟩) hHeld ?_
        rotate_left
        · intro u hSw
          go_simp
          try with_reducible rfl
        try simp only [Act.put, List.setIfInBounds_toArray, List.set_cons_zero, List.set_cons_succ]
        refine wpAnyH_ready (rs := [11]) (by kernel_rfl) (by simp) ?_
        refine (AllReadyH.cons (o := { dst := some 5, op := Op.alloc 60, type := 0, pos := "prog.go:162", after := #[], guard := none }) rfl (fun K hK => ?_) AllReadyH.nil)
        have hS3 : Below W.heap.size W ((((W.alloc (.cells (slO rg il (fun _ => none)) 31)).alloc (.cells (slO ol il (fun _ => none)) 31)).alloc (.cells #[.int .i64 0, .slice none 0 0, .slice none 0 0] 60)).drew) := ((hS2).alloc (by simp <;> omega) _)
        go_simp
        refine hK.out _ _ ?_ (fun hHeld => ?_)
        · exact hS3
        clear hK K
        try simp only [Act.put, List.setIfInBounds_toArray, List.set_cons_zero, List.set_cons_succ]
        refine wpAnyH_ready (rs := [12]) (by kernel_rfl) (by simp) ?_
        refine (AllReadyH.cons (o := { dst := none, op := Op.store 60 (Operand.tmp 5) (Operand.tmp 27), type := 0, pos := "prog.go:162", after := #[{ on := 11, ground := Ground.data }, { on := 10, ground := Ground.data }, { on := 0, ground := Ground.phase }, { on := 1, ground := Ground.phase }, { on := 2, ground := Ground.phase }, { on := 3, ground := Ground.phase }, { on := 4, ground := Ground.phase }, { on := 5, ground := Ground.phase }, { on := 6, ground := Ground.phase }, { on := 7, ground := Ground.phase }, { on := 8, ground := Ground.phase }, { on := 9, ground := Ground.phase }, { on := 10, ground := Ground.phase }, { on := 11, ground := Ground.phase }], guard := none }) rfl (fun K hK => ?_) AllReadyH.nil)
        go_simp
        refine hK.out _ _ ?_ (fun hHeld => ?_)
        · exact ((((Below.refl W.heap.size W).alloc (by simp <;> omega) _).alloc (by simp <;> omega) _).alloc (by simp <;> omega) _).drew
        clear hK K
        try simp only [Act.put, List.setIfInBounds_toArray, List.set_cons_zero, List.set_cons_succ]
        refine wpAnyH_done (by kernel_rfl) ?_ _
        refine NoPanic.normal ?_
        go_wp2
        go_meet
        have hA : Holds (((W.alloc (.cells (slO rg il (fun _ => none)) 31)).alloc (.cells (slO ol il (fun _ => none)) 31)).alloc (.cells #[.int .i64 il, .slice (some ⟨W.heap.size, 0, none⟩) rg rg, .slice (some ⟨W.heap.size + 1, 0, none⟩) ol ol] 60)) [(W.heap.size + 1 + 1, .cells #[.int .i64 il, .slice (some ⟨W.heap.size, 0, none⟩) rg rg, .slice (some ⟨W.heap.size + 1, 0, none⟩) ol ol] 60 (0, 0)), (W.heap.size + 1, .cells (slO ol il (fun _ => none)) 31 (0, 0)), (W.heap.size, .cells (slO rg il (fun _ => none)) 31 (0, 0))] := by
          have h := holds_new (holds_new (holds_new (holds_nil W) (slO rg il (fun _ => none)) 31) (slO ol il (fun _ => none)) 31) #[.int .i64 il, .slice (some ⟨W.heap.size, 0, none⟩) rg rg, .slice (some ⟨W.heap.size + 1, 0, none⟩) ol ol] 60
          simp only [World.size_alloc] at h
          exact h
        exact ⟨W.heap.size + 1 + 1, W.heap.size, W.heap.size + 1, rfl, ((((Below.refl W.heap.size W).alloc (by simp <;> omega) _).alloc (by simp <;> omega) _).alloc (by simp <;> omega) _).drew, holds_at hA 0 rfl, holds_at hA 2 rfl, holds_at hA 1 rfl, by omega, by omega, by omega, by omega, by omega, by omega⟩
      · have hS2 : Below W.heap.size W (((W.alloc (.cells (slO rg il (fun _ => none)) 31)).alloc (.cells #[.int .i64 0, .slice none 0 0, .slice none 0 0] 60)).drew) := ((hS1).alloc (by simp <;> omega) _)
        go_simp
        refine hK.out _ _ ?_ (fun hHeld => ?_)
        · exact hS2
        clear hK K
        try simp only [Act.put, List.setIfInBounds_toArray, List.set_cons_zero, List.set_cons_succ]
        refine wpAnyH_ready (rs := [9]) (by kernel_rfl) (by simp) ?_
        refine (AllReadyH.cons (o := { dst := some 26, op := Op.makeSlice 58 (Operand.tmp 25) (Operand.tmp 25), type := 58, pos := "prog.go:162", after := #[{ on := 8, ground := Ground.data }, { on := 8, ground := Ground.data }], guard := none }) rfl (fun K hK => ?_) AllReadyH.nil)
        have hS3 : Below W.heap.size W ((((W.alloc (.cells (slO rg il (fun _ => none)) 31)).alloc (.cells #[.int .i64 0, .slice none 0 0, .slice none 0 0] 60)).alloc (.cells (slO ol il (fun _ => none)) 31)).drew) := ((hS2).alloc (by simp <;> omega) _)
        have mkQ := run_makeN ol il (by omega) (((W.alloc (.cells (slO rg il (fun _ => none)) 31)).alloc (.cells #[.int .i64 0, .slice none 0 0, .slice none 0 0] 60)).drew)
        go_simp
        refine hK.out _ _ ?_ (fun hHeld => ?_)
        · exact hS3
        clear hK K
        try simp only [Act.put, List.setIfInBounds_toArray, List.set_cons_zero, List.set_cons_succ]
        refine wpAnyH_take (i := 10) (oi := { dst := some 27, op := Op.build 60 #[(0, Operand.tmp 19), (1, Operand.tmp 22), (2, Operand.tmp 26)], type := 60, pos := "prog.go:162", after := #[{ on := 2, ground := Ground.data }, { on := 5, ground := Ground.data }, { on := 9, ground := Ground.data }], guard := none }) (v := ?_) rfl (by kernel_rfl) (by kernel_rfl) (by kernel_rfl) (fun _ _ _ h => h) (Or.inl ⟨by rfl, ?_⟩) hHeld ?_
        rotate_left
        · intro u hSw
          go_simp
          try with_reducible rfl
        try simp only [Act.put, List.setIfInBounds_toArray, List.set_cons_zero, List.set_cons_succ]
        refine wpAnyH_ready (rs := [12]) (by kernel_rfl) (by simp) ?_
        refine (AllReadyH.cons (o := { dst := none, op := Op.store 60 (Operand.tmp 5) (Operand.tmp 27), type := 0, pos := "prog.go:162", after := #[{ on := 11, ground := Ground.data }, { on := 10, ground := Ground.data }, { on := 0, ground := Ground.phase }, { on := 1, ground := Ground.phase }, { on := 2, ground := Ground.phase }, { on := 3, ground := Ground.phase }, { on := 4, ground := Ground.phase }, { on := 5, ground := Ground.phase }, { on := 6, ground := Ground.phase }, { on := 7, ground := Ground.phase }, { on := 8, ground := Ground.phase }, { on := 9, ground := Ground.phase }, { on := 10, ground := Ground.phase }, { on := 11, ground := Ground.phase }], guard := none }) rfl (fun K hK => ?_) AllReadyH.nil)
        go_simp
        refine hK.out _ _ ?_ (fun hHeld => ?_)
        · exact ((((Below.refl W.heap.size W).alloc (by simp <;> omega) _).alloc (by simp <;> omega) _).alloc (by simp <;> omega) _).drew
        clear hK K
        try simp only [Act.put, List.setIfInBounds_toArray, List.set_cons_zero, List.set_cons_succ]
        refine wpAnyH_done (by kernel_rfl) ?_ _
        refine NoPanic.normal ?_
        go_wp2
        go_meet
        have hA : Holds (((W.alloc (.cells (slO rg il (fun _ => none)) 31)).alloc (.cells #[.int .i64 il, .slice (some ⟨W.heap.size, 0, none⟩) rg rg, .slice (some ⟨W.heap.size + 1 + 1, 0, none⟩) ol ol] 60)).alloc (.cells (slO ol il (fun _ => none)) 31)) [(W.heap.size + 1 + 1, .cells (slO ol il (fun _ => none)) 31 (0, 0)), (W.heap.size + 1, .cells #[.int .i64 il, .slice (some ⟨W.heap.size, 0, none⟩) rg rg, .slice (some ⟨W.heap.size + 1 + 1, 0, none⟩) ol ol] 60 (0, 0)), (W.heap.size, .cells (slO rg il (fun _ => none)) 31 (0, 0))] := by
          have h := holds_new (holds_new (holds_new (holds_nil W) (slO rg il (fun _ => none)) 31) #[.int .i64 il, .slice (some ⟨W.heap.size, 0, none⟩) rg rg, .slice (some ⟨W.heap.size + 1 + 1, 0, none⟩) ol ol] 60) (slO ol il (fun _ => none)) 31
          simp only [World.size_alloc] at h
          exact h
        exact ⟨W.heap.size + 1, W.heap.size, W.heap.size + 1 + 1, rfl, ((((Below.refl W.heap.size W).alloc (by simp <;> omega) _).alloc (by simp <;> omega) _).alloc (by simp <;> omega) _).drew, holds_at hA 1 rfl, holds_at hA 2 rfl, holds_at hA 0 rfl, by omega, by omega, by omega, by omega, by omega, by omega⟩
    · have hS1 : Below W.heap.size W ((W.alloc (.cells (slO ol il (fun _ => none)) 31)).drew) := ((hS0).alloc (by simp <;> omega) _)
      have mkQ := run_makeN ol il (by omega) (W.drew)
      go_simp
      refine hK.out _ _ ?_ (fun hHeld => ?_)
      · exact hS1
      clear hK K
      try simp only [Act.put, List.setIfInBounds_toArray, List.set_cons_zero, List.set_cons_succ]
      refine wpAnyH_ready (rs := [5, 11]) (by kernel_rfl) (by simp) ?_
      refine (AllReadyH.cons (o := { dst := some 22, op := Op.makeSlice 58 (Operand.tmp 21) (Operand.tmp 21), type := 58, pos := "prog.go:162", after := #[{ on := 4, ground := Ground.data }, { on := 4, ground := Ground.data }], guard := none }) rfl (fun K hK => ?_) (AllReadyH.cons (o := { dst := some 5, op := Op.alloc 60, type := 0, pos := "prog.go:162", after := #[], guard := none }) rfl (fun K hK => ?_) AllReadyH.nil))
      · have hS2 : Below W.heap.size W (((W.alloc (.cells (slO ol il (fun _ => none)) 31)).alloc (.cells (slO rg il (fun _ => none)) 31)).drew) := ((hS1).alloc (by simp <;> omega) _)
        have mkM := run_makeN rg il hrgn ((W.alloc (.cells (slO ol il (fun _ => none)) 31)).drew)
        go_simp
        refine hK.out _ _ ?_ (fun hHeld => ?_)
        · exact hS2
        clear hK K
        try simp only [Act.put, List.setIfInBounds_toArray, List.set_cons_zero, List.set_cons_succ]
        refine wpAnyH_take (i := 10) (oi := { dst := some 27, op := Op.build 60 #[(0, Operand.tmp 19), (1, Operand.tmp 22), (2, Operand.tmp 26)], type := 60, pos := "prog.go:162", after := #[{ on := 2, ground := Ground.data }, { on := 5, ground := Ground.data }, { on := 9, ground := Ground.data }], guard := none }) (v := ?_) rfl (by kernel_rfl) (by kernel_rfl) (by kernel_rfl) (fun _ _ _ h => h) (Or.inl ⟨by rfl, ?_⟩) hHeld ?_
        rotate_left
        · intro u hSw
          go_simp
          try with_reducible rfl
        try simp only [Act.put, List.setIfInBounds_toArray, List.set_cons_zero, List.set_cons_succ]
        refine wpAnyH_ready (rs := [11]) (by kernel_rfl) (by simp) ?_
        refine (AllReadyH.cons (o := { dst := some 5, op := Op.alloc 60, type := 0, pos := "prog.go:162", after := #[], guard := none }) rfl (fun K hK => ?_) AllReadyH.nil)
        have hS3 : Below W.heap.size W ((((W.alloc (.cells (slO ol il (fun _ => none)) 31)).alloc (.cells (slO rg il (fun _ => none)) 31)).alloc (.cells #[.int .i64 0, .slice none 0 0, .slice none 0 0] 60)).drew) := ((hS2).alloc (by simp <;> omega) _)
        go_simp
        refine hK.out _ _ ?_ (fun hHeld => ?_)
        · exact hS3
        clear hK K
        try simp only [Act.put, List.setIfInBounds_toArray, List.set_cons_zero, List.set_cons_succ]
        refine wpAnyH_ready (rs := [12]) (by kernel_rfl) (by simp) ?_
        refine (AllReadyH.cons (o := { dst := none, op := Op.store 60 (Operand.tmp 5) (Operand.tmp 27), type := 0, pos := "prog.go:162", after := #[{ on := 11, ground := Ground.data }, { on := 10, ground := Ground.data }, { on := 0, ground := Ground.phase }, { on := 1, ground := Ground.phase }, { on := 2, ground := Ground.phase }, { on := 3, ground := Ground.phase }, { on := 4, ground := Ground.phase }, { on := 5, ground := Ground.phase }, { on := 6, ground := Ground.phase }, { on := 7, ground := Ground.phase }, { on := 8, ground := Ground.phase }, { on := 9, ground := Ground.phase }, { on := 10, ground := Ground.phase }, { on := 11, ground := Ground.phase }], guard := none }) rfl (fun K hK => ?_) AllReadyH.nil)
        go_simp
        refine hK.out _ _ ?_ (fun hHeld => ?_)
        · exact ((((Below.refl W.heap.size W).alloc (by simp <;> omega) _).alloc (by simp <;> omega) _).alloc (by simp <;> omega) _).drew
        clear hK K
        try simp only [Act.put, List.setIfInBounds_toArray, List.set_cons_zero, List.set_cons_succ]
        refine wpAnyH_done (by kernel_rfl) ?_ _
        refine NoPanic.normal ?_
        go_wp2
        go_meet
        have hA : Holds (((W.alloc (.cells (slO ol il (fun _ => none)) 31)).alloc (.cells (slO rg il (fun _ => none)) 31)).alloc (.cells #[.int .i64 il, .slice (some ⟨W.heap.size + 1, 0, none⟩) rg rg, .slice (some ⟨W.heap.size, 0, none⟩) ol ol] 60)) [(W.heap.size + 1 + 1, .cells #[.int .i64 il, .slice (some ⟨W.heap.size + 1, 0, none⟩) rg rg, .slice (some ⟨W.heap.size, 0, none⟩) ol ol] 60 (0, 0)), (W.heap.size + 1, .cells (slO rg il (fun _ => none)) 31 (0, 0)), (W.heap.size, .cells (slO ol il (fun _ => none)) 31 (0, 0))] := by
          have h := holds_new (holds_new (holds_new (holds_nil W) (slO ol il (fun _ => none)) 31) (slO rg il (fun _ => none)) 31) #[.int .i64 il, .slice (some ⟨W.heap.size + 1, 0, none⟩) rg rg, .slice (some ⟨W.heap.size, 0, none⟩) ol ol] 60
          simp only [World.size_alloc] at h
          exact h
        exact ⟨W.heap.size + 1 + 1, W.heap.size + 1, W.heap.size, rfl, ((((Below.refl W.heap.size W).alloc (by simp <;> omega) _).alloc (by simp <;> omega) _).alloc (by simp <;> omega) _).drew, holds_at hA 0 rfl, holds_at hA 1 rfl, holds_at hA 2 rfl, by omega, by omega, by omega, by omega, by omega, by omega⟩
      · have hS2 : Below W.heap.size W (((W.alloc (.cells (slO ol il (fun _ => none)) 31)).alloc (.cells #[.int .i64 0, .slice none 0 0, .slice none 0 0] 60)).drew) := ((hS1).alloc (by simp <;> omega) _)
        go_simp
        refine hK.out _ _ ?_ (fun hHeld => ?_)
        · exact hS2
        clear hK K
        try simp only [Act.put, List.setIfInBounds_toArray, List.set_cons_zero, List.set_cons_succ]
        refine wpAnyH_ready (rs := [5]) (by kernel_rfl) (by simp) ?_
        refine (AllReadyH.cons (o := { dst := some 22, op := Op.makeSlice 58 (Operand.tmp 21) (Operand.tmp 21), type := 58, pos := "prog.go:162", after := #[{ on := 4, ground := Ground.data }, { on := 4, ground := Ground.data }], guard := none }) rfl (fun K hK => ?_) AllReadyH.nil)
        have hS3 : Below W.heap.size W ((((W.alloc (.cells (slO ol il (fun _ => none)) 31)).alloc (.cells #[.int .i64 0, .slice none 0 0, .slice none 0 0] 60)).alloc (.cells (slO rg il (fun _ => none)) 31)).drew) := ((hS2).alloc (by simp <;> omega) _)
        have mkM := run_makeN rg il hrgn (((W.alloc (.cells (slO ol il (fun _ => none)) 31)).alloc (.cells #[.int .i64 0, .slice none 0 0, .slice none 0 0] 60)).drew)
        go_simp
        refine hK.out _ _ ?_ (fun hHeld => ?_)
        · exact hS3
        clear hK K
        try simp only [Act.put, List.setIfInBounds_toArray, List.set_cons_zero, List.set_cons_succ]
        refine wpAnyH_take (i := 10) (oi := { dst := some 27, op := Op.build 60 #[(0, Operand.tmp 19), (1, Operand.tmp 22), (2, Operand.tmp 26)], type := 60, pos := "prog.go:162", after := #[{ on := 2, ground := Ground.data }, { on := 5, ground := Ground.data }, { on := 9, ground := Ground.data }], guard := none }) (v := ?_) rfl (by kernel_rfl) (by kernel_rfl) (by kernel_rfl) (fun _ _ _ h => h) (Or.inl ⟨by rfl, ?_⟩) hHeld ?_
        rotate_left
        · intro u hSw
          go_simp
          try with_reducible rfl
        try simp only [Act.put, List.setIfInBounds_toArray, List.set_cons_zero, List.set_cons_succ]
        refine wpAnyH_ready (rs := [12]) (by kernel_rfl) (by simp) ?_
        refine (AllReadyH.cons (o := { dst := none, op := Op.store 60 (Operand.tmp 5) (Operand.tmp 27), type := 0, pos := "prog.go:162", after := #[{ on := 11, ground := Ground.data }, { on := 10, ground := Ground.data }, { on := 0, ground := Ground.phase }, { on := 1, ground := Ground.phase }, { on := 2, ground := Ground.phase }, { on := 3, ground := Ground.phase }, { on := 4, ground := Ground.phase }, { on := 5, ground := Ground.phase }, { on := 6, ground := Ground.phase }, { on := 7, ground := Ground.phase }, { on := 8, ground := Ground.phase }, { on := 9, ground := Ground.phase }, { on := 10, ground := Ground.phase }, { on := 11, ground := Ground.phase }], guard := none }) rfl (fun K hK => ?_) AllReadyH.nil)
        go_simp
        refine hK.out _ _ ?_ (fun hHeld => ?_)
        · exact ((((Below.refl W.heap.size W).alloc (by simp <;> omega) _).alloc (by simp <;> omega) _).alloc (by simp <;> omega) _).drew
        clear hK K
        try simp only [Act.put, List.setIfInBounds_toArray, List.set_cons_zero, List.set_cons_succ]
        refine wpAnyH_done (by kernel_rfl) ?_ _
        refine NoPanic.normal ?_
        go_wp2
        go_meet
        have hA : Holds (((W.alloc (.cells (slO ol il (fun _ => none)) 31)).alloc (.cells #[.int .i64 il, .slice (some ⟨W.heap.size + 1 + 1, 0, none⟩) rg rg, .slice (some ⟨W.heap.size, 0, none⟩) ol ol] 60)).alloc (.cells (slO rg il (fun _ => none)) 31)) [(W.heap.size + 1 + 1, .cells (slO rg il (fun _ => none)) 31 (0, 0)), (W.heap.size + 1, .cells #[.int .i64 il, .slice (some ⟨W.heap.size + 1 + 1, 0, none⟩) rg rg, .slice (some ⟨W.heap.size, 0, none⟩) ol ol] 60 (0, 0)), (W.heap.size, .cells (slO ol il (fun _ => none)) 31 (0, 0))] := by
          have h := holds_new (holds_new (holds_new (holds_nil W) (slO ol il (fun _ => none)) 31) #[.int .i64 il, .slice (some ⟨W.heap.size + 1 + 1, 0, none⟩) rg rg, .slice (some ⟨W.heap.size, 0, none⟩) ol ol] 60) (slO rg il (fun _ => none)) 31
          simp only [World.size_alloc] at h
          exact h
        exact ⟨W.heap.size + 1, W.heap.size + 1 + 1, W.heap.size, rfl, ((((Below.refl W.heap.size W).alloc (by simp <;> omega) _).alloc (by simp <;> omega) _).alloc (by simp <;> omega) _).drew, holds_at hA 1 rfl, holds_at hA 0 rfl, holds_at hA 2 rfl, by omega, by omega, by omega, by omega, by omega, by omega⟩
    · have hS1 : Below W.heap.size W ((W.alloc (.cells #[.int .i64 0, .slice none 0 0, .slice none 0 0] 60)).drew) := ((hS0).alloc (by simp <;> omega) _)
      go_simp
      refine hK.out _ _ ?_ (fun hHeld => ?_)
      · exact hS1
      clear hK K
      try simp only [Act.put, List.setIfInBounds_toArray, List.set_cons_zero, List.set_cons_succ]
      refine wpAnyH_ready (rs := [5, 9]) (by kernel_rfl) (by simp) ?_
      refine (AllReadyH.cons (o := { dst := some 22, op := Op.makeSlice 58 (Operand.tmp 21) (Operand.tmp 21), type := 58, pos := "prog.go:162", after := #[{ on := 4, ground := Ground.data }, { on := 4, ground := Ground.data }], guard := none }) rfl (fun K hK => ?_) (AllReadyH.cons (o := { dst := some 26, op := Op.makeSlice 58 (Operand.tmp 25) (Operand.tmp 25), type := 58, pos := "prog.go:162", after := #[{ on := 8, ground := Ground.data }, { on := 8, ground := Ground.data }], guard := none }) rfl (fun K hK => ?_) AllReadyH.nil))
      · have hS2 : Below W.heap.size W (((W.alloc (.cells #[.int .i64 0, .slice none 0 0, .slice none 0 0] 60)).alloc (.cells (slO rg il (fun _ => none)) 31)).drew) := ((hS1).alloc (by simp <;> omega) _)
        have mkM := run_makeN rg il hrgn ((W.alloc (.cells #[.int .i64 0, .slice none 0 0, .slice none 0 0] 60)).drew)
        go_simp
        refine hK.out _ _ ?_ (fun hHeld => ?_)
        · exact hS2
        clear hK K
        try simp only [Act.put, List.setIfInBounds_toArray, List.set_cons_zero, List.set_cons_succ]
        refine wpAnyH_ready (rs := [9]) (by kernel_rfl) (by simp) ?_
        refine (AllReadyH.cons (o := { dst := some 26, op := Op.makeSlice 58 (Operand.tmp 25) (Operand.tmp 25), type := 58, pos := "prog.go:162", after := #[{ on := 8, ground := Ground.data }, { on := 8, ground := Ground.data }], guard := none }) rfl (fun K hK => ?_) AllReadyH.nil)
        have hS3 : Below W.heap.size W ((((W.alloc (.cells #[.int .i64 0, .slice none 0 0, .slice none 0 0] 60)).alloc (.cells (slO rg il (fun _ => none)) 31)).alloc (.cells (slO ol il (fun _ => none)) 31)).drew) := ((hS2).alloc (by simp <;> omega) _)
        have mkQ := run_makeN ol il (by omega) (((W.alloc (.cells #[.int .i64 0, .slice none 0 0, .slice none 0 0] 60)).alloc (.cells (slO rg il (fun _ => none)) 31)).drew)
        go_simp
        refine hK.out _ _ ?_ (fun hHeld => ?_)
        · exact hS3
        clear hK K
        try simp only [Act.put, List.setIfInBounds_toArray, List.set_cons_zero, List.set_cons_succ]
        refine wpAnyH_take (i := 10) (oi := { dst := some 27, op := Op.build 60 #[(0, Operand.tmp 19), (1, Operand.tmp 22), (2, Operand.tmp 26)], type := 60, pos := "prog.go:162", after := #[{ on := 2, ground := Ground.data }, { on := 5, ground := Ground.data }, { on := 9, ground := Ground.data }], guard := none }) (v := ?_) rfl (by kernel_rfl) (by kernel_rfl) (by kernel_rfl) (fun _ _ _ h => h) (Or.inl ⟨by rfl, ?_⟩) hHeld ?_
        rotate_left
        · intro u hSw
          go_simp
          try with_reducible rfl
        try simp only [Act.put, List.setIfInBounds_toArray, List.set_cons_zero, List.set_cons_succ]
        refine wpAnyH_ready (rs := [12]) (by kernel_rfl) (by simp) ?_
        refine (AllReadyH.cons (o := { dst := none, op := Op.store 60 (Operand.tmp 5) (Operand.tmp 27), type := 0, pos := "prog.go:162", after := #[{ on := 11, ground := Ground.data }, { on := 10, ground := Ground.data }, { on := 0, ground := Ground.phase }, { on := 1, ground := Ground.phase }, { on := 2, ground := Ground.phase }, { on := 3, ground := Ground.phase }, { on := 4, ground := Ground.phase }, { on := 5, ground := Ground.phase }, { on := 6, ground := Ground.phase }, { on := 7, ground := Ground.phase }, { on := 8, ground := Ground.phase }, { on := 9, ground := Ground.phase }, { on := 10, ground := Ground.phase }, { on := 11, ground := Ground.phase }], guard := none }) rfl (fun K hK => ?_) AllReadyH.nil)
        go_simp
        refine hK.out _ _ ?_ (fun hHeld => ?_)
        · exact ((((Below.refl W.heap.size W).alloc (by simp <;> omega) _).alloc (by simp <;> omega) _).alloc (by simp <;> omega) _).drew
        clear hK K
        try simp only [Act.put, List.setIfInBounds_toArray, List.set_cons_zero, List.set_cons_succ]
        refine wpAnyH_done (by kernel_rfl) ?_ _
        refine NoPanic.normal ?_
        go_wp2
        go_meet
        have hA : Holds (((W.alloc (.cells #[.int .i64 il, .slice (some ⟨W.heap.size + 1, 0, none⟩) rg rg, .slice (some ⟨W.heap.size + 1 + 1, 0, none⟩) ol ol] 60)).alloc (.cells (slO rg il (fun _ => none)) 31)).alloc (.cells (slO ol il (fun _ => none)) 31)) [(W.heap.size + 1 + 1, .cells (slO ol il (fun _ => none)) 31 (0, 0)), (W.heap.size + 1, .cells (slO rg il (fun _ => none)) 31 (0, 0)), (W.heap.size, .cells #[.int .i64 il, .slice (some ⟨W.heap.size + 1, 0, none⟩) rg rg, .slice (some ⟨W.heap.size + 1 + 1, 0, none⟩) ol ol] 60 (0, 0))] := by
          have h := holds_new (holds_new (holds_new (holds_nil W) #[.int .i64 il, .slice (some ⟨W.heap.size + 1, 0, none⟩) rg rg, .slice (some ⟨W.heap.size + 1 + 1, 0, none⟩) ol ol] 60) (slO rg il (fun _ => none)) 31) (slO ol il (fun _ => none)) 31
          simp only [World.size_alloc] at h
          exact h
        exact ⟨W.heap.size, W.heap.size + 1, W.heap.size + 1 + 1, rfl, ((((Below.refl W.heap.size W).alloc (by simp <;> omega) _).alloc (by simp <;> omega) _).alloc (by simp <;> omega) _).drew, holds_at hA 2 rfl, holds_at hA 1 rfl, holds_at hA 0 rfl, by omega, by omega, by omega, by omega, by omega, by omega⟩
      · have hS2 : Below W.heap.size W (((W.alloc (.cells #[.int .i64 0, .slice none 0 0, .slice none 0 0] 60)).alloc (.cells (slO ol il (fun _ => none)) 31)).drew) := ((hS1).alloc (by simp <;> omega) _)
        have mkQ := run_makeN ol il (by omega) ((W.alloc (.cells #[.int .i64 0, .slice none 0 0, .slice none 0 0] 60)).drew)
        go_simp
        refine hK.out _ _ ?_ (fun hHeld => ?_)
        · exact hS2
        clear hK K
        try simp only [Act.put, List.setIfInBounds_toArray, List.set_cons_zero, List.set_cons_succ]
        refine wpAnyH_ready (rs := [5]) (by kernel_rfl) (by simp) ?_
        refine (AllReadyH.cons (o := { dst := some 22, op := Op.makeSlice 58 (Operand.tmp 21) (Operand.tmp 21), type := 58, pos := "prog.go:162", after := #[{ on := 4, ground := Ground.data }, { on := 4, ground := Ground.data }], guard := none }) rfl (fun K hK => ?_) AllReadyH.nil)
        have hS3 : Below W.heap.size W ((((W.alloc (.cells #[.int .i64 0, .slice none 0 0, .slice none 0 0] 60)).alloc (.cells (slO ol il (fun _ => none)) 31)).alloc (.cells (slO rg il (fun _ => none)) 31)).drew) := ((hS2).alloc (by simp <;> omega) _)
        have mkM := run_makeN rg il hrgn (((W.alloc (.cells #[.int .i64 0, .slice none 0 0, .slice none 0 0] 60)).alloc (.cells (slO ol il (fun _ => none)) 31)).drew)
        go_simp
        refine hK.out _ _ ?_ (fun hHeld => ?_)
        · exact hS3
        clear hK K
        try simp only [Act.put, List.setIfInBounds_toArray, List.set_cons_zero, List.set_cons_succ]
        refine wpAnyH_take (i := 10) (oi := { dst := some 27, op := Op.build 60 #[(0, Operand.tmp 19), (1, Operand.tmp 22), (2, Operand.tmp 26)], type := 60, pos := "prog.go:162", after := #[{ on := 2, ground := Ground.data }, { on := 5, ground := Ground.data }, { on := 9, ground := Ground.data }], guard := none }) (v := ?_) rfl (by kernel_rfl) (by kernel_rfl) (by kernel_rfl) (fun _ _ _ h => h) (Or.inl ⟨by rfl, ?_⟩) hHeld ?_
        rotate_left
        · intro u hSw
          go_simp
          try with_reducible rfl
        try simp only [Act.put, List.setIfInBounds_toArray, List.set_cons_zero, List.set_cons_succ]
        refine wpAnyH_ready (rs := [12]) (by kernel_rfl) (by simp) ?_
        refine (AllReadyH.cons (o := { dst := none, op := Op.store 60 (Operand.tmp 5) (Operand.tmp 27), type := 0, pos := "prog.go:162", after := #[{ on := 11, ground := Ground.data }, { on := 10, ground := Ground.data }, { on := 0, ground := Ground.phase }, { on := 1, ground := Ground.phase }, { on := 2, ground := Ground.phase }, { on := 3, ground := Ground.phase }, { on := 4, ground := Ground.phase }, { on := 5, ground := Ground.phase }, { on := 6, ground := Ground.phase }, { on := 7, ground := Ground.phase }, { on := 8, ground := Ground.phase }, { on := 9, ground := Ground.phase }, { on := 10, ground := Ground.phase }, { on := 11, ground := Ground.phase }], guard := none }) rfl (fun K hK => ?_) AllReadyH.nil)
        go_simp
        refine hK.out _ _ ?_ (fun hHeld => ?_)
        · exact ((((Below.refl W.heap.size W).alloc (by simp <;> omega) _).alloc (by simp <;> omega) _).alloc (by simp <;> omega) _).drew
        clear hK K
        try simp only [Act.put, List.setIfInBounds_toArray, List.set_cons_zero, List.set_cons_succ]
        refine wpAnyH_done (by kernel_rfl) ?_ _
        refine NoPanic.normal ?_
        go_wp2
        go_meet
        have hA : Holds (((W.alloc (.cells #[.int .i64 il, .slice (some ⟨W.heap.size + 1 + 1, 0, none⟩) rg rg, .slice (some ⟨W.heap.size + 1, 0, none⟩) ol ol] 60)).alloc (.cells (slO ol il (fun _ => none)) 31)).alloc (.cells (slO rg il (fun _ => none)) 31)) [(W.heap.size + 1 + 1, .cells (slO rg il (fun _ => none)) 31 (0, 0)), (W.heap.size + 1, .cells (slO ol il (fun _ => none)) 31 (0, 0)), (W.heap.size, .cells #[.int .i64 il, .slice (some ⟨W.heap.size + 1 + 1, 0, none⟩) rg rg, .slice (some ⟨W.heap.size + 1, 0, none⟩) ol ol] 60 (0, 0))] := by
          have h := holds_new (holds_new (holds_new (holds_nil W) #[.int .i64 il, .slice (some ⟨W.heap.size + 1 + 1, 0, none⟩) rg rg, .slice (some ⟨W.heap.size + 1, 0, none⟩) ol ol] 60) (slO ol il (fun _ => none)) 31) (slO rg il (fun _ => none)) 31
          simp only [World.size_alloc] at h
          exact h
        exact ⟨W.heap.size, W.heap.size + 1 + 1, W.heap.size + 1, rfl, ((((Below.refl W.heap.size W).alloc (by simp <;> omega) _).alloc (by simp <;> omega) _).alloc (by simp <;> omega) _).drew, holds_at hA 2 rfl, holds_at hA 0 rfl, holds_at hA 1 rfl, by omega, by omega, by omega, by omega, by omega, by omega⟩

  case rest =>
  obtain ⟨cb, M, Q, rfl, hbc, hkc, hkM, hkQ, hl1, hl2, hl3, hn1, hn2, hn3⟩ := hcut
  have HI0 : Hid (IniW W.heap.size wc cb M Q il rg ol 0 (fun _ => none)) := ⟨hkc, hkM, hkQ, fun x hx => absurd hx (Nat.not_lt_zero _), hl1, hl2, hl3, hn1, hn2, hn3⟩
  have HBC : Hid (Below W.heap.size W wc) := hbc
  have c1 := cellAt hkc 1 _ rfl
  clear hbc hkc hkM hkQ hl1 hl2 hl3 hn1 hn2 hn3 P0 P1 P2
  go_wp2
  clear c1
  go_loopw [31] (fun i wr => ∃ (k : Nat) (g : Nat → Option (Option Addr × Nat)), k ≤ rg ∧ i = .int .i64 k ∧ Below W.heap.size W wr ∧ IniW W.heap.size wr cb M Q il rg ol k g) (fun i _ => rg - (intOf i).toNat)
  case atStart => exact ⟨0, _, Nat.zero_le _, rfl, HBC.out, HI0.out⟩
  case round =>
    obtain ⟨k, g, hk, rfl, hbr, hir⟩ := hrel
    have HBR : Hid (Below W.heap.size W wr) := hbr
    have HI : Hid _ := hir
    clear hbr hir
    by_cases hlt : k < rg
    · have HK1 : Hid (∀ u, wr.grownBy u (some M) → u.cell? ⟨cb, 1, none⟩ = some (.slice (some ⟨M, 0, none⟩) rg rg)) := fun u hu => cellAt ((hu.block cb (ltHeap HI.out.blk) (by simpa using HI.out.hcM)).trans HI.out.blk) 1 _ rfl
      go_wp2
      refine wp_region_noPanic ?_
      refine wp_region_held_drew (S := fun u => wr.grownBy u (some M)) (by kernel_rfl) ?_ (fun hHeld => ?_)
      · exact grownBy_drew (World.grownBy.refl _ _)
      refine wpAnyH_take (i := 0) (oi := { dst := some 34, op := Op.fieldAddr 60 (Operand.tmp 5) 1, type := 0, pos := "prog.go:164", after := #[], guard := none }) (v := ?_) rfl (by kernel_rfl) (by kernel_rfl) (by kernel_rfl) (fun _ _ _ h => h) (Or.inl ⟨by rfl, ?_⟩) hHeld ?_
      rotate_left
      · intro u hSw
        go_simp
        try with_reducible rfl
      try simp only [Act.put, List.setIfInBounds_toArray, List.set_cons_zero, List.set_cons_succ]
      refine wpAnyH_take (i := 1) (oi := { dst := some 35, op := Op.load 58 (Operand.tmp 34), type := 58, pos := "prog.go:164", after := #[{ on := 0, ground := Ground.data }], guard := none }) (v := ?_) rfl (by kernel_rfl) (by kernel_rfl) (by kernel_rfl) (fun _ _ _ h => h) (Or.inl ⟨by rfl, ?_⟩) hHeld ?_
      rotate_left
      · intro u hSw
        have k9 := HK1.out u hSw
        go_simp
        try with_reducible rfl
      try simp only [Act.put, List.setIfInBounds_toArray, List.set_cons_zero, List.set_cons_succ]
      refine wpAnyH_take (i := 2) (oi := { dst := some 36, op := Op.move (Operand.tmp 6), type := 3, pos := "prog.go:164", after := #[], guard := none }) (v := ?_) rfl (by kernel_rfl) (by kernel_rfl) (by kernel_rfl) (fun _ _ _ h => h) (Or.inl ⟨by rfl, ?_⟩) hHeld ?_
      rotate_left
      · intro u hSw
        go_simp
        try with_reducible rfl
      try simp only [Act.put, List.setIfInBounds_toArray, List.set_cons_zero, List.set_cons_succ]
      refine wpAnyH_ready (rs := [3]) (by kernel_rfl) (by simp) ?_
      refine (AllReadyH.cons (o := { dst := some 37, op := Op.call { callee := Callee.value (Operand.func 27), args := #[Operand.tmp 5], argTypes := #[60] }, type := 31, pos := "prog.go:164", after := #[], guard := none }) rfl (fun K hK => ?_) AllReadyH.nil)
      go_simp
      refine Calls.mono (nothing_F cb il _ (by omega) (cellAt HI.out.drew.blk 0 _ rfl)) ?_
      rintro e w6 ⟨rfl, hw6⟩
      have hb6 : Below wr.drew.heap.size wr.drew w6 := by rw [hw6]; exact (Below.refl _ _).alloc (Nat.le_refl _) _
      have hr6 : w6.heap[wr.heap.size]? = some (.cells (vfs (zeros il)) 5 (0, 0)) := by rw [hw6]; exact heap_alloc_last _ _
      have hI6 := HI.out.drew.below hb6
      have hS6 : wr.grownBy w6 (some M) := grown_below (grownBy_drew (World.grownBy.refl _ _)) hb6
      clear hw6
      go_wp2_with fail
      refine hK.out _ _ ?_ (fun hHeld => ?_)
      · exact hS6
      clear hK K
      try simp only [Act.put, List.setIfInBounds_toArray, List.set_cons_zero, List.set_cons_succ]
      refine wpAnyH_take (i := 4) (oi := { dst := some 38, op := Op.indexAddr 58 (Operand.tmp 35) (Operand.tmp 36), type := 0, pos := "prog.go:164", after := #[{ on := 1, ground := Ground.data }, { on := 2, ground := Ground.data }, { on := 0, ground := Ground.phase }, { on := 1, ground := Ground.phase }, { on := 2, ground := Ground.phase }, { on := 3, ground := Ground.phase }], guard := none }) (v := ?_) rfl (by kernel_rfl) (by kernel_rfl) (by kernel_rfl) (fun _ _ _ h => h) (Or.inl ⟨by rfl, ?_⟩) hHeld ?_
      rotate_left
      · intro u hSw
        go_simp
        try with_reducible rfl
      try simp only [Act.put, List.setIfInBounds_toArray, List.set_cons_zero, List.set_cons_succ]
      refine wpAnyH_ready (rs := [5]) (by kernel_rfl) (by simp) ?_
      refine (AllReadyH.cons (o := { dst := none, op := Op.store 31 (Operand.tmp 38) (Operand.tmp 37), type := 0, pos := "prog.go:164", after := #[{ on := 4, ground := Ground.data }, { on := 3, ground := Ground.data }, { on := 3, ground := Ground.chain }, { on := 0, ground := Ground.phase }, { on := 1, ground := Ground.phase }, { on := 2, ground := Ground.phase }, { on := 3, ground := Ground.phase }], guard := none }) rfl (fun K hK => ?_) AllReadyH.nil)
      have d8 : w6.frozen? ⟨M, k, none⟩ = false := frozen_of_row _ _ _ _ _ hI6.regs
      obtain ⟨d9, e9⟩ : ∃ d9, w6.cell? ⟨M, k, none⟩ = some d9 := ⟨_, cellAt hI6.regs k _ (slO_at hlt)⟩
      go_simp
      refine hK.out _ _ ?_ (fun hHeld => ?_)
      · exact grownBy_setCell hS6 _
      clear hK K
      try simp only [Act.put, List.setIfInBounds_toArray, List.set_cons_zero, List.set_cons_succ]
      refine wpAnyH_done (by kernel_rfl) ?_ _
      refine NoPanic.normal ?_

      have HP : Hid _ := hI6.put hlt (a := some ⟨wr.heap.size, 0, none⟩) (m := il) (by rw [← zeros_rowF]; exact row8T_own hr6) (Nat.le_refl _) (fun e => by cases e)
      have HPB : Hid _ := ((HBR.out.drew).trans (hb6.mono HBR.out.size)).setCell (p := ⟨M, k, none⟩) HI.out.hM (.slice (some ⟨wr.heap.size, 0, none⟩) il il)
      clear hI6 hr6 hb6 hS6 d8 e9 HK1
      go_wp2
      exact ⟨⟨k + 1, _, by omega, by go_num, HPB.out, HP.out⟩, by simp [intOf]; omega⟩
    · obtain rfl : k = rg := by omega
      have HCM0 : Hid _ := HI.out.done
      have hPA := heap_later (holds_at HA.out 1 rfl) HBR.out
      have p3 := cellAt hPA 3 _ rfl
      clear hPA
      go_wp2
      clear p3
      generalize wr = wq at *
      go_loopw [43] (fun i wr => ∃ (j : Nat) (f : Nat → Option Addr × Nat) (g : Nat → Option (Option Addr × Nat)), j ≤ sl ∧ i = .int .i64 j ∧ Below W.heap.size W wr ∧ CmbW W.heap.size wr cb M Q il k ol f g (runR unX (ss.take j) (fun _ _ => 0)) (runO unX (ss.take j) (fun _ _ => 0) (fun _ _ => 0)) ∧ ∀ d : Nat, (g d).isSome = decide (1 ≤ cntO (ss.take j) d)) (fun i _ => sl - (intOf i).toNat)
      case atStart => exact ⟨0, _, _, Nat.zero_le _, rfl, HBR.out, by rw [List.take_zero]; exact HCM0.out, fun d => by rw [List.take_zero]; rfl⟩
      case round =>
        obtain ⟨j, f, g2, hj, rfl, hbr, hcm, hgs⟩ := hrel
        have HBR2 : Hid (Below W.heap.size W wr) := hbr
        have HCM : Hid _ := hcm
        have HGS : Hid (∀ d : Nat, (g2 d).isSome = decide (1 ≤ cntO (ss.take j) d)) := hgs
        clear hbr hcm hgs
        by_cases hlj : j < sl
        · have hjs : j < ss.length := by rw [← HSL.out]; exact hlj
          obtain ⟨b, off, hsa, hc⟩ := stpW_get (stpW_below HP.out.S (HW.out.trans (HBR2.out.mono HW.out.size))) hjs
          obtain ⟨c0, c1, c2, c3⟩ := hc j hjs
          obtain ⟨⟨op, dst, src, c⟩, hs⟩ : ∃ s, ss[j] = s := ⟨_, rfl⟩
          rw [hs] at c0 c1 c2 c3
          simp only at c0 c1 c2 c3
          have hget : ss[j]? = some ⟨op, dst, src, c⟩ := by rw [List.getElem?_eq_getElem hjs, hs]
          have HTK : Hid (ss.take (j + 1) = ss.take j ++ [⟨op, dst, src, c⟩]) := by show _ = _; rw [List.take_add_one, hget]; rfl
          have hok : OkS il ol k ⟨op, dst, src, c⟩ := by rw [HIL.out, HOL.out]; exact HF.out.2.2.2.2.1 _ (List.mem_of_getElem? hget)
          have HOK : Hid _ := hok
          have hop : 1 ≤ op ∧ op ≤ 5 := by unfold OkS at hok; simp only at hok; omega
          have HO0 : Hid (okN op = true) := decide_eq_true hop
          obtain ⟨s9, f9, so, an, as9, ou, n9, m9, hO, hmm⟩ := op_some hop
          have HMM : Hid _ := hmm
          have HO1 : Hid _ := hO.cells
          have hem := hO.em
          subst hsa
          clear hc hs hget hjs hok hop hO hmm
          have HB1 : Hid (Below W.heap.size W (wr.alloc (.cells #[.int .i64 op, .int .i64 dst, .int .i64 src, .int .u8 (c.toNat : Int)] 48))) := HBR2.out.alloc HBR2.out.size _
          have HS1 : Hid _ := heap_alloc_last wr (.cells #[.int .i64 op, .int .i64 dst, .int .i64 src, .int .u8 (c.toNat : Int)] 48)
          have HC1 : Hid _ := HCM.out.below ((Below.refl _ wr).alloc (Nat.le_refl _) (.cells #[.int .i64 op, .int .i64 dst, .int .i64 src, .int .u8 (c.toNat : Int)] 48))
          go_wp2_with fail
          refine Calls.mono (find_F op _) ?_
          rw [HO0.out, HO1.out]
          rintro e w2 ⟨rfl, hb2⟩
          have HB2 : Hid (Below W.heap.size W w2) := HB1.out.trans (hb2.mono HB1.out.size)
          have HC2 : Hid _ := HC1.out.below hb2
          have hs2 := heap_later HS1.out hb2
          have HS3 : Hid _ := heap_later hs2 ((Below.refl _ w2).alloc (Nat.le_refl _) (.cells #[.string s9, .bool f9, .bool so, .bool an, .bool as9, .bool ou, .func (.func n9) #[] #[], .func (.func m9) #[] #[]] 65))
          have HC3 : Hid _ := HC2.out.below ((Below.refl _ w2).alloc (Nat.le_refl _) (.cells #[.string s9, .bool f9, .bool so, .bool an, .bool as9, .bool ou, .func (.func n9) #[] #[], .func (.func m9) #[] #[]] 65))
          have HB3 : Hid (Below W.heap.size W (w2.alloc (.cells #[.string s9, .bool f9, .bool so, .bool an, .bool as9, .bool ou, .func (.func n9) #[] #[], .func (.func m9) #[] #[]] 65))) := HB2.out.alloc HB2.out.size _
          have s0 := cellAt HS3.out 0 _ rfl
          have s1 := cellAt HS3.out 1 _ rfl
          have s2 := cellAt HS3.out 2 _ rfl
          have s3 := cellAt HS3.out 3 _ rfl
          have q0 := cellAt hs2 0 _ rfl
          clear hb2 hs2 c0 c1 c2 c3
          go_wp2_with fail
          refine Calls.mono (does_F W.heap.size cb M Q il k ol f g2 _ _ ⟨op, dst, src, c⟩ m9 _ (by omega) (by omega) (by omega) HB3.out.size HC3.out HOK.out HMM.out) ?_
          clear hem s0 s1 s2 s3 q0
          rintro e w4 ⟨rfl, ⟨f4, g4, hc4, hg4⟩, hb4⟩
          have HB4 : Hid (Below W.heap.size W w4) := HB3.out.trans hb4
          have HC4 : Hid (CmbW W.heap.size w4 cb M Q il k ol f4 g4 (runR unX (ss.take (j + 1)) (fun _ _ => 0)) (runO unX (ss.take (j + 1)) (fun _ _ => 0) (fun _ _ => 0))) := by
            rw [HTK.out, runR_app, runO_app]; exact hc4
          have HG4 : Hid (∀ d : Nat, (g4 d).isSome = decide (1 ≤ cntO (ss.take (j + 1)) d)) := fun d => by
            rw [hg4, HGS.out, HTK.out]
            by_cases e1 : op = 5
            · by_cases e2 : dst = (d : Int)
              · rw [cnt_out e1 e2]; simp [e1, e2]
              · rw [cnt_other e2]; simp [e2]
            · rw [cnt_not e1]; simp [e1]
          clear hc4 hg4 hb4
          go_wp2
          exact ⟨⟨j + 1, f4, g4, by omega, by go_num, HB4.out, HC4.out, HG4.out⟩, by simp [intOf]; omega⟩
        · obtain rfl : j = sl := by omega
          have hfull : ss.take j = ss := by rw [HSL.out, List.take_length]
          have hcm := HCM.out
          have hgs := HGS.out
          rw [hfull] at hcm hgs
          have HR : Hid (Rows8 wr (some ⟨Q, 0, none⟩) (meanRows il ol ss)) := outs_rows8 hcm (fun d hd => by rw [hgs]; exact decide_eq_true (by have := HF.out.2.2.2.2.2 d (by rw [← HOL.out]; exact hd); omega))
          have q0 := cellAt hcm.blk 0 _ rfl
          have q2 := cellAt hcm.blk 2 _ rfl
          clear hfull hcm hgs
          go_wp2_with fail
          refine Calls.mono (of_F il ol ol (some ⟨Q, 0, none⟩) (meanRows il ol ss) _ (by omega) (meanRows_len _ _ _).symm (by omega) (fun xs h => by obtain ⟨d, _, rfl⟩ := List.mem_map.1 h; exact rowF_len _ _) HR.out) ?_
          rintro e w6 ⟨g6, m6, rfl, hm6, hg6, hh6, hb6⟩
          have HB6 : Hid (Below w.heap.size w w6) := (HW.out.trans (HBR2.out.mono HW.out.size)).trans (hb6.mono (by have := HW.out.size; have := HBR2.out.size; omega))
          have hmk := heap_later (heap_later (holds_at HA.out 0 rfl) HBR2.out) hb6
          have HH6 : Hid _ := hh6
          have HM6 : Hid (m6 = ol * il) := hm6
          have hlt6 : w.heap.size + 1 < g6 := by have := ltHeap (holds_at HA.out 0 rfl); have := HBR2.out.size; omega
          have r0 := cellAt hmk 0 _ rfl
          have r1 := cellAt hmk 1 _ rfl
          have r2 := cellAt hmk 2 _ rfl
          have e0 : w6.frozen? ⟨w.heap.size + 1, 0, none⟩ = false := frozen_of_row _ _ _ _ _ hmk
          have e1 : w6.frozen? ⟨w.heap.size + 1, 1, none⟩ = false := frozen_of_row _ _ _ _ _ hmk
          have e2 : w6.frozen? ⟨w.heap.size + 1, 2, none⟩ = false := frozen_of_row _ _ _ _ _ hmk
          have z6 := ltHeap hmk
          clear hm6 hg6 hh6 hb6 hmk q0 q2
          go_wp2
          refine bodyPost_ret (v := .tuple #[.agg #[.int .i64 ol, .int .i64 il, .slice (some ⟨g6, 0, none⟩) m6 m6], .nilIface]) (by simp [results, Tryd.results10, go_sem, r0, r1, r2, z6]) rfl ⟨g6, m6, rfl, HM6.out, by omega, ?_, ?_⟩
          · exact (heap_setCell_other _ _ _ _ (by show g6 ≠ w.heap.size + 1; omega)).trans ((heap_setCell_other _ _ _ _ (by show g6 ≠ w.heap.size + 1; omega)).trans ((heap_setCell_other _ _ _ _ (by show g6 ≠ w.heap.size + 1; omega)).trans HH6.out))
          · exact ((HB6.out.setCell (by simp) _).setCell (by simp) _).setCell (by simp) _
end Go.Proofs.YtbjjmlebpohmcaaDoor
