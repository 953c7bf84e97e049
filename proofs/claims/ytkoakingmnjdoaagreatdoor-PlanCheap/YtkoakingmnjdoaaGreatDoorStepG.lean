/- What each operation of package prog's Meaning does to its rows. -/
import Derived.Test.YtkoakingmnjdoaaGreatDoorStepC
import Derived.Test.YtkoakingmnjdoaaGreatDoorSolveM
import Derived.Test.YtkoakingmnjdoaaGreatDoorHolds
import Derived.BigRegion
namespace Go.Proofs.YtkoakingmnjdoaaGreatDoor
open Go.RowKit Gf
set_option linter.unusedVariables false
set_option maxRecDepth 20000
set_option linter.unusedSimpArgs false
def svO (n : Nat) (g : Nat → Option (Option Addr × Nat)) (d : Nat) : Value := match g d with | some p => .slice p.1 n p.2 | none => .slice none 0 0
def slO (no n : Nat) (g : Nat → Option (Option Addr × Nat)) : Array Value := ((List.range no).map (svO n g)).toArray
theorem slO_size (no n : Nat) (g : Nat → Option (Option Addr × Nat)) : (slO no n g).size = no := by simp [slO]
theorem slO_at {no n d : Nat} {g : Nat → Option (Option Addr × Nat)} (h : d < no) : (slO no n g)[d]? = some (svO n g d) := by simp [slO, h]
theorem slO_set {no n d : Nat} {g : Nat → Option (Option Addr × Nat)} (p : Option Addr × Nat) (h : d < no) : (slO no n g).setIfInBounds d (.slice p.1 n p.2) = slO no n (fun x => if x = d then some p else g x) := by
  apply Array.ext_getElem?
  intro i
  rw [Array.getElem?_setIfInBounds]
  by_cases hi : i < no
  · rw [slO_at hi, slO_at hi, slO_size]
    by_cases e : d = i
    · subst e; simp [hi, svO]
    · simp [e, svO, show ¬ i = d from fun h => e h.symm]
  · rw [Array.getElem?_eq_none (by rw [slO_size]; omega), Array.getElem?_eq_none (by rw [slO_size]; omega), slO_size]
    simp; omega
/-- the machine of Meaning in memory -/
structure CmbW (B : Nat) (w : World) (cb M Q n rg no : Nat) (f : Nat → Option Addr × Nat) (g : Nat → Option (Option Addr × Nat)) (R O : Regs) : Prop where
  blk : w.heap[cb]? = some (.cells #[.int .i64 n, .slice (some ⟨M, 0, none⟩) rg rg, .slice (some ⟨Q, 0, none⟩) no no] 190 (0, 0))
  regs : RowsW w M rg n f (fun k => R (k : Int))
  outs : w.heap[Q]? = some (.cells (slO no n g) 23 (0, 0))
  out : ∀ d, d < no → ∀ p, g d = some p → Row8T w p.1 (rowF n (O (d : Int))) ∧ n ≤ p.2 ∧ (p.1 = none → p.2 = 0)
  hb : B ≤ cb
  hM : B ≤ M
  hQ : B ≤ Q
  hMQ : M ≠ Q
  hcM : cb ≠ M
  hcQ : cb ≠ Q
theorem CmbW.below {B : Nat} {w w' : World} {cb M Q n rg no : Nat} {f : Nat → Option Addr × Nat} {g : Nat → Option (Option Addr × Nat)} {R O : Regs} (h : CmbW B w cb M Q n rg no f g R O) (hb : Below w.heap.size w w') : CmbW B w' cb M Q n rg no f g R O :=
  { h with blk := heap_later h.blk hb, regs := h.regs.below hb, outs := heap_later h.outs hb, out := fun d hd p hp => ⟨row8T_below (h.out d hd p hp).1 hb, (h.out d hd p hp).2⟩ }
theorem CmbW.drew {B : Nat} {w : World} {cb M Q n rg no : Nat} {f : Nat → Option Addr × Nat} {g : Nat → Option (Option Addr × Nat)} {R O : Regs} (h : CmbW B w cb M Q n rg no f g R O) : CmbW B w.drew cb M Q n rg no f g R O :=
  { h with blk := h.blk, regs := h.regs.drew, outs := h.outs, out := h.out }
theorem CmbW.put {B : Nat} {w : World} {cb M Q n rg no : Nat} {f : Nat → Option Addr × Nat} {g : Nat → Option (Option Addr × Nat)} {R O : Regs} (h : CmbW B w cb M Q n rg no f g R O) {k : Nat} (hk : k < rg) {a : Option Addr} {m : Nat} {v : Nat → F} (ha : Row8T w a (rowF n v)) (hm : n ≤ m) (hn : a = none → m = 0) :
    CmbW B (w.setCell ⟨M, k, none⟩ (.slice a n m)) cb M Q n rg no (fun x => if x = k then (a, m) else f x) g (setR R k v) O := by
  have hg : w.grownBy (w.setCell ⟨M, k, none⟩ (.slice a n m)) (some M) := grownBy_setCell (World.grownBy.refl _ _) _
  refine { h with blk := ?_, regs := ?_, outs := ?_, out := fun d hd p hp => ⟨?_, (h.out d hd p hp).2⟩ }
  · exact (heap_setCell_other _ _ _ _ h.hcM).trans h.blk
  · refine (h.regs.put hk ha hm hn).congr fun x hx j hj => ?_
    simp only [setR]
    by_cases e : x = k
    · simp [e]
    · simp [e, show ¬ (x : Int) = (k : Int) by omega]
  · exact (heap_setCell_other _ _ _ _ (fun e => h.hMQ e.symm)).trans h.outs
  · exact row8_other h.regs.blk hg (h.out d hd p hp).1
theorem CmbW.putO {B : Nat} {w : World} {cb M Q n rg no : Nat} {f : Nat → Option Addr × Nat} {g : Nat → Option (Option Addr × Nat)} {R O : Regs} (h : CmbW B w cb M Q n rg no f g R O) {d k : Nat} (hd : d < no) (hk : k < rg) :
    CmbW B (w.setCell ⟨Q, d, none⟩ (.slice (f k).1 n (f k).2)) cb M Q n rg no f (fun x => if x = d then some (f k) else g x) R (setR O d (R k)) := by
  have hg : w.grownBy (w.setCell ⟨Q, d, none⟩ (.slice (f k).1 n (f k).2)) (some Q) := grownBy_setCell (World.grownBy.refl _ _) _
  have hne : NoElems w (some Q) := noElems_some h.outs (by decide)
  refine { h with blk := ?_, regs := ?_, outs := ?_, out := fun x hx p hp => ?_ }
  · exact (heap_setCell_other _ _ _ _ h.hcQ).trans h.blk
  · exact ⟨(heap_setCell_other _ _ _ _ h.hMQ).trans h.regs.blk, fun x hx => row8T_grown (h.regs.row x hx) hg hne, h.regs.cap, h.regs.nil⟩
  · rw [heap_setCell_same _ _ _ _ _ _ h.outs, slO_set (f k) hd]
  · by_cases e : x = d
    · subst e
      simp only [if_true, Option.some.injEq] at hp
      subst hp
      rw [setR_same]
      exact ⟨row8T_grown (h.regs.row k hk) hg hne, h.regs.cap k hk, h.regs.nil k hk⟩
    · simp only [e, if_false] at hp
      rw [setR_other (show (x : Int) ≠ (d : Int) by omega)]
      exact ⟨row8T_grown (h.out x hx p hp).1 hg hne, (h.out x hx p hp).2⟩
/-- a unit column: input number s of those that there are -/
def unX (s : Int) : Nat → F := fun b => if (b : Int) = s then 1 else 0
theorem zeros_rowF (n : Nat) : zeros n = rowF n (fun _ => 0) := by
  apply List.ext_getElem?
  intro i
  by_cases h : i < n <;> simp [zeros, rowF, h]
theorem zeros_set (n s : Nat) : (zeros n).set s 1 = rowF n (unX s) := by
  apply List.ext_getElem?
  intro i
  rw [List.getElem?_set]
  by_cases h : i < n
  · by_cases e : s = i
    · subst e; simp [zeros, rowF, unX, h]
    · simp [zeros, rowF, unX, h, e, show ¬ (i : Int) = (s : Int) by omega]
  · by_cases e : s = i
    · subst e; simp [zeros, rowF, h]
    · simp [zeros, rowF, h, e]
theorem nothing_F (cb n : Nat) (w : World) (hn : n ≤ 64) (hc : w.cell? ⟨cb, 0, none⟩ = some (.int .i64 n)) :
    Calls Tryz.prog 152 #[.pointer (some ⟨cb, 0, none⟩)] w fun e w' => e = .returned (.slice (some ⟨w.heap.size, 0, none⟩) n n) ∧ w' = w.alloc (.cells (vfs (zeros n)) 5) := by
  have hmk := run_make8 n (by omega) w
  go_enter Tryz.func152, Tryz.ntmps152
  go_wp2
  go_ret
  exact ⟨rfl, rfl⟩
set_option maxRecDepth 100000 in
set_option maxHeartbeats 4000000 in
theorem does_load (B cb M Q n rg no : Nat) (f : Nat → Option Addr × Nat) (g : Nat → Option (Option Addr × Nat)) (R O : Regs) (op : Int) (dst : Nat) (src : Nat) (cv : Int) (hd : dst < rg) (hs : src < n) (w : World) (hn : n ≤ 64) (hrg : rg ≤ 64) (hno : no ≤ 64) (hBw : B ≤ w.heap.size) (h : CmbW B w cb M Q n rg no f g R O) :
    Calls Tryz.prog 140 #[.pointer (some ⟨cb, 0, none⟩), .agg #[.int .i64 op, .int .i64 (dst : Int), .int .i64 (src : Int), .int .u8 cv]] w fun e w' => e = .returned (.tuple #[]) ∧ (∃ f' g', CmbW B w' cb M Q n rg no f' g' (setR R (dst : Int) (unX (src : Int))) (O) ∧ g' = g) ∧ Below B w w' := by
  have hb0 : Below w.heap.size w (w.alloc (.cells #[.int .i64 op, .int .i64 (dst : Int), .int .i64 (src : Int), .int .u8 cv] 105)) := (Below.refl _ _).alloc (Nat.le_refl _) _
  have h0 := h.below hb0
  have HC0 : Hid _ := cellAt h0.blk 0 _ rfl
  have HH : Hid (CmbW B w cb M Q n rg no f g R O) := h
  clear h h0 hb0
  go_enter Tryz.func140, Tryz.ntmps140
  go_wp2_with fail
  refine Calls.mono (nothing_F cb n _ hn HC0.out) ?_
  rintro e w1 ⟨rfl, hw1⟩
  have hA : Holds w1 [(w.heap.size + 1, .cells (vfs (zeros n)) 5), (w.heap.size, .cells #[.int .i64 op, .int .i64 (dst : Int), .int .i64 (src : Int), .int .u8 cv] 105)] := by
    rw [hw1]
    have h := holds_new (holds_new (holds_nil w) #[.int .i64 op, .int .i64 (dst : Int), .int .i64 (src : Int), .int .u8 cv] 105) (vfs (zeros n)) 5
    simp only [World.size_alloc] at h
    exact h
  have hB1 : Below w.heap.size w w1 := by rw [hw1]; exact ((Below.refl _ w).alloc (Nat.le_refl _) _).alloc (by simp) _
  have hz1 : w1.heap.size = w.heap.size + 2 := by rw [hw1]; simp
  rw [World.size_alloc]
  have c0 : w1.cell? ⟨w.heap.size + 1, src, none⟩ = some (.int .u8 0) := by
    have := cellAt (holds_at hA 0 rfl) src _ (vfs_get (zeros n) src (by rw [zeros_len]; exact hs))
    rw [at8_zeros] at this
    exact this
  have d0 : w1.frozen? ⟨w.heap.size + 1, src, none⟩ = false := frozen_of_row _ _ _ _ _ (holds_at hA 0 rfl)
  have s2 := cellAt (holds_at hA 1 rfl) 2 _ rfl
  obtain ⟨W, hW⟩ : ∃ W, W = w1.setCell ⟨w.heap.size + 1, src, none⟩ (.int .u8 1) := ⟨_, rfl⟩
  have hrow : W.heap[w.heap.size + 1]? = some (.cells (vfs (rowF n (unX (src : Int)))) 5 (0, 0)) := by
    rw [hW, heap_setCell_same _ _ _ _ _ _ (holds_at hA 0 rfl), ← zeros_set]
    have := vfs_set (zeros n) src 1
    rw [← this]; rfl
  have hbox : W.heap[w.heap.size]? = some (.cells #[.int .i64 op, .int .i64 (dst : Int), .int .i64 (src : Int), .int .u8 cv] 105 (0, 0)) := by
    rw [hW]; exact (heap_setCell_other _ _ _ _ (by show w.heap.size ≠ w.heap.size + 1; omega)).trans (holds_at hA 1 rfl)
  have hBW : Below w.heap.size w W := by rw [hW]; exact hB1.setCell (p := ⟨w.heap.size + 1, src, none⟩) (by show w.heap.size ≤ w.heap.size + 1; omega) _
  have hCW := HH.out.below hBW
  have HROW : Hid _ := hrow
  have HBOX : Hid _ := hbox
  have HBW : Hid _ := hBW
  have HCW : Hid _ := hCW
  have HWE : Hid _ := hW
  clear hA hB1 hw1 hrow hbox hBW hCW hW hz1
  go_wp2
  rw [← HWE.out]
  clear c0 d0 s2 HWE
  have k1 := cellAt HCW.out.blk 1 _ rfl
  have k2 := cellAt HBOX.out 1 _ rfl
  have k3 := cellAt HCW.out.regs.blk dst _ (slF_at hd)
  have k4 : W.frozen? ⟨M, dst, none⟩ = false := frozen_of_row _ _ _ _ _ HCW.out.regs.blk
  go_region
  have HP : Hid _ := HCW.out.drew.put hd (a := some ⟨w.heap.size + 1, 0, none⟩) (m := n) (v := unX (src : Int)) (row8T_own (w := W.drew) HROW.out) (Nat.le_refl _) (fun e => by cases e)
  have HPB : Hid _ := ((HBW.out.mono hBw).drew).setCell (p := ⟨M, dst, none⟩) HCW.out.hM (.slice (some ⟨w.heap.size + 1, 0, none⟩) n n)
  clear k1 k2 k3 k4
  go_wp2
  exact ⟨rfl, .tuple #[], by simp [results, Tryz.results140, go_sem], rfl, ⟨_, _, HP.out, rfl⟩, HPB.out⟩
set_option maxRecDepth 100000 in
set_option maxHeartbeats 4000000 in
theorem does_zero (B cb M Q n rg no : Nat) (f : Nat → Option Addr × Nat) (g : Nat → Option (Option Addr × Nat)) (R O : Regs) (op : Int) (dst : Nat) (src cv : Int) (hd : dst < rg) (w : World) (hn : n ≤ 64) (hrg : rg ≤ 64) (hno : no ≤ 64) (hBw : B ≤ w.heap.size) (h : CmbW B w cb M Q n rg no f g R O) :
    Calls Tryz.prog 142 #[.pointer (some ⟨cb, 0, none⟩), .agg #[.int .i64 op, .int .i64 (dst : Int), .int .i64 src, .int .u8 cv]] w fun e w' => e = .returned (.tuple #[]) ∧ (∃ f' g', CmbW B w' cb M Q n rg no f' g' (setR R (dst : Int) (fun _ => 0)) (O) ∧ g' = g) ∧ Below B w w' := by
  obtain ⟨W, hW⟩ : ∃ W, W = w.alloc (.cells #[.int .i64 op, .int .i64 (dst : Int), .int .i64 src, .int .u8 cv] 105) := ⟨_, rfl⟩
  have hBW : Below w.heap.size w W := by rw [hW]; exact (Below.refl _ _).alloc (Nat.le_refl _) _
  have hbox : W.heap[w.heap.size]? = some (.cells #[.int .i64 op, .int .i64 (dst : Int), .int .i64 src, .int .u8 cv] 105 (0, 0)) := by rw [hW]; exact heap_alloc_last _ _
  have HNE : Hid (w.heap.size ≠ M) := by have := ltHeap h.regs.blk; show _ ≠ _; omega
  have HCW : Hid _ := h.below hBW
  have HBOX : Hid _ := hbox
  have HBW : Hid _ := hBW
  have HWE : Hid _ := hW
  clear h hBW hbox hW
  have HK1 : Hid (∀ u, W.grownBy u (some M) → u.cell? ⟨cb, 1, none⟩ = some (.slice (some ⟨M, 0, none⟩) rg rg)) := fun u hu => cellAt ((hu.block cb (ltHeap HCW.out.blk) (by simpa using HCW.out.hcM)).trans HCW.out.blk) 1 _ rfl
  have HS0 : Hid (∀ u, W.grownBy u (some M) → u.cell? ⟨w.heap.size, 1, none⟩ = some (.int .i64 (dst : Int))) := fun u hu => cellAt ((hu.block w.heap.size (ltHeap HBOX.out) (by simpa using HNE.out)).trans HBOX.out) 1 _ rfl
  go_enter Tryz.func142, Tryz.ntmps142
  go_wp2
  rw [← HWE.out]
  clear HWE
  refine wp_region_noPanic ?_
  refine wp_region_held_drew (S := fun u => W.grownBy u (some M)) (by kernel_rfl) ?_ (fun hHeld => ?_)
  · exact grownBy_drew (World.grownBy.refl _ _)
  refine wpAnyH_take (i := 0) (oi := { dst := some 4, op := Op.move (Operand.tmp 0), type := 185, pos := "prog.go:142", after := #[], guard := none }) (v := ?_) rfl (by kernel_rfl) (by kernel_rfl) (by kernel_rfl) (fun _ _ _ h => h) (Or.inl ⟨by rfl, ?_⟩) hHeld ?_
  rotate_left
  · intro u hSw
    go_simp
    try with_reducible rfl
  try simp only [Act.put, List.setIfInBounds_toArray, List.set_cons_zero, List.set_cons_succ]
  refine wpAnyH_take (i := 1) (oi := { dst := some 5, op := Op.nilCheck (Operand.tmp 4), type := 0, pos := "prog.go:142", after := #[{ on := 0, ground := Ground.data }], guard := none }) (v := ?_) rfl (by kernel_rfl) (by kernel_rfl) (by kernel_rfl) (fun _ _ _ h => h) (Or.inl ⟨by rfl, ?_⟩) hHeld ?_
  rotate_left
  · intro u hSw
    go_simp
    try with_reducible rfl
  try simp only [Act.put, List.setIfInBounds_toArray, List.set_cons_zero, List.set_cons_succ]
  refine wpAnyH_take (i := 2) (oi := { dst := some 6, op := Op.fieldAddr 190 (Operand.tmp 5) 1, type := 0, pos := "prog.go:142", after := #[{ on := 1, ground := Ground.data }], guard := none }) (v := ?_) rfl (by kernel_rfl) (by kernel_rfl) (by kernel_rfl) (fun _ _ _ h => h) (Or.inl ⟨by rfl, ?_⟩) hHeld ?_
  rotate_left
  · intro u hSw
    go_simp
    try with_reducible rfl
  try simp only [Act.put, List.setIfInBounds_toArray, List.set_cons_zero, List.set_cons_succ]
  refine wpAnyH_take (i := 3) (oi := { dst := some 7, op := Op.load 49 (Operand.tmp 6), type := 49, pos := "prog.go:142", after := #[{ on := 2, ground := Ground.data }], guard := none }) (v := ?_) rfl (by kernel_rfl) (by kernel_rfl) (by kernel_rfl) (fun _ _ _ h => h) (Or.inl ⟨by rfl, ?_⟩) hHeld ?_
  rotate_left
  · intro u hSw
    have k9 := HK1.out u hSw
    go_simp
    try with_reducible rfl
  try simp only [Act.put, List.setIfInBounds_toArray, List.set_cons_zero, List.set_cons_succ]
  refine wpAnyH_take (i := 4) (oi := { dst := some 8, op := Op.fieldAddr 105 (Operand.tmp 3) 1, type := 0, pos := "prog.go:142", after := #[], guard := none }) (v := ?_) rfl (by kernel_rfl) (by kernel_rfl) (by kernel_rfl) (fun _ _ _ h => h) (Or.inl ⟨by rfl, ?_⟩) hHeld ?_
  rotate_left
  · intro u hSw
    go_simp
    try with_reducible rfl
  try simp only [Act.put, List.setIfInBounds_toArray, List.set_cons_zero, List.set_cons_succ]
  refine wpAnyH_take (i := 5) (oi := { dst := some 9, op := Op.load 3 (Operand.tmp 8), type := 3, pos := "prog.go:142", after := #[{ on := 4, ground := Ground.data }], guard := none }) (v := ?_) rfl (by kernel_rfl) (by kernel_rfl) (by kernel_rfl) (fun _ _ _ h => h) (Or.inl ⟨by rfl, ?_⟩) hHeld ?_
  rotate_left
  · intro u hSw
    have k9 := HS0.out u hSw
    go_simp
    try with_reducible rfl
  try simp only [Act.put, List.setIfInBounds_toArray, List.set_cons_zero, List.set_cons_succ]
  refine wpAnyH_take (i := 6) (oi := { dst := some 10, op := Op.move (Operand.tmp 0), type := 185, pos := "prog.go:142", after := #[], guard := none }) (v := ?_) rfl (by kernel_rfl) (by kernel_rfl) (by kernel_rfl) (fun _ _ _ h => h) (Or.inl ⟨by rfl, ?_⟩) hHeld ?_
  rotate_left
  · intro u hSw
    go_simp
    try with_reducible rfl
  try simp only [Act.put, List.setIfInBounds_toArray, List.set_cons_zero, List.set_cons_succ]
  refine wpAnyH_ready (rs := [7]) (by kernel_rfl) (by simp) ?_
  refine (AllReadyH.cons (o := { dst := some 11, op := Op.call { callee := Callee.value (Operand.func 152), args := #[Operand.tmp 10], argTypes := #[185] }, type := 23, pos := "prog.go:142", after := #[{ on := 6, ground := Ground.data }], guard := none }) rfl (fun K hK => ?_) AllReadyH.nil)
  go_simp
  refine Calls.mono (nothing_F cb n _ hn (cellAt HCW.out.drew.blk 0 _ rfl)) ?_
  rintro e w6 ⟨rfl, hw6⟩
  have hb6 : Below W.drew.heap.size W.drew w6 := by rw [hw6]; exact (Below.refl _ _).alloc (Nat.le_refl _) _
  have hr6 : w6.heap[W.heap.size]? = some (.cells (vfs (zeros n)) 5 (0, 0)) := by rw [hw6]; exact heap_alloc_last _ _
  have hC6 := HCW.out.drew.below hb6
  have hS6 : W.grownBy w6 (some M) := grown_below (grownBy_drew (World.grownBy.refl _ _)) hb6
  clear hw6
  go_wp2_with fail
  refine hK.out _ _ ?_ (fun hHeld => ?_)
  · exact hS6
  clear hK K
  try simp only [Act.put, List.setIfInBounds_toArray, List.set_cons_zero, List.set_cons_succ]
  refine wpAnyH_take (i := 8) (oi := { dst := some 12, op := Op.indexAddr 49 (Operand.tmp 7) (Operand.tmp 9), type := 0, pos := "prog.go:142", after := #[{ on := 3, ground := Ground.data }, { on := 5, ground := Ground.data }, { on := 0, ground := Ground.phase }, { on := 1, ground := Ground.phase }, { on := 2, ground := Ground.phase }, { on := 3, ground := Ground.phase }, { on := 4, ground := Ground.phase }, { on := 5, ground := Ground.phase }, { on := 6, ground := Ground.phase }, { on := 7, ground := Ground.phase }], guard := none }) (v := ?_) rfl (by kernel_rfl) (by kernel_rfl) (by kernel_rfl) (fun _ _ _ h => h) (Or.inl ⟨by rfl, ?_⟩) hHeld ?_
  rotate_left
  · intro u hSw
    go_simp
    try with_reducible rfl
  try simp only [Act.put, List.setIfInBounds_toArray, List.set_cons_zero, List.set_cons_succ]
  refine wpAnyH_ready (rs := [9]) (by kernel_rfl) (by simp) ?_
  refine (AllReadyH.cons (o := { dst := none, op := Op.store 23 (Operand.tmp 12) (Operand.tmp 11), type := 0, pos := "prog.go:142", after := #[{ on := 8, ground := Ground.data }, { on := 7, ground := Ground.data }, { on := 7, ground := Ground.chain }, { on := 0, ground := Ground.phase }, { on := 1, ground := Ground.phase }, { on := 2, ground := Ground.phase }, { on := 3, ground := Ground.phase }, { on := 4, ground := Ground.phase }, { on := 5, ground := Ground.phase }, { on := 6, ground := Ground.phase }, { on := 7, ground := Ground.phase }], guard := none }) rfl (fun K hK => ?_) AllReadyH.nil)
  have hblk := hC6.regs.blk
  have d8 : w6.frozen? ⟨M, dst, none⟩ = false := frozen_of_row _ _ _ _ _ hblk
  have d9 := cellAt hblk dst _ (slF_at hd)
  go_simp
  refine hK.out _ _ ?_ (fun hHeld => ?_)
  · exact grownBy_setCell hS6 _
  clear hK K
  try simp only [Act.put, List.setIfInBounds_toArray, List.set_cons_zero, List.set_cons_succ]
  refine wpAnyH_done (by kernel_rfl) ?_ _
  refine NoPanic.normal ?_
  have HP : Hid _ := hC6.put hd (a := some ⟨W.heap.size, 0, none⟩) (m := n) (v := fun _ => 0) (by rw [← zeros_rowF]; exact row8T_own hr6) (Nat.le_refl _) (fun e => by cases e)
  have HPB : Hid _ := (((HBW.out.mono hBw).drew).trans (hb6.mono (by have := HBW.out.size; simp; omega))).setCell (p := ⟨M, dst, none⟩) HCW.out.hM (.slice (some ⟨W.heap.size, 0, none⟩) n n)
  go_wp2
  exact ⟨rfl, .tuple #[], by simp [results, Tryz.results142, go_sem], rfl, ⟨_, _, HP.out, rfl⟩, HPB.out⟩
set_option maxRecDepth 100000 in
set_option maxHeartbeats 4000000 in
theorem does_mul (B cb M Q n rg no : Nat) (f : Nat → Option Addr × Nat) (g : Nat → Option (Option Addr × Nat)) (R O : Regs) (op : Int) (dst : Nat) (src : Int) (c : F) (hd : dst < rg) (w : World) (hn : n ≤ 64) (hrg : rg ≤ 64) (hno : no ≤ 64) (hBw : B ≤ w.heap.size) (h : CmbW B w cb M Q n rg no f g R O) :
    Calls Tryz.prog 144 #[.pointer (some ⟨cb, 0, none⟩), .agg #[.int .i64 op, .int .i64 (dst : Int), .int .i64 src, .int .u8 (c.toNat : Int)]] w fun e w' => e = .returned (.tuple #[]) ∧ (∃ f' g', CmbW B w' cb M Q n rg no f' g' (setR R (dst : Int) (fun b => gm c (R (dst : Int) b))) (O) ∧ g' = g) ∧ Below B w w' := by
  obtain ⟨W, hW⟩ : ∃ W, W = w.alloc (.cells #[.int .i64 op, .int .i64 (dst : Int), .int .i64 src, .int .u8 (c.toNat : Int)] 105) := ⟨_, rfl⟩
  have hBW : Below w.heap.size w W := by rw [hW]; exact (Below.refl _ _).alloc (Nat.le_refl _) _
  have hbox : W.heap[w.heap.size]? = some (.cells #[.int .i64 op, .int .i64 (dst : Int), .int .i64 src, .int .u8 (c.toNat : Int)] 105 (0, 0)) := by rw [hW]; exact heap_alloc_last _ _
  have HNE : Hid (w.heap.size ≠ M) := by have := ltHeap h.regs.blk; show _ ≠ _; omega
  have HCW : Hid _ := h.below hBW
  have HBOX : Hid _ := hbox
  have HBW : Hid _ := hBW
  have HWE : Hid _ := hW
  clear h hBW hbox hW
  have HK1 : Hid (∀ u, W.grownBy u (some M) → u.cell? ⟨cb, 1, none⟩ = some (.slice (some ⟨M, 0, none⟩) rg rg)) := fun u hu => cellAt ((hu.block cb (ltHeap HCW.out.blk) (by simpa using HCW.out.hcM)).trans HCW.out.blk) 1 _ rfl
  have HS0 : Hid (∀ u, W.grownBy u (some M) → u.cell? ⟨w.heap.size, 1, none⟩ = some (.int .i64 (dst : Int))) := fun u hu => cellAt ((hu.block w.heap.size (ltHeap HBOX.out) (by simpa using HNE.out)).trans HBOX.out) 1 _ rfl
  have HS2 : Hid (∀ u, W.grownBy u (some M) → u.cell? ⟨w.heap.size, 2, none⟩ = some (.int .i64 src)) := fun u hu => cellAt ((hu.block w.heap.size (ltHeap HBOX.out) (by simpa using HNE.out)).trans HBOX.out) 2 _ rfl
  have HS3 : Hid (∀ u, W.grownBy u (some M) → u.cell? ⟨w.heap.size, 3, none⟩ = some (.int .u8 (c.toNat : Int))) := fun u hu => cellAt ((hu.block w.heap.size (ltHeap HBOX.out) (by simpa using HNE.out)).trans HBOX.out) 3 _ rfl
  go_enter Tryz.func144, Tryz.ntmps144
  go_wp2
  rw [← HWE.out]
  clear HWE
  refine wp_region_noPanic ?_
  refine wp_region_held_drew (S := fun u => W.grownBy u (some M)) (by kernel_rfl) ?_ (fun hHeld => ?_)
  · exact grownBy_drew (World.grownBy.refl _ _)
  refine wpAnyH_take (i := 0) (oi := { dst := some 4, op := Op.move (Operand.tmp 0), type := 185, pos := "prog.go:146", after := #[], guard := none }) (v := ?_) rfl (by kernel_rfl) (by kernel_rfl) (by kernel_rfl) (fun _ _ _ h => h) (Or.inl ⟨by rfl, ?_⟩) hHeld ?_
  rotate_left
  · intro u hSw
    go_simp
    try with_reducible rfl
  try simp only [Act.put, List.setIfInBounds_toArray, List.set_cons_zero, List.set_cons_succ]
  refine wpAnyH_take (i := 1) (oi := { dst := some 5, op := Op.nilCheck (Operand.tmp 4), type := 0, pos := "prog.go:146", after := #[{ on := 0, ground := Ground.data }], guard := none }) (v := ?_) rfl (by kernel_rfl) (by kernel_rfl) (by kernel_rfl) (fun _ _ _ h => h) (Or.inl ⟨by rfl, ?_⟩) hHeld ?_
  rotate_left
  · intro u hSw
    go_simp
    try with_reducible rfl
  try simp only [Act.put, List.setIfInBounds_toArray, List.set_cons_zero, List.set_cons_succ]
  refine wpAnyH_take (i := 2) (oi := { dst := some 6, op := Op.fieldAddr 190 (Operand.tmp 5) 1, type := 0, pos := "prog.go:146", after := #[{ on := 1, ground := Ground.data }], guard := none }) (v := ?_) rfl (by kernel_rfl) (by kernel_rfl) (by kernel_rfl) (fun _ _ _ h => h) (Or.inl ⟨by rfl, ?_⟩) hHeld ?_
  rotate_left
  · intro u hSw
    go_simp
    try with_reducible rfl
  try simp only [Act.put, List.setIfInBounds_toArray, List.set_cons_zero, List.set_cons_succ]
  refine wpAnyH_take (i := 3) (oi := { dst := some 7, op := Op.load 49 (Operand.tmp 6), type := 49, pos := "prog.go:146", after := #[{ on := 2, ground := Ground.data }], guard := none }) (v := ?_) rfl (by kernel_rfl) (by kernel_rfl) (by kernel_rfl) (fun _ _ _ h => h) (Or.inl ⟨by rfl, ?_⟩) hHeld ?_
  rotate_left
  · intro u hSw
    have k9 := HK1.out u hSw
    go_simp
    try with_reducible rfl
  try simp only [Act.put, List.setIfInBounds_toArray, List.set_cons_zero, List.set_cons_succ]
  refine wpAnyH_take (i := 4) (oi := { dst := some 8, op := Op.fieldAddr 105 (Operand.tmp 3) 1, type := 0, pos := "prog.go:146", after := #[], guard := none }) (v := ?_) rfl (by kernel_rfl) (by kernel_rfl) (by kernel_rfl) (fun _ _ _ h => h) (Or.inl ⟨by rfl, ?_⟩) hHeld ?_
  rotate_left
  · intro u hSw
    go_simp
    try with_reducible rfl
  try simp only [Act.put, List.setIfInBounds_toArray, List.set_cons_zero, List.set_cons_succ]
  refine wpAnyH_take (i := 5) (oi := { dst := some 9, op := Op.load 3 (Operand.tmp 8), type := 3, pos := "prog.go:146", after := #[{ on := 4, ground := Ground.data }], guard := none }) (v := ?_) rfl (by kernel_rfl) (by kernel_rfl) (by kernel_rfl) (fun _ _ _ h => h) (Or.inl ⟨by rfl, ?_⟩) hHeld ?_
  rotate_left
  · intro u hSw
    have k9 := HS0.out u hSw
    go_simp
    try with_reducible rfl
  try simp only [Act.put, List.setIfInBounds_toArray, List.set_cons_zero, List.set_cons_succ]
  refine wpAnyH_take (i := 6) (oi := { dst := some 10, op := Op.fieldAddr 105 (Operand.tmp 3) 3, type := 0, pos := "prog.go:146", after := #[], guard := none }) (v := ?_) rfl (by kernel_rfl) (by kernel_rfl) (by kernel_rfl) (fun _ _ _ h => h) (Or.inl ⟨by rfl, ?_⟩) hHeld ?_
  rotate_left
  · intro u hSw
    go_simp
    try with_reducible rfl
  try simp only [Act.put, List.setIfInBounds_toArray, List.set_cons_zero, List.set_cons_succ]
  refine wpAnyH_take (i := 7) (oi := { dst := some 11, op := Op.load 5 (Operand.tmp 10), type := 5, pos := "prog.go:146", after := #[{ on := 6, ground := Ground.data }], guard := none }) (v := ?_) rfl (by kernel_rfl) (by kernel_rfl) (by kernel_rfl) (fun _ _ _ h => h) (Or.inl ⟨by rfl, ?_⟩) hHeld ?_
  rotate_left
  · intro u hSw
    have k9 := HS3.out u hSw
    go_simp
    try with_reducible rfl
  try simp only [Act.put, List.setIfInBounds_toArray, List.set_cons_zero, List.set_cons_succ]
  refine wpAnyH_take (i := 8) (oi := { dst := some 12, op := Op.move (Operand.tmp 0), type := 185, pos := "prog.go:146", after := #[], guard := none }) (v := ?_) rfl (by kernel_rfl) (by kernel_rfl) (by kernel_rfl) (fun _ _ _ h => h) (Or.inl ⟨by rfl, ?_⟩) hHeld ?_
  rotate_left
  · intro u hSw
    go_simp
    try with_reducible rfl
  try simp only [Act.put, List.setIfInBounds_toArray, List.set_cons_zero, List.set_cons_succ]
  refine wpAnyH_take (i := 9) (oi := { dst := some 13, op := Op.nilCheck (Operand.tmp 12), type := 0, pos := "prog.go:146", after := #[{ on := 8, ground := Ground.data }], guard := none }) (v := ?_) rfl (by kernel_rfl) (by kernel_rfl) (by kernel_rfl) (fun _ _ _ h => h) (Or.inl ⟨by rfl, ?_⟩) hHeld ?_
  rotate_left
  · intro u hSw
    go_simp
    try with_reducible rfl
  try simp only [Act.put, List.setIfInBounds_toArray, List.set_cons_zero, List.set_cons_succ]
  refine wpAnyH_take (i := 10) (oi := { dst := some 14, op := Op.fieldAddr 190 (Operand.tmp 13) 1, type := 0, pos := "prog.go:146", after := #[{ on := 9, ground := Ground.data }], guard := none }) (v := ?_) rfl (by kernel_rfl) (by kernel_rfl) (by kernel_rfl) (fun _ _ _ h => h) (Or.inl ⟨by rfl, ?_⟩) hHeld ?_
  rotate_left
  · intro u hSw
    go_simp
    try with_reducible rfl
  try simp only [Act.put, List.setIfInBounds_toArray, List.set_cons_zero, List.set_cons_succ]
  refine wpAnyH_take (i := 11) (oi := { dst := some 15, op := Op.load 49 (Operand.tmp 14), type := 49, pos := "prog.go:146", after := #[{ on := 10, ground := Ground.data }], guard := none }) (v := ?_) rfl (by kernel_rfl) (by kernel_rfl) (by kernel_rfl) (fun _ _ _ h => h) (Or.inl ⟨by rfl, ?_⟩) hHeld ?_
  rotate_left
  · intro u hSw
    have k9 := HK1.out u hSw
    go_simp
    try with_reducible rfl
  try simp only [Act.put, List.setIfInBounds_toArray, List.set_cons_zero, List.set_cons_succ]
  refine wpAnyH_take (i := 12) (oi := { dst := some 16, op := Op.fieldAddr 105 (Operand.tmp 3) 1, type := 0, pos := "prog.go:146", after := #[], guard := none }) (v := ?_) rfl (by kernel_rfl) (by kernel_rfl) (by kernel_rfl) (fun _ _ _ h => h) (Or.inl ⟨by rfl, ?_⟩) hHeld ?_
  rotate_left
  · intro u hSw
    go_simp
    try with_reducible rfl
  try simp only [Act.put, List.setIfInBounds_toArray, List.set_cons_zero, List.set_cons_succ]
  refine wpAnyH_take (i := 13) (oi := { dst := some 17, op := Op.load 3 (Operand.tmp 16), type := 3, pos := "prog.go:146", after := #[{ on := 12, ground := Ground.data }], guard := none }) (v := ?_) rfl (by kernel_rfl) (by kernel_rfl) (by kernel_rfl) (fun _ _ _ h => h) (Or.inl ⟨by rfl, ?_⟩) hHeld ?_
  rotate_left
  · intro u hSw
    have k9 := HS0.out u hSw
    go_simp
    try with_reducible rfl
  try simp only [Act.put, List.setIfInBounds_toArray, List.set_cons_zero, List.set_cons_succ]
  refine wpAnyH_take (i := 14) (oi := { dst := some 18, op := Op.indexAddr 49 (Operand.tmp 15) (Operand.tmp 17), type := 0, pos := "prog.go:146", after := #[{ on := 11, ground := Ground.data }, { on := 13, ground := Ground.data }], guard := none }) (v := ?_) rfl (by kernel_rfl) (by kernel_rfl) (by kernel_rfl) (fun _ _ _ h => h) (Or.inl ⟨by rfl, ?_⟩) hHeld ?_
  rotate_left
  · intro u hSw
    go_simp
    try with_reducible rfl
  try simp only [Act.put, List.setIfInBounds_toArray, List.set_cons_zero, List.set_cons_succ]
  refine wpAnyH_ready (rs := [15]) (by kernel_rfl) (by simp) ?_
  refine (AllReadyH.cons (o := { dst := some 19, op := Op.load 23 (Operand.tmp 18), type := 23, pos := "prog.go:146", after := #[{ on := 14, ground := Ground.data }], guard := none }) rfl (fun K hK => ?_) AllReadyH.nil)
  have m15 := cellAt HCW.out.drew.regs.blk dst _ (slF_at ‹dst < rg›)
  go_simp
  refine hK.out _ _ ?_ (fun hHeld => ?_)
  · exact grownBy_drew (World.grownBy.refl _ _)
  clear hK K
  try simp only [Act.put, List.setIfInBounds_toArray, List.set_cons_zero, List.set_cons_succ]
  refine wpAnyH_ready (rs := [16]) (by kernel_rfl) (by simp) ?_
  refine (AllReadyH.cons (o := { dst := some 20, op := Op.call { callee := Callee.value (Operand.func 125), args := #[Operand.tmp 11, Operand.tmp 19], argTypes := #[5, 23] }, type := 23, pos := "prog.go:146", after := #[{ on := 7, ground := Ground.data }, { on := 15, ground := Ground.data }], guard := none }) rfl (fun K hK => ?_) AllReadyH.nil)
  go_simp
  refine Calls.mono (scale_R c _ n _ _ _ (by omega) (HCW.out.drew.regs.row dst hd).row8) ?_
  rintro e w6 ⟨q6, rfl, hb6, hr6, hg6⟩
  have hC6 := HCW.out.drew.below hb6
  have hS6 : W.grownBy w6 (some M) := grown_below (grownBy_drew (World.grownBy.refl _ _)) hb6
  go_wp2_with fail
  refine hK.out _ _ ?_ (fun hHeld => ?_)
  · exact hS6
  clear hK K
  try simp only [Act.put, List.setIfInBounds_toArray, List.set_cons_zero, List.set_cons_succ]
  refine wpAnyH_take (i := 17) (oi := { dst := some 21, op := Op.indexAddr 49 (Operand.tmp 7) (Operand.tmp 9), type := 0, pos := "prog.go:146", after := #[{ on := 3, ground := Ground.data }, { on := 5, ground := Ground.data }, { on := 0, ground := Ground.phase }, { on := 1, ground := Ground.phase }, { on := 2, ground := Ground.phase }, { on := 3, ground := Ground.phase }, { on := 4, ground := Ground.phase }, { on := 5, ground := Ground.phase }, { on := 6, ground := Ground.phase }, { on := 7, ground := Ground.phase }, { on := 8, ground := Ground.phase }, { on := 9, ground := Ground.phase }, { on := 10, ground := Ground.phase }, { on := 11, ground := Ground.phase }, { on := 12, ground := Ground.phase }, { on := 13, ground := Ground.phase }, { on := 14, ground := Ground.phase }, { on := 15, ground := Ground.phase }, { on := 16, ground := Ground.phase }], guard := none }) (v := ?_) rfl (by kernel_rfl) (by kernel_rfl) (by kernel_rfl) (fun _ _ _ h => h) (Or.inl ⟨by rfl, ?_⟩) hHeld ?_
  rotate_left
  · intro u hSw
    go_simp
    try with_reducible rfl
  try simp only [Act.put, List.setIfInBounds_toArray, List.set_cons_zero, List.set_cons_succ]
  refine wpAnyH_ready (rs := [18]) (by kernel_rfl) (by simp) ?_
  refine (AllReadyH.cons (o := { dst := none, op := Op.store 23 (Operand.tmp 21) (Operand.tmp 20), type := 0, pos := "prog.go:146", after := #[{ on := 17, ground := Ground.data }, { on := 16, ground := Ground.data }, { on := 16, ground := Ground.chain }, { on := 0, ground := Ground.phase }, { on := 1, ground := Ground.phase }, { on := 2, ground := Ground.phase }, { on := 3, ground := Ground.phase }, { on := 4, ground := Ground.phase }, { on := 5, ground := Ground.phase }, { on := 6, ground := Ground.phase }, { on := 7, ground := Ground.phase }, { on := 8, ground := Ground.phase }, { on := 9, ground := Ground.phase }, { on := 10, ground := Ground.phase }, { on := 11, ground := Ground.phase }, { on := 12, ground := Ground.phase }, { on := 13, ground := Ground.phase }, { on := 14, ground := Ground.phase }, { on := 15, ground := Ground.phase }, { on := 16, ground := Ground.phase }], guard := none }) rfl (fun K hK => ?_) AllReadyH.nil)
  have hblk := hC6.regs.blk
  have d8 : w6.frozen? ⟨M, dst, none⟩ = false := frozen_of_row _ _ _ _ _ hblk
  have d9 := cellAt hblk dst _ (slF_at hd)
  go_simp
  refine hK.out _ _ ?_ (fun hHeld => ?_)
  · exact grownBy_setCell hS6 _
  clear hK K
  try simp only [Act.put, List.setIfInBounds_toArray, List.set_cons_zero, List.set_cons_succ]
  refine wpAnyH_done (by kernel_rfl) ?_ _
  refine NoPanic.normal ?_
  have HP : Hid _ := hC6.put hd (a := some ⟨q6, 0, none⟩) (m := n) (v := fun b => gm c (R (dst : Int) b)) hr6 (Nat.le_refl _) (fun e => by cases e)
  have HPB : Hid _ := (((HBW.out.mono hBw).drew).trans (hb6.mono (by have := HBW.out.size; simp; omega))).setCell (p := ⟨M, dst, none⟩) HCW.out.hM (.slice (some ⟨q6, 0, none⟩) n n)
  go_wp2
  exact ⟨rfl, .tuple #[], by simp [results, Tryz.results144, go_sem], rfl, ⟨_, _, HP.out, rfl⟩, HPB.out⟩
set_option maxRecDepth 100000 in
set_option maxHeartbeats 4000000 in
theorem does_add (B cb M Q n rg no : Nat) (f : Nat → Option Addr × Nat) (g : Nat → Option (Option Addr × Nat)) (R O : Regs) (op : Int) (dst : Nat) (src : Nat) (c : F) (hd : dst < rg) (hs : src < rg) (w : World) (hn : n ≤ 64) (hrg : rg ≤ 64) (hno : no ≤ 64) (hBw : B ≤ w.heap.size) (h : CmbW B w cb M Q n rg no f g R O) :
    Calls Tryz.prog 146 #[.pointer (some ⟨cb, 0, none⟩), .agg #[.int .i64 op, .int .i64 (dst : Int), .int .i64 (src : Int), .int .u8 (c.toNat : Int)]] w fun e w' => e = .returned (.tuple #[]) ∧ (∃ f' g', CmbW B w' cb M Q n rg no f' g' (setR R (dst : Int) (fun b => ga (R (dst : Int) b) (gm c (R (src : Int) b)))) (O) ∧ g' = g) ∧ Below B w w' := by
  obtain ⟨W, hW⟩ : ∃ W, W = w.alloc (.cells #[.int .i64 op, .int .i64 (dst : Int), .int .i64 (src : Int), .int .u8 (c.toNat : Int)] 105) := ⟨_, rfl⟩
  have hBW : Below w.heap.size w W := by rw [hW]; exact (Below.refl _ _).alloc (Nat.le_refl _) _
  have hbox : W.heap[w.heap.size]? = some (.cells #[.int .i64 op, .int .i64 (dst : Int), .int .i64 (src : Int), .int .u8 (c.toNat : Int)] 105 (0, 0)) := by rw [hW]; exact heap_alloc_last _ _
  have HNE : Hid (w.heap.size ≠ M) := by have := ltHeap h.regs.blk; show _ ≠ _; omega
  have HCW : Hid _ := h.below hBW
  have HBOX : Hid _ := hbox
  have HBW : Hid _ := hBW
  have HWE : Hid _ := hW
  clear h hBW hbox hW
  have HK1 : Hid (∀ u, W.grownBy u (some M) → u.cell? ⟨cb, 1, none⟩ = some (.slice (some ⟨M, 0, none⟩) rg rg)) := fun u hu => cellAt ((hu.block cb (ltHeap HCW.out.blk) (by simpa using HCW.out.hcM)).trans HCW.out.blk) 1 _ rfl
  have HS0 : Hid (∀ u, W.grownBy u (some M) → u.cell? ⟨w.heap.size, 1, none⟩ = some (.int .i64 (dst : Int))) := fun u hu => cellAt ((hu.block w.heap.size (ltHeap HBOX.out) (by simpa using HNE.out)).trans HBOX.out) 1 _ rfl
  have HS2 : Hid (∀ u, W.grownBy u (some M) → u.cell? ⟨w.heap.size, 2, none⟩ = some (.int .i64 (src : Int))) := fun u hu => cellAt ((hu.block w.heap.size (ltHeap HBOX.out) (by simpa using HNE.out)).trans HBOX.out) 2 _ rfl
  have HS3 : Hid (∀ u, W.grownBy u (some M) → u.cell? ⟨w.heap.size, 3, none⟩ = some (.int .u8 (c.toNat : Int))) := fun u hu => cellAt ((hu.block w.heap.size (ltHeap HBOX.out) (by simpa using HNE.out)).trans HBOX.out) 3 _ rfl
  go_enter Tryz.func146, Tryz.ntmps146
  go_wp2
  rw [← HWE.out]
  clear HWE
  refine wp_region_noPanic ?_
  refine wp_region_held_drew (S := fun u => W.grownBy u (some M)) (by kernel_rfl) ?_ (fun hHeld => ?_)
  · exact grownBy_drew (World.grownBy.refl _ _)
  refine wpAnyH_take (i := 0) (oi := { dst := some 4, op := Op.move (Operand.tmp 0), type := 185, pos := "prog.go:150", after := #[], guard := none }) (v := ?_) rfl (by kernel_rfl) (by kernel_rfl) (by kernel_rfl) (fun _ _ _ h => h) (Or.inl ⟨by rfl, ?_⟩) hHeld ?_
  rotate_left
  · intro u hSw
    go_simp
    try with_reducible rfl
  try simp only [Act.put, List.setIfInBounds_toArray, List.set_cons_zero, List.set_cons_succ]
  refine wpAnyH_take (i := 1) (oi := { dst := some 5, op := Op.nilCheck (Operand.tmp 4), type := 0, pos := "prog.go:150", after := #[{ on := 0, ground := Ground.data }], guard := none }) (v := ?_) rfl (by kernel_rfl) (by kernel_rfl) (by kernel_rfl) (fun _ _ _ h => h) (Or.inl ⟨by rfl, ?_⟩) hHeld ?_
  rotate_left
  · intro u hSw
    go_simp
    try with_reducible rfl
  try simp only [Act.put, List.setIfInBounds_toArray, List.set_cons_zero, List.set_cons_succ]
  refine wpAnyH_take (i := 2) (oi := { dst := some 6, op := Op.fieldAddr 190 (Operand.tmp 5) 1, type := 0, pos := "prog.go:150", after := #[{ on := 1, ground := Ground.data }], guard := none }) (v := ?_) rfl (by kernel_rfl) (by kernel_rfl) (by kernel_rfl) (fun _ _ _ h => h) (Or.inl ⟨by rfl, ?_⟩) hHeld ?_
  rotate_left
  · intro u hSw
    go_simp
    try with_reducible rfl
  try simp only [Act.put, List.setIfInBounds_toArray, List.set_cons_zero, List.set_cons_succ]
  refine wpAnyH_take (i := 3) (oi := { dst := some 7, op := Op.load 49 (Operand.tmp 6), type := 49, pos := "prog.go:150", after := #[{ on := 2, ground := Ground.data }], guard := none }) (v := ?_) rfl (by kernel_rfl) (by kernel_rfl) (by kernel_rfl) (fun _ _ _ h => h) (Or.inl ⟨by rfl, ?_⟩) hHeld ?_
  rotate_left
  · intro u hSw
    have k9 := HK1.out u hSw
    go_simp
    try with_reducible rfl
  try simp only [Act.put, List.setIfInBounds_toArray, List.set_cons_zero, List.set_cons_succ]
  refine wpAnyH_take (i := 4) (oi := { dst := some 8, op := Op.fieldAddr 105 (Operand.tmp 3) 1, type := 0, pos := "prog.go:150", after := #[], guard := none }) (v := ?_) rfl (by kernel_rfl) (by kernel_rfl) (by kernel_rfl) (fun _ _ _ h => h) (Or.inl ⟨by rfl, ?_⟩) hHeld ?_
  rotate_left
  · intro u hSw
    go_simp
    try with_reducible rfl
  try simp only [Act.put, List.setIfInBounds_toArray, List.set_cons_zero, List.set_cons_succ]
  refine wpAnyH_take (i := 5) (oi := { dst := some 9, op := Op.load 3 (Operand.tmp 8), type := 3, pos := "prog.go:150", after := #[{ on := 4, ground := Ground.data }], guard := none }) (v := ?_) rfl (by kernel_rfl) (by kernel_rfl) (by kernel_rfl) (fun _ _ _ h => h) (Or.inl ⟨by rfl, ?_⟩) hHeld ?_
  rotate_left
  · intro u hSw
    have k9 := HS0.out u hSw
    go_simp
    try with_reducible rfl
  try simp only [Act.put, List.setIfInBounds_toArray, List.set_cons_zero, List.set_cons_succ]
  refine wpAnyH_take (i := 6) (oi := { dst := some 10, op := Op.move (Operand.tmp 0), type := 185, pos := "prog.go:150", after := #[], guard := none }) (v := ?_) rfl (by kernel_rfl) (by kernel_rfl) (by kernel_rfl) (fun _ _ _ h => h) (Or.inl ⟨by rfl, ?_⟩) hHeld ?_
  rotate_left
  · intro u hSw
    go_simp
    try with_reducible rfl
  try simp only [Act.put, List.setIfInBounds_toArray, List.set_cons_zero, List.set_cons_succ]
  refine wpAnyH_take (i := 7) (oi := { dst := some 11, op := Op.nilCheck (Operand.tmp 10), type := 0, pos := "prog.go:150", after := #[{ on := 6, ground := Ground.data }], guard := none }) (v := ?_) rfl (by kernel_rfl) (by kernel_rfl) (by kernel_rfl) (fun _ _ _ h => h) (Or.inl ⟨by rfl, ?_⟩) hHeld ?_
  rotate_left
  · intro u hSw
    go_simp
    try with_reducible rfl
  try simp only [Act.put, List.setIfInBounds_toArray, List.set_cons_zero, List.set_cons_succ]
  refine wpAnyH_take (i := 8) (oi := { dst := some 12, op := Op.fieldAddr 190 (Operand.tmp 11) 1, type := 0, pos := "prog.go:150", after := #[{ on := 7, ground := Ground.data }], guard := none }) (v := ?_) rfl (by kernel_rfl) (by kernel_rfl) (by kernel_rfl) (fun _ _ _ h => h) (Or.inl ⟨by rfl, ?_⟩) hHeld ?_
  rotate_left
  · intro u hSw
    go_simp
    try with_reducible rfl
  try simp only [Act.put, List.setIfInBounds_toArray, List.set_cons_zero, List.set_cons_succ]
  refine wpAnyH_take (i := 9) (oi := { dst := some 13, op := Op.load 49 (Operand.tmp 12), type := 49, pos := "prog.go:150", after := #[{ on := 8, ground := Ground.data }], guard := none }) (v := ?_) rfl (by kernel_rfl) (by kernel_rfl) (by kernel_rfl) (fun _ _ _ h => h) (Or.inl ⟨by rfl, ?_⟩) hHeld ?_
  rotate_left
  · intro u hSw
    have k9 := HK1.out u hSw
    go_simp
    try with_reducible rfl
  try simp only [Act.put, List.setIfInBounds_toArray, List.set_cons_zero, List.set_cons_succ]
  refine wpAnyH_take (i := 10) (oi := { dst := some 14, op := Op.fieldAddr 105 (Operand.tmp 3) 1, type := 0, pos := "prog.go:150", after := #[], guard := none }) (v := ?_) rfl (by kernel_rfl) (by kernel_rfl) (by kernel_rfl) (fun _ _ _ h => h) (Or.inl ⟨by rfl, ?_⟩) hHeld ?_
  rotate_left
  · intro u hSw
    go_simp
    try with_reducible rfl
  try simp only [Act.put, List.setIfInBounds_toArray, List.set_cons_zero, List.set_cons_succ]
  refine wpAnyH_take (i := 11) (oi := { dst := some 15, op := Op.load 3 (Operand.tmp 14), type := 3, pos := "prog.go:150", after := #[{ on := 10, ground := Ground.data }], guard := none }) (v := ?_) rfl (by kernel_rfl) (by kernel_rfl) (by kernel_rfl) (fun _ _ _ h => h) (Or.inl ⟨by rfl, ?_⟩) hHeld ?_
  rotate_left
  · intro u hSw
    have k9 := HS0.out u hSw
    go_simp
    try with_reducible rfl
  try simp only [Act.put, List.setIfInBounds_toArray, List.set_cons_zero, List.set_cons_succ]
  refine wpAnyH_take (i := 12) (oi := { dst := some 16, op := Op.indexAddr 49 (Operand.tmp 13) (Operand.tmp 15), type := 0, pos := "prog.go:150", after := #[{ on := 9, ground := Ground.data }, { on := 11, ground := Ground.data }], guard := none }) (v := ?_) rfl (by kernel_rfl) (by kernel_rfl) (by kernel_rfl) (fun _ _ _ h => h) (Or.inl ⟨by rfl, ?_⟩) hHeld ?_
  rotate_left
  · intro u hSw
    go_simp
    try with_reducible rfl
  try simp only [Act.put, List.setIfInBounds_toArray, List.set_cons_zero, List.set_cons_succ]
  refine wpAnyH_take (i := 14) (oi := { dst := some 18, op := Op.fieldAddr 105 (Operand.tmp 3) 3, type := 0, pos := "prog.go:150", after := #[], guard := none }) (v := ?_) rfl (by kernel_rfl) (by kernel_rfl) (by kernel_rfl) (fun _ _ _ h => h) (Or.inl ⟨by rfl, ?_⟩) hHeld ?_
  rotate_left
  · intro u hSw
    go_simp
    try with_reducible rfl
  try simp only [Act.put, List.setIfInBounds_toArray, List.set_cons_zero, List.set_cons_succ]
  refine wpAnyH_take (i := 15) (oi := { dst := some 19, op := Op.load 5 (Operand.tmp 18), type := 5, pos := "prog.go:150", after := #[{ on := 14, ground := Ground.data }], guard := none }) (v := ?_) rfl (by kernel_rfl) (by kernel_rfl) (by kernel_rfl) (fun _ _ _ h => h) (Or.inl ⟨by rfl, ?_⟩) hHeld ?_
  rotate_left
  · intro u hSw
    have k9 := HS3.out u hSw
    go_simp
    try with_reducible rfl
  try simp only [Act.put, List.setIfInBounds_toArray, List.set_cons_zero, List.set_cons_succ]
  refine wpAnyH_take (i := 16) (oi := { dst := some 20, op := Op.move (Operand.tmp 0), type := 185, pos := "prog.go:150", after := #[], guard := none }) (v := ?_) rfl (by kernel_rfl) (by kernel_rfl) (by kernel_rfl) (fun _ _ _ h => h) (Or.inl ⟨by rfl, ?_⟩) hHeld ?_
  rotate_left
  · intro u hSw
    go_simp
    try with_reducible rfl
  try simp only [Act.put, List.setIfInBounds_toArray, List.set_cons_zero, List.set_cons_succ]
  refine wpAnyH_take (i := 17) (oi := { dst := some 21, op := Op.nilCheck (Operand.tmp 20), type := 0, pos := "prog.go:150", after := #[{ on := 16, ground := Ground.data }], guard := none }) (v := ?_) rfl (by kernel_rfl) (by kernel_rfl) (by kernel_rfl) (fun _ _ _ h => h) (Or.inl ⟨by rfl, ?_⟩) hHeld ?_
  rotate_left
  · intro u hSw
    go_simp
    try with_reducible rfl
  try simp only [Act.put, List.setIfInBounds_toArray, List.set_cons_zero, List.set_cons_succ]
  refine wpAnyH_take (i := 18) (oi := { dst := some 22, op := Op.fieldAddr 190 (Operand.tmp 21) 1, type := 0, pos := "prog.go:150", after := #[{ on := 17, ground := Ground.data }], guard := none }) (v := ?_) rfl (by kernel_rfl) (by kernel_rfl) (by kernel_rfl) (fun _ _ _ h => h) (Or.inl ⟨by rfl, ?_⟩) hHeld ?_
  rotate_left
  · intro u hSw
    go_simp
    try with_reducible rfl
  try simp only [Act.put, List.setIfInBounds_toArray, List.set_cons_zero, List.set_cons_succ]
  refine wpAnyH_take (i := 19) (oi := { dst := some 23, op := Op.load 49 (Operand.tmp 22), type := 49, pos := "prog.go:150", after := #[{ on := 18, ground := Ground.data }], guard := none }) (v := ?_) rfl (by kernel_rfl) (by kernel_rfl) (by kernel_rfl) (fun _ _ _ h => h) (Or.inl ⟨by rfl, ?_⟩) hHeld ?_
  rotate_left
  · intro u hSw
    have k9 := HK1.out u hSw
    go_simp
    try with_reducible rfl
  try simp only [Act.put, List.setIfInBounds_toArray, List.set_cons_zero, List.set_cons_succ]
  refine wpAnyH_take (i := 20) (oi := { dst := some 24, op := Op.fieldAddr 105 (Operand.tmp 3) 2, type := 0, pos := "prog.go:150", after := #[], guard := none }) (v := ?_) rfl (by kernel_rfl) (by kernel_rfl) (by kernel_rfl) (fun _ _ _ h => h) (Or.inl ⟨by rfl, ?_⟩) hHeld ?_
  rotate_left
  · intro u hSw
    go_simp
    try with_reducible rfl
  try simp only [Act.put, List.setIfInBounds_toArray, List.set_cons_zero, List.set_cons_succ]
  refine wpAnyH_take (i := 21) (oi := { dst := some 25, op := Op.load 3 (Operand.tmp 24), type := 3, pos := "prog.go:150", after := #[{ on := 20, ground := Ground.data }], guard := none }) (v := ?_) rfl (by kernel_rfl) (by kernel_rfl) (by kernel_rfl) (fun _ _ _ h => h) (Or.inl ⟨by rfl, ?_⟩) hHeld ?_
  rotate_left
  · intro u hSw
    have k9 := HS2.out u hSw
    go_simp
    try with_reducible rfl
  try simp only [Act.put, List.setIfInBounds_toArray, List.set_cons_zero, List.set_cons_succ]
  refine wpAnyH_take (i := 22) (oi := { dst := some 26, op := Op.indexAddr 49 (Operand.tmp 23) (Operand.tmp 25), type := 0, pos := "prog.go:150", after := #[{ on := 19, ground := Ground.data }, { on := 21, ground := Ground.data }], guard := none }) (v := ?_) rfl (by kernel_rfl) (by kernel_rfl) (by kernel_rfl) (fun _ _ _ h => h) (Or.inl ⟨by rfl, ?_⟩) hHeld ?_
  rotate_left
  · intro u hSw
    go_simp
    try with_reducible rfl
  try simp only [Act.put, List.setIfInBounds_toArray, List.set_cons_zero, List.set_cons_succ]
  refine wpAnyH_ready (rs := [13, 23]) (by kernel_rfl) (by simp) ?_
  refine (AllReadyH.cons (o := { dst := some 17, op := Op.load 23 (Operand.tmp 16), type := 23, pos := "prog.go:150", after := #[{ on := 12, ground := Ground.data }], guard := none }) rfl (fun K hK => ?_) (AllReadyH.cons (o := { dst := some 27, op := Op.load 23 (Operand.tmp 26), type := 23, pos := "prog.go:150", after := #[{ on := 22, ground := Ground.data }], guard := none }) rfl (fun K hK => ?_) AllReadyH.nil))
  · have m13 := cellAt HCW.out.drew.regs.blk dst _ (slF_at ‹dst < rg›)
    go_simp
    refine hK.out _ _ ?_ (fun hHeld => ?_)
    · exact grownBy_drew (World.grownBy.refl _ _)
    clear hK K
    try simp only [Act.put, List.setIfInBounds_toArray, List.set_cons_zero, List.set_cons_succ]
    refine wpAnyH_ready (rs := [23]) (by kernel_rfl) (by simp) ?_
    refine (AllReadyH.cons (o := { dst := some 27, op := Op.load 23 (Operand.tmp 26), type := 23, pos := "prog.go:150", after := #[{ on := 22, ground := Ground.data }], guard := none }) rfl (fun K hK => ?_) AllReadyH.nil)
    have m23 := cellAt HCW.out.drew.regs.blk src _ (slF_at ‹src < rg›)
    go_simp
    refine hK.out _ _ ?_ (fun hHeld => ?_)
    · exact grownBy_drew (World.grownBy.refl _ _)
    clear hK K
    try simp only [Act.put, List.setIfInBounds_toArray, List.set_cons_zero, List.set_cons_succ]
    refine wpAnyH_ready (rs := [24]) (by kernel_rfl) (by simp) ?_
    refine (AllReadyH.cons (o := { dst := some 28, op := Op.call { callee := Callee.value (Operand.func 122), args := #[Operand.tmp 17, Operand.tmp 19, Operand.tmp 27], argTypes := #[23, 5, 23] }, type := 23, pos := "prog.go:150", after := #[{ on := 13, ground := Ground.data }, { on := 15, ground := Ground.data }, { on := 23, ground := Ground.data }], guard := none }) rfl (fun K hK => ?_) AllReadyH.nil)
    go_simp
    refine Calls.mono (addScaled_R c _ _ n _ _ _ _ _ (by omega) (HCW.out.drew.regs.row dst hd).row8 (HCW.out.drew.regs.row src hs).row8) ?_
    rintro e w6 ⟨q6, rfl, hb6, hr6, hg6⟩
    have hC6 := HCW.out.drew.below hb6
    have hS6 : W.grownBy w6 (some M) := grown_below (grownBy_drew (World.grownBy.refl _ _)) hb6
    go_wp2_with fail
    refine hK.out _ _ ?_ (fun hHeld => ?_)
    · exact hS6
    clear hK K
    try simp only [Act.put, List.setIfInBounds_toArray, List.set_cons_zero, List.set_cons_succ]
    refine wpAnyH_take (i := 25) (oi := { dst := some 29, op := Op.indexAddr 49 (Operand.tmp 7) (Operand.tmp 9), type := 0, pos := "prog.go:150", after := #[{ on := 3, ground := Ground.data }, { on := 5, ground := Ground.data }, { on := 0, ground := Ground.phase }, { on := 1, ground := Ground.phase }, { on := 2, ground := Ground.phase }, { on := 3, ground := Ground.phase }, { on := 4, ground := Ground.phase }, { on := 5, ground := Ground.phase }, { on := 6, ground := Ground.phase }, { on := 7, ground := Ground.phase }, { on := 8, ground := Ground.phase }, { on := 9, ground := Ground.phase }, { on := 10, ground := Ground.phase }, { on := 11, ground := Ground.phase }, { on := 12, ground := Ground.phase }, { on := 13, ground := Ground.phase }, { on := 14, ground := Ground.phase }, { on := 15, ground := Ground.phase }, { on := 16, ground := Ground.phase }, { on := 17, ground := Ground.phase }, { on := 18, ground := Ground.phase }, { on := 19, ground := Ground.phase }, { on := 20, ground := Ground.phase }, { on := 21, ground := Ground.phase }, { on := 22, ground := Ground.phase }, { on := 23, ground := Ground.phase }, { on := 24, ground := Ground.phase }], guard := none }) (v := ?_) rfl (by kernel_rfl) (by kernel_rfl) (by kernel_rfl) (fun _ _ _ h => h) (Or.inl ⟨by rfl, ?_⟩) hHeld ?_
    rotate_left
    · intro u hSw
      go_simp
      try with_reducible rfl
    try simp only [Act.put, List.setIfInBounds_toArray, List.set_cons_zero, List.set_cons_succ]
    refine wpAnyH_ready (rs := [26]) (by kernel_rfl) (by simp) ?_
    refine (AllReadyH.cons (o := { dst := none, op := Op.store 23 (Operand.tmp 29) (Operand.tmp 28), type := 0, pos := "prog.go:150", after := #[{ on := 25, ground := Ground.data }, { on := 24, ground := Ground.data }, { on := 24, ground := Ground.chain }, { on := 0, ground := Ground.phase }, { on := 1, ground := Ground.phase }, { on := 2, ground := Ground.phase }, { on := 3, ground := Ground.phase }, { on := 4, ground := Ground.phase }, { on := 5, ground := Ground.phase }, { on := 6, ground := Ground.phase }, { on := 7, ground := Ground.phase }, { on := 8, ground := Ground.phase }, { on := 9, ground := Ground.phase }, { on := 10, ground := Ground.phase }, { on := 11, ground := Ground.phase }, { on := 12, ground := Ground.phase }, { on := 13, ground := Ground.phase }, { on := 14, ground := Ground.phase }, { on := 15, ground := Ground.phase }, { on := 16, ground := Ground.phase }, { on := 17, ground := Ground.phase }, { on := 18, ground := Ground.phase }, { on := 19, ground := Ground.phase }, { on := 20, ground := Ground.phase }, { on := 21, ground := Ground.phase }, { on := 22, ground := Ground.phase }, { on := 23, ground := Ground.phase }, { on := 24, ground := Ground.phase }], guard := none }) rfl (fun K hK => ?_) AllReadyH.nil)
    have hblk := hC6.regs.blk
    have d8 : w6.frozen? ⟨M, dst, none⟩ = false := frozen_of_row _ _ _ _ _ hblk
    have d9 := cellAt hblk dst _ (slF_at hd)
    go_simp
    refine hK.out _ _ ?_ (fun hHeld => ?_)
    · exact grownBy_setCell hS6 _
    clear hK K
    try simp only [Act.put, List.setIfInBounds_toArray, List.set_cons_zero, List.set_cons_succ]
    refine wpAnyH_done (by kernel_rfl) ?_ _
    refine NoPanic.normal ?_
    have HP : Hid _ := hC6.put hd (a := some ⟨q6, 0, none⟩) (m := n) (v := fun b => ga (R (dst : Int) b) (gm c (R (src : Int) b))) hr6 (Nat.le_refl _) (fun e => by cases e)
    have HPB : Hid _ := (((HBW.out.mono hBw).drew).trans (hb6.mono (by have := HBW.out.size; simp; omega))).setCell (p := ⟨M, dst, none⟩) HCW.out.hM (.slice (some ⟨q6, 0, none⟩) n n)
    go_wp2
    exact ⟨rfl, .tuple #[], by simp [results, Tryz.results146, go_sem], rfl, ⟨_, _, HP.out, rfl⟩, HPB.out⟩
  · have m23 := cellAt HCW.out.drew.regs.blk src _ (slF_at ‹src < rg›)
    go_simp
    refine hK.out _ _ ?_ (fun hHeld => ?_)
    · exact grownBy_drew (World.grownBy.refl _ _)
    clear hK K
    try simp only [Act.put, List.setIfInBounds_toArray, List.set_cons_zero, List.set_cons_succ]
    refine wpAnyH_ready (rs := [13]) (by kernel_rfl) (by simp) ?_
    refine (AllReadyH.cons (o := { dst := some 17, op := Op.load 23 (Operand.tmp 16), type := 23, pos := "prog.go:150", after := #[{ on := 12, ground := Ground.data }], guard := none }) rfl (fun K hK => ?_) AllReadyH.nil)
    have m13 := cellAt HCW.out.drew.regs.blk dst _ (slF_at ‹dst < rg›)
    go_simp
    refine hK.out _ _ ?_ (fun hHeld => ?_)
    · exact grownBy_drew (World.grownBy.refl _ _)
    clear hK K
    try simp only [Act.put, List.setIfInBounds_toArray, List.set_cons_zero, List.set_cons_succ]
    refine wpAnyH_ready (rs := [24]) (by kernel_rfl) (by simp) ?_
    refine (AllReadyH.cons (o := { dst := some 28, op := Op.call { callee := Callee.value (Operand.func 122), args := #[Operand.tmp 17, Operand.tmp 19, Operand.tmp 27], argTypes := #[23, 5, 23] }, type := 23, pos := "prog.go:150", after := #[{ on := 13, ground := Ground.data }, { on := 15, ground := Ground.data }, { on := 23, ground := Ground.data }], guard := none }) rfl (fun K hK => ?_) AllReadyH.nil)
    go_simp
    refine Calls.mono (addScaled_R c _ _ n _ _ _ _ _ (by omega) (HCW.out.drew.regs.row dst hd).row8 (HCW.out.drew.regs.row src hs).row8) ?_
    rintro e w6 ⟨q6, rfl, hb6, hr6, hg6⟩
    have hC6 := HCW.out.drew.below hb6
    have hS6 : W.grownBy w6 (some M) := grown_below (grownBy_drew (World.grownBy.refl _ _)) hb6
    go_wp2_with fail
    refine hK.out _ _ ?_ (fun hHeld => ?_)
    · exact hS6
    clear hK K
    try simp only [Act.put, List.setIfInBounds_toArray, List.set_cons_zero, List.set_cons_succ]
    refine wpAnyH_take (i := 25) (oi := { dst := some 29, op := Op.indexAddr 49 (Operand.tmp 7) (Operand.tmp 9), type := 0, pos := "prog.go:150", after := #[{ on := 3, ground := Ground.data }, { on := 5, ground := Ground.data }, { on := 0, ground := Ground.phase }, { on := 1, ground := Ground.phase }, { on := 2, ground := Ground.phase }, { on := 3, ground := Ground.phase }, { on := 4, ground := Ground.phase }, { on := 5, ground := Ground.phase }, { on := 6, ground := Ground.phase }, { on := 7, ground := Ground.phase }, { on := 8, ground := Ground.phase }, { on := 9, ground := Ground.phase }, { on := 10, ground := Ground.phase }, { on := 11, ground := Ground.phase }, { on := 12, ground := Ground.phase }, { on := 13, ground := Ground.phase }, { on := 14, ground := Ground.phase }, { on := 15, ground := Ground.phase }, { on := 16, ground := Ground.phase }, { on := 17, ground := Ground.phase }, { on := 18, ground := Ground.phase }, { on := 19, ground := Ground.phase }, { on := 20, ground := Ground.phase }, { on := 21, ground := Ground.phase }, { on := 22, ground := Ground.phase }, { on := 23, ground := Ground.phase }, { on := 24, ground := Ground.phase }], guard := none }) (v := ?_) rfl (by kernel_rfl) (by kernel_rfl) (by kernel_rfl) (fun _ _ _ h => h) (Or.inl ⟨by rfl, ?_⟩) hHeld ?_
    rotate_left
    · intro u hSw
      go_simp
      try with_reducible rfl
    try simp only [Act.put, List.setIfInBounds_toArray, List.set_cons_zero, List.set_cons_succ]
    refine wpAnyH_ready (rs := [26]) (by kernel_rfl) (by simp) ?_
    refine (AllReadyH.cons (o := { dst := none, op := Op.store 23 (Operand.tmp 29) (Operand.tmp 28), type := 0, pos := "prog.go:150", after := #[{ on := 25, ground := Ground.data }, { on := 24, ground := Ground.data }, { on := 24, ground := Ground.chain }, { on := 0, ground := Ground.phase }, { on := 1, ground := Ground.phase }, { on := 2, ground := Ground.phase }, { on := 3, ground := Ground.phase }, { on := 4, ground := Ground.phase }, { on := 5, ground := Ground.phase }, { on := 6, ground := Ground.phase }, { on := 7, ground := Ground.phase }, { on := 8, ground := Ground.phase }, { on := 9, ground := Ground.phase }, { on := 10, ground := Ground.phase }, { on := 11, ground := Ground.phase }, { on := 12, ground := Ground.phase }, { on := 13, ground := Ground.phase }, { on := 14, ground := Ground.phase }, { on := 15, ground := Ground.phase }, { on := 16, ground := Ground.phase }, { on := 17, ground := Ground.phase }, { on := 18, ground := Ground.phase }, { on := 19, ground := Ground.phase }, { on := 20, ground := Ground.phase }, { on := 21, ground := Ground.phase }, { on := 22, ground := Ground.phase }, { on := 23, ground := Ground.phase }, { on := 24, ground := Ground.phase }], guard := none }) rfl (fun K hK => ?_) AllReadyH.nil)
    have hblk := hC6.regs.blk
    have d8 : w6.frozen? ⟨M, dst, none⟩ = false := frozen_of_row _ _ _ _ _ hblk
    have d9 := cellAt hblk dst _ (slF_at hd)
    go_simp
    refine hK.out _ _ ?_ (fun hHeld => ?_)
    · exact grownBy_setCell hS6 _
    clear hK K
    try simp only [Act.put, List.setIfInBounds_toArray, List.set_cons_zero, List.set_cons_succ]
    refine wpAnyH_done (by kernel_rfl) ?_ _
    refine NoPanic.normal ?_
    have HP : Hid _ := hC6.put hd (a := some ⟨q6, 0, none⟩) (m := n) (v := fun b => ga (R (dst : Int) b) (gm c (R (src : Int) b))) hr6 (Nat.le_refl _) (fun e => by cases e)
    have HPB : Hid _ := (((HBW.out.mono hBw).drew).trans (hb6.mono (by have := HBW.out.size; simp; omega))).setCell (p := ⟨M, dst, none⟩) HCW.out.hM (.slice (some ⟨q6, 0, none⟩) n n)
    go_wp2
    exact ⟨rfl, .tuple #[], by simp [results, Tryz.results146, go_sem], rfl, ⟨_, _, HP.out, rfl⟩, HPB.out⟩
set_option maxRecDepth 100000 in
set_option maxHeartbeats 4000000 in
theorem does_out (B cb M Q n rg no : Nat) (f : Nat → Option Addr × Nat) (g : Nat → Option (Option Addr × Nat)) (R O : Regs) (op : Int) (dst : Nat) (src : Nat) (cv : Int) (hd : dst < no) (hs : src < rg) (w : World) (hn : n ≤ 64) (hrg : rg ≤ 64) (hno : no ≤ 64) (hBw : B ≤ w.heap.size) (h : CmbW B w cb M Q n rg no f g R O) :
    Calls Tryz.prog 148 #[.pointer (some ⟨cb, 0, none⟩), .agg #[.int .i64 op, .int .i64 (dst : Int), .int .i64 (src : Int), .int .u8 cv]] w fun e w' => e = .returned (.tuple #[]) ∧ (∃ f' g', CmbW B w' cb M Q n rg no f' g' (R) (setR O (dst : Int) (R (src : Int))) ∧ g' = (fun x => if x = dst then some (f src) else g x)) ∧ Below B w w' := by
  obtain ⟨W, hW⟩ : ∃ W, W = w.alloc (.cells #[.int .i64 op, .int .i64 (dst : Int), .int .i64 (src : Int), .int .u8 cv] 105) := ⟨_, rfl⟩
  have hBW : Below w.heap.size w W := by rw [hW]; exact (Below.refl _ _).alloc (Nat.le_refl _) _
  have hbox : W.heap[w.heap.size]? = some (.cells #[.int .i64 op, .int .i64 (dst : Int), .int .i64 (src : Int), .int .u8 cv] 105 (0, 0)) := by rw [hW]; exact heap_alloc_last _ _
  have HNE : Hid (w.heap.size ≠ Q) := by have := ltHeap h.outs; show _ ≠ _; omega
  have HCW : Hid _ := h.below hBW
  have HBOX : Hid _ := hbox
  have HBW : Hid _ := hBW
  have HWE : Hid _ := hW
  clear h hBW hbox hW
  go_enter Tryz.func148, Tryz.ntmps148
  go_wp2
  rw [← HWE.out]
  clear HWE
  have k1 := cellAt HCW.out.blk 1 _ rfl
  have k2 := cellAt HCW.out.blk 2 _ rfl
  have k3 := cellAt HBOX.out 1 _ rfl
  have k4 := cellAt HBOX.out 2 _ rfl
  have k5 := cellAt HCW.out.regs.blk src _ (slF_at hs)
  have k6 := cellAt HCW.out.outs dst _ (slO_at hd)
  have k7 : W.frozen? ⟨Q, dst, none⟩ = false := frozen_of_row _ _ _ _ _ HCW.out.outs
  go_region
  have HP : Hid _ := HCW.out.drew.putO hd hs
  have HPB : Hid _ := ((HBW.out.mono hBw).drew).setCell (p := ⟨Q, dst, none⟩) HCW.out.hQ (.slice (f src).1 n (f src).2)
  clear k1 k2 k3 k4 k5 k6 k7
  go_wp2
  exact ⟨rfl, .tuple #[], by simp [results, Tryz.results148, go_sem], rfl, ⟨_, _, HP.out, rfl⟩, HPB.out⟩
end Go.Proofs.YtkoakingmnjdoaaGreatDoor
