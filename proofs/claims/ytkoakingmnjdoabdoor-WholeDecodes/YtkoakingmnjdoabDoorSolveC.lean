/- slices.Concat of two lists of elements: a list of one's own, or none where both are empty. -/
import Derived.Test.YtkoakingmnjdoabDoorSolveM
import Derived.Test.YtkoakingmnjdoabDoorNumBytes
import Derived.Lib.AppendZeros
namespace Go.Proofs.YtkoakingmnjdoabDoor
open Go.RowKit Gf
set_option linter.unusedVariables false
set_option maxRecDepth 20000
theorem append_none (a : Option Addr) (c : Nat) (w : World) (ty : TypeId) (hnil : a = none → c = 0) :
    (Builtin.append_ #[22, 22] ty #[.slice none 0 0, .slice a 0 c]).run Tryd.prog w = .ok (.slice none 0 0) w := by
  obtain ⟨i, hi, h1, h2, h3⟩ := info8
  cases a <;> simp [Builtin.append_, run_underlying Tryd.underlying22, sizeOf, typeInfo, hi, Builtin.lenOf, Builtin.firstCells, loadCells, loadCellsFrom]
theorem zeroCells_one (n : Nat) : Builtin.zeroCells (Value.int .u8 0).cells n = vfs (zeros n) := by
  apply Array.ext_getElem?
  intro i
  by_cases h : i < n <;> simp [Builtin.zeroCells, vfs, zeros, vf, Value.cells, h, Nat.mod_one]
theorem zeroCells8 (n m : Nat) : Builtin.zeroCells (Value.int .u8 0).cells n ++ Builtin.zeroCells (Value.int .u8 0).cells m = vfs (zeros (n + m)) := by
  rw [zeroCells_one, zeroCells_one]
  simp only [vfs, zeros, ← List.replicate_append_replicate, List.map_append, List.append_toArray]
theorem wpList_append_run2 {P : Program} {w : World} {ops : Array Oper} {rest : List Oper} {o : Oper} {a : Act} {Q : Exit → Act → World → Prop} (hgd : o.guard = none) (s x : Operand) (t t2 : TypeId)
    (ho : o.op = .call { callee := .builtin .append, args := #[s, x], argTypes := #[t, t2] }) (v u r : Value) (w' : World) (hs : a.eval s = v) (hx : a.eval x = u)
    (hr : (Builtin.append_ #[t, t2] o.type #[v, u]).run P w = .ok r w') (h : wpList P ops Q rest (a.put o.dst r) w') : wpList P ops Q (o :: rest) a w := by
  refine wpList_plain hgd fun K hK => ?_
  unfold Oper.wp execOp
  simp only [ho, resolve, invoke, builtin, Sem.run_bind, Sem.run_pure, Result.andThen_ok, List.map_toArray, List.map_cons, List.map_nil, hs, hx, hr]
  exact hK _ _ h
set_option maxHeartbeats 4000000 in
theorem grow_none (w : World) : Calls Tryd.prog 55 #[.slice none 0 0, .int .i64 0] w fun e w' => e = .returned (.slice none 0 0) ∧ w = w' := by
  go_enter Tryd.func55, Tryd.ntmps55
  go_wp2
  go_ret
  exact ⟨rfl, rfl⟩
set_option maxHeartbeats 4000000 in
theorem grow_some (n : Nat) (w : World) (h0 : 0 < n) (hn : n ≤ 4096) : Calls Tryd.prog 55 #[.slice none 0 0, .int .i64 n] w fun e w' =>
    ∃ G, n ≤ G ∧ e = .returned (.slice (some ⟨w.heap.size, 0, none⟩) 0 G) ∧ w' = w.drew.alloc (.cells (vfs (zeros G)) 5) := by
  obtain ⟨i, hi, h1, h2, h3⟩ := info8
  have hrun := fun ty => Lib.run_append_nil_zeros (P := Tryd.prog) w 22 3 ty 5 i _ .i64 .i64 Tryd.underlying22 Tryd.underlying3 hi h3 n h0 (by omega) (by omega) (by rw [h2]; omega)
  have hG : n ≤ grownCap w n 0 5 := grownCap_ge w _ _ _
  have hG2 := grownCap_le_maxLen w n 0 5 (by unfold maxLen; omega)
  obtain ⟨G, hGe⟩ : ∃ G, G = grownCap w n 0 5 := ⟨_, rfl⟩
  rw [← hGe] at hrun hG hG2
  have hz : n + (G - n) = G := by omega
  simp only [zeroCells8, hz] at hrun
  have HRun : Hid _ := hrun
  unfold maxLen at hG2
  clear hrun hGe hi h1 h2 h3 hz
  go_enter Tryd.func55, Tryd.ntmps55
  go_wp2_with (at_builtin; refine wpList_append_run2 rfl _ _ 22 3 rfl _ _ _ _ rfl rfl (HRun.out _) ?_)
  all_goals (go_ret; exact ⟨G, hG, rfl, rfl⟩)
/-- of two lengths: that of the first k -/
def two (la lb k : Nat) : Nat := if k = 0 then 0 else if k = 1 then la else la + lb
set_option maxHeartbeats 4000000 in
theorem concat_none (B : Nat) (a b : Option Addr) (ca cb : Nat) (w : World) (hB : w.heap[B]? = some (.cells #[.slice a 0 ca, .slice b 0 cb] 22 (0, 0))) (hna : a = none → ca = 0) (hnb : b = none → cb = 0) :
    Calls Tryd.prog 51 #[.slice (some ⟨B, 0, none⟩) 2 2] w fun e w' => e = .returned (.slice none 0 0) ∧ Below w.heap.size w w' := by
  have c1 := cellAt hB 0 _ rfl
  have c2 := cellAt hB 1 _ rfl
  have r1 := append_none a ca w 22 hna
  have r2 := append_none b cb w 22 hnb
  have R1 : Hid _ := r1
  have R2 : Hid _ := r2
  clear r1 r2 hB hna hnb
  go_enter Tryd.func51, Tryd.ntmps51
  go_wp2
  go_loopw [3, 11] (fun s i wr => ∃ k : Nat, k ≤ 2 ∧ i = .int .i64 k ∧ s = .int .i64 0 ∧ wr = w) (fun _ i _ => 2 - (intOf i).toNat)
  case atStart => exact ⟨0, by omega, rfl, rfl, rfl⟩
  case round =>
    obtain ⟨k, hk, rfl, rfl, rfl⟩ := hrel
    rcases (show k = 0 ∨ k = 1 ∨ k = 2 by omega) with rfl | rfl | rfl
    · go_wp2
      exact ⟨⟨1, by omega, by go_num, by first | rfl | trivial, by first | rfl | trivial⟩, by simp [intOf]⟩
    · go_wp2
      exact ⟨⟨2, by omega, by go_num, by first | rfl | trivial, by first | rfl | trivial⟩, by simp [intOf]⟩
    · go_wp2_with fail
      refine Calls.mono (grow_none _) ?_
      rintro e w2 ⟨rfl, hw2⟩
      subst hw2
      go_wp2
      go_loopw [6, 27] (fun s i wq => ∃ k : Nat, k ≤ 2 ∧ i = .int .i64 k ∧ s = .slice none 0 0 ∧ wq = wr) (fun _ i _ => 2 - (intOf i).toNat)
      case atStart => exact ⟨0, by omega, rfl, rfl, rfl⟩
      case round =>
        obtain ⟨k, hk, rfl, rfl, rfl⟩ := hrel
        rcases (show k = 0 ∨ k = 1 ∨ k = 2 by omega) with rfl | rfl | rfl
        · go_wp2_with (at_builtin; refine wpList_append_run rfl _ _ 22 rfl _ _ _ _ rfl rfl R1.out ?_)
          exact ⟨⟨1, by omega, by go_num, by first | rfl | trivial, by first | rfl | trivial⟩, by simp [intOf]⟩
        · go_wp2_with (at_builtin; refine wpList_append_run rfl _ _ 22 rfl _ _ _ _ rfl rfl R2.out ?_)
          exact ⟨⟨2, by omega, by go_num, by first | rfl | trivial, by first | rfl | trivial⟩, by simp [intOf]⟩
        · go_wp2
          go_ret
          exact ⟨rfl, Below.refl _ _⟩
set_option maxHeartbeats 4000000 in
theorem concat_some (B : Nat) (a b : Option Addr) (la ca lb cb : Nat) (xs ys : List F) (w : World) (hB : w.heap[B]? = some (.cells #[.slice a la ca, .slice b lb cb] 22 (0, 0))) (hna : a = none → ca = 0) (hnb : b = none → cb = 0)
    (hla : la = xs.length) (hlb : lb = ys.length) (h6 : la ≤ 64) (h7 : lb ≤ 64) (h0 : 0 < la + lb) (hX : Row8 w a xs) (hY : Row8 w b ys) :
    Calls Tryd.prog 51 #[.slice (some ⟨B, 0, none⟩) 2 2] w fun e w' => ∃ G, la + lb ≤ G ∧ e = .returned (.slice (some ⟨w.heap.size, 0, none⟩) (la + lb) G) ∧ Below w.heap.size w w' ∧ w'.heap[w.heap.size]? = some (.cells (vfs (xs ++ ys ++ zeros (G - (la + lb)))) 5 (0, 0)) := by
  have c1 := cellAt hB 0 _ rfl
  have c2 := cellAt hB 1 _ rfl
  have HB : Hid _ := hB
  have HNA : Hid _ := hna
  have HNB : Hid _ := hnb
  have HLA : Hid _ := hla
  have HLB : Hid _ := hlb
  have HX : Hid _ := hX
  have HY : Hid _ := hY
  clear hB hna hnb hla hlb hX hY
  go_enter Tryd.func51, Tryd.ntmps51
  go_wp2
  go_loopw [3, 11] (fun s i wr => ∃ k : Nat, k ≤ 2 ∧ i = .int .i64 k ∧ s = .int .i64 (two la lb k : Nat) ∧ wr = w) (fun _ i _ => 2 - (intOf i).toNat)
  case atStart => exact ⟨0, by omega, rfl, rfl, rfl⟩
  case round =>
    obtain ⟨k, hk, rfl, rfl, rfl⟩ := hrel
    rcases (show k = 0 ∨ k = 1 ∨ k = 2 by omega) with rfl | rfl | rfl
    · have e0 : ((two la lb 0 : Nat) : Int) = 0 := rfl
      rw [e0]
      clear e0
      go_wp2
      exact ⟨⟨1, by omega, by go_num, by first | (simp [two]; done) | trivial, by first | rfl | trivial⟩, by simp [intOf]⟩
    · have e0 : ((two la lb 1 : Nat) : Int) = (la : Int) := rfl
      rw [e0]
      clear e0
      go_wp2
      exact ⟨⟨2, by omega, by go_num, by first | (simp [two]; done) | trivial, by first | rfl | trivial⟩, by simp [intOf]⟩
    · have e0 : ((two la lb 2 : Nat) : Int) = ((la + lb : Nat) : Int) := rfl
      rw [e0]
      clear e0
      go_wp2_with fail
      refine Calls.mono (grow_some (la + lb) _ h0 (by omega)) ?_
      rintro e w2 ⟨G, hG, rfl, hw2⟩
      have hb2 : Below wr.heap.size wr w2 := by rw [hw2]; exact (Below.refl _ _).drew.alloc (Nat.le_refl _) _
      have hh2 : w2.heap[wr.heap.size]? = some (.cells (vfs (zeros G)) 5 (0, 0)) := by rw [hw2]; exact heap_alloc_last wr.drew _
      have r1 := run_append8_room (w := w2) (g := wr.heap.size) (n := 0) (cap := G) (xs := []) (old := zeros G) (ys := xs) (a := a) (m := la) (c := ca) 22 hh2 rfl (by omega) HLA.out (by rw [zeros_len, ← HLA.out]; omega) (row8_below HX.out hb2) HNA.out
      rw [List.nil_append, Nat.zero_add] at r1
      have hh3 := setRow_heap _ _ _ (vfs (xs ++ (zeros G).drop xs.length)) _ _ hh2
      have hb3 : Below wr.heap.size wr (w2.setRow wr.heap.size (vfs (xs ++ (zeros G).drop xs.length))) := below_row hb2 (Nat.le_refl _) _
      have r2 := run_append8_room (w := w2.setRow wr.heap.size (vfs (xs ++ (zeros G).drop xs.length))) (g := wr.heap.size) (n := la) (cap := G) (xs := xs) (old := (zeros G).drop xs.length) (ys := ys) (a := b) (m := lb) (c := cb) 22 hh3 HLA.out (by omega) HLB.out (by rw [zeros_drop, zeros_len, ← HLA.out, ← HLB.out]; omega) (row8_below HY.out hb3) HNB.out
      have hh4 := setRow_heap _ _ _ (vfs (xs ++ ys ++ ((zeros G).drop xs.length).drop ys.length)) _ _ hh3
      have hb4 : Below wr.heap.size wr ((w2.setRow wr.heap.size (vfs (xs ++ (zeros G).drop xs.length))).setRow wr.heap.size (vfs (xs ++ ys ++ ((zeros G).drop xs.length).drop ys.length))) := below_row hb3 (Nat.le_refl _) _
      have R1 : Hid _ := r1
      have R2 : Hid _ := r2
      have HH4 : Hid _ := hh4
      have HB4 : Hid _ := hb4
      have c3 := cellAt (heap_later HB.out hb2) 0 _ rfl
      have c4 := cellAt (heap_later HB.out hb3) 1 _ rfl
      clear r1 r2 hh2 hh3 hh4 hb2 hb3 hb4 hw2
      go_wp2
      go_loopw [6, 27] (fun s i wq => ∃ k : Nat, k ≤ 2 ∧ i = .int .i64 k ∧ s = .slice (some ⟨wr.heap.size, 0, none⟩) (two la lb k) G ∧ wq = if k = 0 then w2 else if k = 1 then (w2.setRow wr.heap.size (vfs (xs ++ (zeros G).drop xs.length))) else ((w2.setRow wr.heap.size (vfs (xs ++ (zeros G).drop xs.length))).setRow wr.heap.size (vfs (xs ++ ys ++ ((zeros G).drop xs.length).drop ys.length)))) (fun _ i _ => 2 - (intOf i).toNat)
      case atStart => exact ⟨0, by omega, rfl, rfl, rfl⟩
      case round =>
        obtain ⟨k, hk, rfl, rfl, hw⟩ := hrel
        rcases (show k = 0 ∨ k = 1 ∨ k = 2 by omega) with rfl | rfl | rfl
        · rw [if_pos rfl] at hw
          subst hw
          have e0 : two la lb 0 = 0 := rfl
          rw [e0]
          clear e0
          go_wp2_with (at_builtin; refine wpList_append_run rfl _ _ 22 rfl _ _ _ _ rfl rfl R1.out ?_)
          exact ⟨⟨1, by omega, by go_num, by first | rfl | trivial, rfl⟩, by simp [intOf]⟩
        · rw [if_neg (by omega), if_pos rfl] at hw
          have e0 : two la lb 1 = la := rfl
          rw [e0]
          clear e0
          rw [← hw] at c4 R2
          have HW : Hid _ := hw
          clear hw
          go_wp2_with (at_builtin; refine wpList_append_run rfl _ _ 22 rfl _ _ _ _ rfl rfl R2.out ?_)
          exact ⟨⟨2, by omega, by go_num, by first | rfl | trivial, by rw [if_neg (by omega), if_neg (by omega), HW.out, List.append_assoc xs ys, List.drop_drop]⟩, by simp [intOf]⟩
        · rw [if_neg (by omega), if_neg (by omega)] at hw
          have HW : Hid _ := hw
          clear hw
          have e0 : two la lb 2 = la + lb := rfl
          rw [e0]
          clear e0
          go_wp2
          go_ret
          refine ⟨G, hG, rfl, by rw [HW.out]; exact HB4.out, ?_⟩
          rw [HW.out]
          have e : ((zeros G).drop xs.length).drop ys.length = zeros (G - (la + lb)) := by rw [List.drop_drop, zeros_drop, ← HLA.out, ← HLB.out]
          rw [← e]
          exact HH4.out
/-- a row of a matrix and one of another, one behind the other -/
theorem concat_F (B : Nat) (a b : Option Addr) (la ca lb cb : Nat) (f g : Nat → F) (w : World) (hB : w.heap[B]? = some (.cells #[.slice a la ca, .slice b lb cb] 22 (0, 0))) (hna : a = none → ca = 0) (hnb : b = none → cb = 0)
    (h6 : la ≤ 64) (h7 : lb ≤ 64) (hX : Row8 w a (rowF la f)) (hY : Row8 w b (rowF lb g)) :
    Calls Tryd.prog 51 #[.slice (some ⟨B, 0, none⟩) 2 2] w fun e w' => ∃ q G, e = .returned (.slice q (la + lb) G) ∧ la + lb ≤ G ∧ (q = none → G = 0) ∧ Below w.heap.size w w' ∧
      Row8T w' q (rowF (la + lb) fun j => if j < la then f j else g (j - la)) := by
  by_cases h0 : la + lb = 0
  · obtain rfl : la = 0 := by omega
    obtain rfl : lb = 0 := by omega
    exact (concat_none B a b ca cb w hB hna hnb).mono fun e w' ⟨he, hb⟩ => ⟨none, 0, he, by omega, fun _ => rfl, hb, .inl rfl⟩
  · refine (concat_some B a b la ca lb cb _ _ w hB hna hnb (rowF_len _ _).symm (rowF_len _ _).symm h6 h7 (by omega) hX hY).mono fun e w' ⟨G, hG, he, hb, hh⟩ => ⟨_, G, he, hG, (fun h => by cases h), hb, ?_⟩
    have e1 : rowF (la + lb) (fun j => if j < la then f j else g (j - la)) = rowF la f ++ rowF lb g := (rowF_eq (by simp [rowF_len]) fun j hj => by
      by_cases h : j < la
      · rw [if_pos h, at8_left (by rw [rowF_len]; exact h), at8_rowF h]
      · rw [if_neg h, at8_right (by rw [rowF_len]; omega), rowF_len, at8_rowF (by omega)]).symm
    rw [e1]
    refine .inr ⟨w.heap.size, 0, _, _, rfl, hh, fun j hj => ?_⟩
    rw [Nat.zero_add, ← at8_left (ys := zeros (G - (la + lb))) hj]
    exact cellAt hh j _ (vfs_get _ _ (by rw [List.length_append]; omega))
end Go.Proofs.YtkoakingmnjdoabDoor
