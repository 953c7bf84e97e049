/- Which steps the program takes for steps in form: its table's checks. -/
import Derived.Test.YtkoakingmnjdoaaGreatDoorStepO
import Derived.Test.YtkoakingmnjdoaaGreatDoorStepF
namespace Go.Proofs.YtkoakingmnjdoaaGreatDoor
open Go.RowKit Gf
set_option linter.unusedVariables false
set_option maxRecDepth 20000
set_option linter.unusedSimpArgs false
theorem pthere_F (x n : Int) (w : World) : Calls Tryz.prog 107 #[.int .i64 x, .int .i64 n] w fun e w' => e = .returned (.bool (decide (0 ≤ x ∧ x < n))) ∧ w = w' := by
  obtain ⟨d, hd⟩ : ∃ d, d = decide (0 ≤ x ∧ x < n) := ⟨_, rfl⟩
  rw [← hd]
  by_cases h0 : 0 ≤ x
  · by_cases h1 : x < n
    · have E : Hid (d = true) := by show _ = _; rw [hd]; exact decide_eq_true ⟨h0, h1⟩
      clear hd
      go_enter Tryz.func107, Tryz.ntmps107
      go_wp2
      go_ret
      exact ⟨by rw [E.out]; rfl, rfl⟩
    · have E : Hid (d = false) := by show _ = _; rw [hd]; exact decide_eq_false (fun h => h1 h.2)
      clear hd
      go_enter Tryz.func107, Tryz.ntmps107
      go_wp2
      go_ret
      exact ⟨by rw [E.out]; rfl, rfl⟩
  · have E : Hid (d = false) := by show _ = _; rw [hd]; exact decide_eq_false (fun h => h0 h.1)
    clear hd
    go_enter Tryz.func107, Tryz.ntmps107
    go_wp2
    go_ret
    exact ⟨by rw [E.out]; rfl, rfl⟩
set_option maxHeartbeats 2000000 in
theorem fit_load (ni no rg op dst src cv : Int) (w : World) : Calls Tryz.prog 139 #[.agg #[.int .i64 ni, .int .i64 no, .int .i64 rg], .agg #[.int .i64 op, .int .i64 dst, .int .i64 src, .int .u8 cv]] w fun e w' => e = .returned (.bool (decide ((0 ≤ dst ∧ dst < rg) ∧ (0 ≤ src ∧ src < ni) ∧ cv = 0))) ∧ Below w.heap.size w w' := by
  obtain ⟨d, hd⟩ : ∃ d, d = decide ((0 ≤ dst ∧ dst < rg) ∧ (0 ≤ src ∧ src < ni) ∧ cv = 0) := ⟨_, rfl⟩
  have HY : Hid ((0 ≤ dst ∧ dst < rg) ∧ (0 ≤ src ∧ src < ni) ∧ cv = 0 → d = true) := fun h => by rw [hd]; exact decide_eq_true h
  have HN : Hid (¬ ((0 ≤ dst ∧ dst < rg) ∧ (0 ≤ src ∧ src < ni) ∧ cv = 0) → d = false) := fun h => by rw [hd]; exact decide_eq_false h
  rw [← hd]
  clear hd
  have HB : Below w.heap.size w ((w.alloc (.cells #[.int .i64 ni, .int .i64 no, .int .i64 rg] 159)).alloc (.cells #[.int .i64 op, .int .i64 dst, .int .i64 src, .int .u8 cv] 105)) := ((Below.refl w.heap.size w).alloc (Nat.le_refl _) _).alloc (by simp) _
  by_cases q0 : 0 ≤ dst ∧ dst < rg
  · by_cases q1 : 0 ≤ src ∧ src < ni
    · by_cases rc : cv = 0
      · have E : Hid (d = true) := HY.out ⟨q0, q1, rc⟩
        subst rc
        have HBB : Hid _ := HB
        clear HB HY HN
        go_enter Tryz.func139, Tryz.ntmps139
        go_wp2_with fail
        refine Calls.mono (pthere_F dst rg _) ?_
        rw [decide_eq_true q0]
        rintro e w0 ⟨rfl, rfl⟩
        go_wp2_with fail
        refine Calls.mono (pthere_F src ni _) ?_
        rw [decide_eq_true q1]
        rintro e w1 ⟨rfl, rfl⟩
        go_wp2
        go_ret
        exact ⟨by rw [E.out]; first | rfl | (show Ending.returned (Value.bool (_ == _)) = _; rw [hne]), HBB.out⟩
      · have E : Hid (d = false) := HN.out (fun h => rc h.2.2)
        have hne := beq_eq_false_iff_ne.2 rc
        have HBB : Hid _ := HB
        clear HB HY HN
        go_enter Tryz.func139, Tryz.ntmps139
        go_wp2_with fail
        refine Calls.mono (pthere_F dst rg _) ?_
        rw [decide_eq_true q0]
        rintro e w0 ⟨rfl, rfl⟩
        go_wp2_with fail
        refine Calls.mono (pthere_F src ni _) ?_
        rw [decide_eq_true q1]
        rintro e w1 ⟨rfl, rfl⟩
        go_wp2
        go_ret
        exact ⟨by rw [E.out]; first | rfl | (show Ending.returned (Value.bool (_ == _)) = _; rw [hne]), HBB.out⟩
    · have E : Hid (d = false) := HN.out (fun h => q1 h.2.1)
      have HBB : Hid _ := HB
      clear HB HY HN
      go_enter Tryz.func139, Tryz.ntmps139
      go_wp2_with fail
      refine Calls.mono (pthere_F dst rg _) ?_
      rw [decide_eq_true q0]
      rintro e w0 ⟨rfl, rfl⟩
      go_wp2_with fail
      refine Calls.mono (pthere_F src ni _) ?_
      rw [decide_eq_false q1]
      rintro e w1 ⟨rfl, rfl⟩
      go_wp2
      go_ret
      exact ⟨by rw [E.out]; first | rfl | (show Ending.returned (Value.bool (_ == _)) = _; rw [hne]), HBB.out⟩
  · have E : Hid (d = false) := HN.out (fun h => q0 h.1)
    have HBB : Hid _ := HB
    clear HB HY HN
    go_enter Tryz.func139, Tryz.ntmps139
    go_wp2_with fail
    refine Calls.mono (pthere_F dst rg _) ?_
    rw [decide_eq_false q0]
    rintro e w0 ⟨rfl, rfl⟩
    go_wp2
    go_ret
    exact ⟨by rw [E.out]; first | rfl | (show Ending.returned (Value.bool (_ == _)) = _; rw [hne]), HBB.out⟩
set_option maxHeartbeats 2000000 in
theorem fit_zero (ni no rg op dst src cv : Int) (w : World) : Calls Tryz.prog 141 #[.agg #[.int .i64 ni, .int .i64 no, .int .i64 rg], .agg #[.int .i64 op, .int .i64 dst, .int .i64 src, .int .u8 cv]] w fun e w' => e = .returned (.bool (decide ((0 ≤ dst ∧ dst < rg) ∧ src = 0 ∧ cv = 0))) ∧ Below w.heap.size w w' := by
  obtain ⟨d, hd⟩ : ∃ d, d = decide ((0 ≤ dst ∧ dst < rg) ∧ src = 0 ∧ cv = 0) := ⟨_, rfl⟩
  have HY : Hid ((0 ≤ dst ∧ dst < rg) ∧ src = 0 ∧ cv = 0 → d = true) := fun h => by rw [hd]; exact decide_eq_true h
  have HN : Hid (¬ ((0 ≤ dst ∧ dst < rg) ∧ src = 0 ∧ cv = 0) → d = false) := fun h => by rw [hd]; exact decide_eq_false h
  rw [← hd]
  clear hd
  have HB : Below w.heap.size w ((w.alloc (.cells #[.int .i64 ni, .int .i64 no, .int .i64 rg] 159)).alloc (.cells #[.int .i64 op, .int .i64 dst, .int .i64 src, .int .u8 cv] 105)) := ((Below.refl w.heap.size w).alloc (Nat.le_refl _) _).alloc (by simp) _
  by_cases q0 : 0 ≤ dst ∧ dst < rg
  · by_cases rs : src = 0
    · by_cases rc : cv = 0
      · have E : Hid (d = true) := HY.out ⟨q0, rs, rc⟩
        subst rs
        subst rc
        have HBB : Hid _ := HB
        clear HB HY HN
        go_enter Tryz.func141, Tryz.ntmps141
        go_wp2_with fail
        refine Calls.mono (pthere_F dst rg _) ?_
        rw [decide_eq_true q0]
        rintro e w0 ⟨rfl, rfl⟩
        go_wp2
        go_ret
        exact ⟨by rw [E.out]; first | rfl | (show Ending.returned (Value.bool (_ == _)) = _; rw [hne]), HBB.out⟩
      · have E : Hid (d = false) := HN.out (fun h => rc h.2.2)
        subst rs
        have hne := beq_eq_false_iff_ne.2 rc
        have HBB : Hid _ := HB
        clear HB HY HN
        go_enter Tryz.func141, Tryz.ntmps141
        go_wp2_with fail
        refine Calls.mono (pthere_F dst rg _) ?_
        rw [decide_eq_true q0]
        rintro e w0 ⟨rfl, rfl⟩
        go_wp2
        go_ret
        exact ⟨by rw [E.out]; first | rfl | (show Ending.returned (Value.bool (_ == _)) = _; rw [hne]), HBB.out⟩
    · have E : Hid (d = false) := HN.out (fun h => rs h.2.1)
      have hne := beq_eq_false_iff_ne.2 rs
      have HBB : Hid _ := HB
      clear HB HY HN
      go_enter Tryz.func141, Tryz.ntmps141
      go_wp2_with fail
      refine Calls.mono (pthere_F dst rg _) ?_
      rw [decide_eq_true q0]
      rintro e w0 ⟨rfl, rfl⟩
      go_wp2
      go_ret
      exact ⟨by rw [E.out]; first | rfl | (show Ending.returned (Value.bool (_ == _)) = _; rw [hne]), HBB.out⟩
  · have E : Hid (d = false) := HN.out (fun h => q0 h.1)
    have HBB : Hid _ := HB
    clear HB HY HN
    go_enter Tryz.func141, Tryz.ntmps141
    go_wp2_with fail
    refine Calls.mono (pthere_F dst rg _) ?_
    rw [decide_eq_false q0]
    rintro e w0 ⟨rfl, rfl⟩
    go_wp2
    go_ret
    exact ⟨by rw [E.out]; first | rfl | (show Ending.returned (Value.bool (_ == _)) = _; rw [hne]), HBB.out⟩
set_option maxHeartbeats 2000000 in
theorem fit_mul (ni no rg op dst src cv : Int) (w : World) : Calls Tryz.prog 143 #[.agg #[.int .i64 ni, .int .i64 no, .int .i64 rg], .agg #[.int .i64 op, .int .i64 dst, .int .i64 src, .int .u8 cv]] w fun e w' => e = .returned (.bool (decide ((0 ≤ dst ∧ dst < rg) ∧ src = 0))) ∧ Below w.heap.size w w' := by
  obtain ⟨d, hd⟩ : ∃ d, d = decide ((0 ≤ dst ∧ dst < rg) ∧ src = 0) := ⟨_, rfl⟩
  have HY : Hid ((0 ≤ dst ∧ dst < rg) ∧ src = 0 → d = true) := fun h => by rw [hd]; exact decide_eq_true h
  have HN : Hid (¬ ((0 ≤ dst ∧ dst < rg) ∧ src = 0) → d = false) := fun h => by rw [hd]; exact decide_eq_false h
  rw [← hd]
  clear hd
  have HB : Below w.heap.size w ((w.alloc (.cells #[.int .i64 ni, .int .i64 no, .int .i64 rg] 159)).alloc (.cells #[.int .i64 op, .int .i64 dst, .int .i64 src, .int .u8 cv] 105)) := ((Below.refl w.heap.size w).alloc (Nat.le_refl _) _).alloc (by simp) _
  by_cases q0 : 0 ≤ dst ∧ dst < rg
  · by_cases rs : src = 0
    · have E : Hid (d = true) := HY.out ⟨q0, rs⟩
      subst rs
      have HBB : Hid _ := HB
      clear HB HY HN
      go_enter Tryz.func143, Tryz.ntmps143
      go_wp2_with fail
      refine Calls.mono (pthere_F dst rg _) ?_
      rw [decide_eq_true q0]
      rintro e w0 ⟨rfl, rfl⟩
      go_wp2
      go_ret
      exact ⟨by rw [E.out]; first | rfl | (show Ending.returned (Value.bool (_ == _)) = _; rw [hne]), HBB.out⟩
    · have E : Hid (d = false) := HN.out (fun h => rs h.2)
      have hne := beq_eq_false_iff_ne.2 rs
      have HBB : Hid _ := HB
      clear HB HY HN
      go_enter Tryz.func143, Tryz.ntmps143
      go_wp2_with fail
      refine Calls.mono (pthere_F dst rg _) ?_
      rw [decide_eq_true q0]
      rintro e w0 ⟨rfl, rfl⟩
      go_wp2
      go_ret
      exact ⟨by rw [E.out]; first | rfl | (show Ending.returned (Value.bool (_ == _)) = _; rw [hne]), HBB.out⟩
  · have E : Hid (d = false) := HN.out (fun h => q0 h.1)
    have HBB : Hid _ := HB
    clear HB HY HN
    go_enter Tryz.func143, Tryz.ntmps143
    go_wp2_with fail
    refine Calls.mono (pthere_F dst rg _) ?_
    rw [decide_eq_false q0]
    rintro e w0 ⟨rfl, rfl⟩
    go_wp2
    go_ret
    exact ⟨by rw [E.out]; first | rfl | (show Ending.returned (Value.bool (_ == _)) = _; rw [hne]), HBB.out⟩
set_option maxHeartbeats 2000000 in
theorem fit_add (ni no rg op dst src cv : Int) (w : World) : Calls Tryz.prog 145 #[.agg #[.int .i64 ni, .int .i64 no, .int .i64 rg], .agg #[.int .i64 op, .int .i64 dst, .int .i64 src, .int .u8 cv]] w fun e w' => e = .returned (.bool (decide ((0 ≤ dst ∧ dst < rg) ∧ (0 ≤ src ∧ src < rg)))) ∧ Below w.heap.size w w' := by
  obtain ⟨d, hd⟩ : ∃ d, d = decide ((0 ≤ dst ∧ dst < rg) ∧ (0 ≤ src ∧ src < rg)) := ⟨_, rfl⟩
  have HY : Hid ((0 ≤ dst ∧ dst < rg) ∧ (0 ≤ src ∧ src < rg) → d = true) := fun h => by rw [hd]; exact decide_eq_true h
  have HN : Hid (¬ ((0 ≤ dst ∧ dst < rg) ∧ (0 ≤ src ∧ src < rg)) → d = false) := fun h => by rw [hd]; exact decide_eq_false h
  rw [← hd]
  clear hd
  have HB : Below w.heap.size w ((w.alloc (.cells #[.int .i64 ni, .int .i64 no, .int .i64 rg] 159)).alloc (.cells #[.int .i64 op, .int .i64 dst, .int .i64 src, .int .u8 cv] 105)) := ((Below.refl w.heap.size w).alloc (Nat.le_refl _) _).alloc (by simp) _
  by_cases q0 : 0 ≤ dst ∧ dst < rg
  · by_cases q1 : 0 ≤ src ∧ src < rg
    · have E : Hid (d = true) := HY.out ⟨q0, q1⟩
      have HBB : Hid _ := HB
      clear HB HY HN
      go_enter Tryz.func145, Tryz.ntmps145
      go_wp2_with fail
      refine Calls.mono (pthere_F dst rg _) ?_
      rw [decide_eq_true q0]
      rintro e w0 ⟨rfl, rfl⟩
      go_wp2_with fail
      refine Calls.mono (pthere_F src rg _) ?_
      rw [decide_eq_true q1]
      rintro e w1 ⟨rfl, rfl⟩
      go_wp2
      go_ret
      exact ⟨by rw [E.out]; first | rfl | (show Ending.returned (Value.bool (_ == _)) = _; rw [hne]), HBB.out⟩
    · have E : Hid (d = false) := HN.out (fun h => q1 h.2)
      have HBB : Hid _ := HB
      clear HB HY HN
      go_enter Tryz.func145, Tryz.ntmps145
      go_wp2_with fail
      refine Calls.mono (pthere_F dst rg _) ?_
      rw [decide_eq_true q0]
      rintro e w0 ⟨rfl, rfl⟩
      go_wp2_with fail
      refine Calls.mono (pthere_F src rg _) ?_
      rw [decide_eq_false q1]
      rintro e w1 ⟨rfl, rfl⟩
      go_wp2
      go_ret
      exact ⟨by rw [E.out]; first | rfl | (show Ending.returned (Value.bool (_ == _)) = _; rw [hne]), HBB.out⟩
  · have E : Hid (d = false) := HN.out (fun h => q0 h.1)
    have HBB : Hid _ := HB
    clear HB HY HN
    go_enter Tryz.func145, Tryz.ntmps145
    go_wp2_with fail
    refine Calls.mono (pthere_F dst rg _) ?_
    rw [decide_eq_false q0]
    rintro e w0 ⟨rfl, rfl⟩
    go_wp2
    go_ret
    exact ⟨by rw [E.out]; first | rfl | (show Ending.returned (Value.bool (_ == _)) = _; rw [hne]), HBB.out⟩
set_option maxHeartbeats 2000000 in
theorem fit_out (ni no rg op dst src cv : Int) (w : World) : Calls Tryz.prog 147 #[.agg #[.int .i64 ni, .int .i64 no, .int .i64 rg], .agg #[.int .i64 op, .int .i64 dst, .int .i64 src, .int .u8 cv]] w fun e w' => e = .returned (.bool (decide ((0 ≤ dst ∧ dst < no) ∧ (0 ≤ src ∧ src < rg) ∧ cv = 0))) ∧ Below w.heap.size w w' := by
  obtain ⟨d, hd⟩ : ∃ d, d = decide ((0 ≤ dst ∧ dst < no) ∧ (0 ≤ src ∧ src < rg) ∧ cv = 0) := ⟨_, rfl⟩
  have HY : Hid ((0 ≤ dst ∧ dst < no) ∧ (0 ≤ src ∧ src < rg) ∧ cv = 0 → d = true) := fun h => by rw [hd]; exact decide_eq_true h
  have HN : Hid (¬ ((0 ≤ dst ∧ dst < no) ∧ (0 ≤ src ∧ src < rg) ∧ cv = 0) → d = false) := fun h => by rw [hd]; exact decide_eq_false h
  rw [← hd]
  clear hd
  have HB : Below w.heap.size w ((w.alloc (.cells #[.int .i64 ni, .int .i64 no, .int .i64 rg] 159)).alloc (.cells #[.int .i64 op, .int .i64 dst, .int .i64 src, .int .u8 cv] 105)) := ((Below.refl w.heap.size w).alloc (Nat.le_refl _) _).alloc (by simp) _
  by_cases q0 : 0 ≤ dst ∧ dst < no
  · by_cases q1 : 0 ≤ src ∧ src < rg
    · by_cases rc : cv = 0
      · have E : Hid (d = true) := HY.out ⟨q0, q1, rc⟩
        subst rc
        have HBB : Hid _ := HB
        clear HB HY HN
        go_enter Tryz.func147, Tryz.ntmps147
        go_wp2_with fail
        refine Calls.mono (pthere_F dst no _) ?_
        rw [decide_eq_true q0]
        rintro e w0 ⟨rfl, rfl⟩
        go_wp2_with fail
        refine Calls.mono (pthere_F src rg _) ?_
        rw [decide_eq_true q1]
        rintro e w1 ⟨rfl, rfl⟩
        go_wp2
        go_ret
        exact ⟨by rw [E.out]; first | rfl | (show Ending.returned (Value.bool (_ == _)) = _; rw [hne]), HBB.out⟩
      · have E : Hid (d = false) := HN.out (fun h => rc h.2.2)
        have hne := beq_eq_false_iff_ne.2 rc
        have HBB : Hid _ := HB
        clear HB HY HN
        go_enter Tryz.func147, Tryz.ntmps147
        go_wp2_with fail
        refine Calls.mono (pthere_F dst no _) ?_
        rw [decide_eq_true q0]
        rintro e w0 ⟨rfl, rfl⟩
        go_wp2_with fail
        refine Calls.mono (pthere_F src rg _) ?_
        rw [decide_eq_true q1]
        rintro e w1 ⟨rfl, rfl⟩
        go_wp2
        go_ret
        exact ⟨by rw [E.out]; first | rfl | (show Ending.returned (Value.bool (_ == _)) = _; rw [hne]), HBB.out⟩
    · have E : Hid (d = false) := HN.out (fun h => q1 h.2.1)
      have HBB : Hid _ := HB
      clear HB HY HN
      go_enter Tryz.func147, Tryz.ntmps147
      go_wp2_with fail
      refine Calls.mono (pthere_F dst no _) ?_
      rw [decide_eq_true q0]
      rintro e w0 ⟨rfl, rfl⟩
      go_wp2_with fail
      refine Calls.mono (pthere_F src rg _) ?_
      rw [decide_eq_false q1]
      rintro e w1 ⟨rfl, rfl⟩
      go_wp2
      go_ret
      exact ⟨by rw [E.out]; first | rfl | (show Ending.returned (Value.bool (_ == _)) = _; rw [hne]), HBB.out⟩
  · have E : Hid (d = false) := HN.out (fun h => q0 h.1)
    have HBB : Hid _ := HB
    clear HB HY HN
    go_enter Tryz.func147, Tryz.ntmps147
    go_wp2_with fail
    refine Calls.mono (pthere_F dst no _) ?_
    rw [decide_eq_false q0]
    rintro e w0 ⟨rfl, rfl⟩
    go_wp2
    go_ret
    exact ⟨by rw [E.out]; first | rfl | (show Ending.returned (Value.bool (_ == _)) = _; rw [hne]), HBB.out⟩
end Go.Proofs.YtkoakingmnjdoaaGreatDoor
