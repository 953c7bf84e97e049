/- What the document's own Generator answers, of all legal numbers; nothing that was there turns. -/
import Derived.Test.YtokepcikpkffpaaDoorBaseR
import Derived.Test.YtokepcikpkffpaaDoorPlacesK
namespace Go.Proofs.YtokepcikpkffpaaDoor
open Go.RowKit Gf
set_option linter.unusedVariables false
set_option maxRecDepth 20000
set_option maxHeartbeats 4000000 in
theorem rgenerator_F (k r : Nat) (w : World) (h1 : 1 ≤ k) (h2 : 2 ≤ r) (h3 : k + r ≤ 16) :
    Calls Tryd.prog 17 #[.int .i64 k, .int .i64 r] w fun e w' => ∃ g l cap, e = .returned (.agg #[.int .i64 (k + r : Nat), .int .i64 k, .slice (some ⟨g, 0, none⟩) l cap]) ∧ l = (k + r) * k ∧ w.heap.size ≤ g ∧
      Has8 w' g (genM k r) cap ∧ Below w.heap.size w w' := by
  have hrk : r * k ≤ 256 := Nat.le_trans (Nat.mul_le_mul (show r ≤ 16 by omega) (show k ≤ 16 by omega)) (by decide)
  have hkk : k * k ≤ 256 := Nat.le_trans (Nat.mul_le_mul (show k ≤ 16 by omega) (show k ≤ 16 by omega)) (by decide)
  go_enter Tryd.func17, Tryd.ntmps17
  go_wp2_with fail
  refine Calls.mono (rone_F k _ (by omega)) ?_
  rintro e w2 ⟨g, m, rfl, hm, hg, hh, hb2⟩
  have hA := holds_new (holds_cons (holds_later (holds_new (holds_nil w) #[.int .i64 0, .int .i64 0, .slice none 0 0] 30) hb2) hh) #[.int .i64 ((k : Int) + r), .int .i64 k, .slice (some ⟨g, 0, none⟩) m m] 30
  have HB' : Hid (Below w.heap.size w w2) := ((Below.refl w.heap.size w).alloc (Nat.le_refl _) _).trans (hb2.mono (by simp))
  have z2 := hb2.size
  simp only [World.size_alloc] at z2 hg
  have zg := ltHeap hh
  have HW0 : Hid (Below w.heap.size w (w2.alloc (.cells #[.int .i64 ((k : Int) + r), .int .i64 k, .slice (some ⟨g, 0, none⟩) m m] 30))) := HB'.out.alloc (by omega) _
  have HA : Hid _ := hA
  clear hA hb2 hh HB'
  subst hm
  go_wp2
  generalize hM : w2.heap.size = M at *
  generalize hWr : (w2.alloc (.cells #[.int .i64 ((k : Int) + r), .int .i64 k, .slice (some ⟨g, 0, none⟩) (k * k) (k * k)] 30)) = wr at *
  have HM : Hid (wr.heap[M]? = some (.cells #[.int .i64 ((k : Int) + r), .int .i64 k, .slice (some ⟨g, 0, none⟩) (k * k) (k * k)] 30 (0, 0))) := holds_at HA.out 0 rfl
  have HG : Hid (wr.heap[g]? = some (.cells (vfs (oneM k)) 5 (0, 0))) := holds_at HA.out 1 rfl
  have HR : Hid (wr.heap[w.heap.size]? = some (.cells #[.int .i64 0, .int .i64 0, .slice none 0 0] 30 (0, 0))) := holds_at HA.out 2 rfl
  have HW : Hid (Below w.heap.size w wr) := HW0.out
  have hMz : M + 1 ≤ wr.heap.size := ltHeap HM.out
  clear hM hWr HA HW0
  refine wp_region_noPanic ?_
  refine wp_region_held_drew (S := fun u => wr.grownBy u (some M)) (by kernel_rfl) ?_ (fun hHeld => ?_)
  · exact grownBy_drew (World.grownBy.refl _ _)
  refine wpAnyH_take (i := 0) (oi := { dst := some 13, op := Op.fieldAddr 30 (Operand.tmp 5) 2, type := 0, pos := "ref.go:37", after := #[], guard := none }) (v := ?_) rfl (by kernel_rfl) (by kernel_rfl) (by kernel_rfl) (fun _ _ _ h => h) (Or.inl ⟨by rfl, ?_⟩) hHeld ?_
  rotate_left
  · intro u hSw
    go_simp
    try with_reducible rfl
  try simp only [Act.put, List.setIfInBounds_toArray, List.set_cons_zero, List.set_cons_succ]
  refine wpAnyH_take (i := 2) (oi := { dst := some 15, op := Op.move (Operand.tmp 0), type := 3, pos := "ref.go:37", after := #[], guard := none }) (v := ?_) rfl (by kernel_rfl) (by kernel_rfl) (by kernel_rfl) (fun _ _ _ h => h) (Or.inl ⟨by rfl, ?_⟩) hHeld ?_
  rotate_left
  · intro u hSw
    go_simp
    try with_reducible rfl
  try simp only [Act.put, List.setIfInBounds_toArray, List.set_cons_zero, List.set_cons_succ]
  refine wpAnyH_take (i := 3) (oi := { dst := some 16, op := Op.move (Operand.tmp 1), type := 3, pos := "ref.go:37", after := #[], guard := none }) (v := ?_) rfl (by kernel_rfl) (by kernel_rfl) (by kernel_rfl) (fun _ _ _ h => h) (Or.inl ⟨by rfl, ?_⟩) hHeld ?_
  rotate_left
  · intro u hSw
    go_simp
    try with_reducible rfl
  try simp only [Act.put, List.setIfInBounds_toArray, List.set_cons_zero, List.set_cons_succ]
  refine wpAnyH_ready (rs := [1, 4]) (by kernel_rfl) (by simp) ?_
  refine AllReadyH.cons (o := { dst := some 14, op := Op.load 28 (Operand.tmp 13), type := 28, pos := "ref.go:37", after := #[{ on := 0, ground := Ground.data }], guard := none }) rfl (fun K hK => ?_) (AllReadyH.cons (o := { dst := some 17, op := Op.call { callee := Callee.value (Operand.func 16), args := #[Operand.tmp 15, Operand.tmp 16], argTypes := #[3, 3] }, type := 30, pos := "ref.go:37", after := #[{ on := 2, ground := Ground.data }, { on := 3, ground := Ground.data }], guard := none }) rfl (fun K hK => ?_) AllReadyH.nil)
  · have cL := cellAt HM.out 2 _ rfl
    go_simp
    refine hK.out _ _ ?_ (fun hHeld => ?_)
    · exact grownBy_drew (World.grownBy.refl _ _)
    clear hK K
    try simp only [Act.put, List.setIfInBounds_toArray, List.set_cons_zero, List.set_cons_succ]
    clear cL
    refine wpAnyH_ready (rs := [4]) (by kernel_rfl) (by simp) ?_
    refine AllReadyH.cons (o := { dst := some 17, op := Op.call { callee := Callee.value (Operand.func 16), args := #[Operand.tmp 15, Operand.tmp 16], argTypes := #[3, 3] }, type := 30, pos := "ref.go:37", after := #[{ on := 2, ground := Ground.data }, { on := 3, ground := Ground.data }], guard := none }) rfl (fun K hK => ?_) AllReadyH.nil
    go_simp
    refine Calls.mono (rparity_F k r _ h1 h2 h3) ?_
    rintro e w6 ⟨g6, m6, rfl, hm6, hg6, hh6, hb6⟩
    have hS6 : wr.grownBy w6 (some M) := grown_below (grownBy_drew (World.grownBy.refl _ _)) hb6
    have hM6 := heap_later (w := wr.drew) HM.out hb6
    have hG6 := row8_own (heap_later (w := wr.drew) HG.out hb6)
    have hP6 : Row8 w6 (some ⟨g6, 0, none⟩) (parM k r) := row8_own hh6
    have hk6 : k * k < k * k + r * k := by have := Nat.mul_pos (show 0 < r by omega) h1; omega
    obtain ⟨g7, cap7, w7, hrun, hh7, hb7, hg7⟩ := append8_grows (ad := ⟨g6, 0, none⟩) (m := r * k) (c := r * k) 28 hG6 (oneM_len k).symm (parM_len k r).symm hk6 (by omega) (fun j hj => by have := cellAt hh6 j _ (vfs_get _ _ hj); rw [show (⟨g6, 0, none⟩ : Addr).add j = ⟨g6, 0 + j, none⟩ from by unfold Addr.add; split <;> simp_all, Nat.zero_add]; exact this)
    have hM7 := grown_keep hb7 hM6 (by simp)
    have hS7 : wr.grownBy w7 (some M) := grownBy_trans hS6 hb7 (fun _ _ _ => by simp)
    have hM8 : w7.frozen? ⟨M, 2, none⟩ = false := frozen_of_row _ _ _ _ _ hM7
    have cS := cellAt hM7 2 _ rfl
    have HRun : Hid _ := hrun
    have HM6 : Hid _ := hM6
    have HS6 : Hid _ := hS6
    have HM7 : Hid _ := hM7
    have HS7 : Hid _ := hS7
    have HH7 : Hid _ := hh7
    have HB7 : Hid (Below (M + 1) wr w7) := (Below.refl (M + 1) wr).drew.trans (grownBy_below (hb6.mono hMz) (grown_some w6.heap.size hb7) (Nat.le_trans hMz hb6.size) (Nat.le_trans hMz hb6.size))
    have HG7 : Hid (M < g7) := Nat.lt_of_lt_of_le (ltHeap hM6) hg7
    subst hm6
    clear hb6 hM6 hG6 hP6 hk6 hrun hh7 hb7 hg7 hM7 hS7 hh6 hg6
    go_wp2_with fail
    refine hK.out _ _ ?_ (fun hHeld => ?_)
    · exact HS6.out
    clear hK K
    try simp only [Act.put, List.setIfInBounds_toArray, List.set_cons_zero, List.set_cons_succ]
    refine wpAnyH_ready (rs := [5]) (by kernel_rfl) (by simp) ?_
    refine AllReadyH.cons (o := { dst := some 18, op := Op.field 30 (Operand.tmp 17) 2, type := 28, pos := "ref.go:37", after := #[{ on := 4, ground := Ground.data }], guard := none }) rfl (fun K hK => ?_) AllReadyH.nil
    go_simp
    go_wp2_with fail
    refine hK.out _ _ ?_ (fun hHeld => ?_)
    · exact HS6.out
    clear hK K
    try simp only [Act.put, List.setIfInBounds_toArray, List.set_cons_zero, List.set_cons_succ]
    refine wpAnyH_ready (rs := [6]) (by kernel_rfl) (by simp) ?_
    refine AllReadyH.cons (o := { dst := some 19, op := Op.call { callee := Callee.builtin Builtin.append, args := #[Operand.tmp 14, Operand.tmp 18], argTypes := #[28, 28] }, type := 28, pos := "ref.go:37", after := #[{ on := 1, ground := Ground.data }, { on := 5, ground := Ground.data }, { on := 4, ground := Ground.chain }], guard := none }) rfl (fun K hK => ?_) AllReadyH.nil
    refine wanted_append_run rfl _ _ 28 rfl _ _ _ _ rfl rfl HRun.out ?_
    refine hK.out _ _ ?_ (fun hHeld => ?_)
    · exact HS7.out
    clear hK K
    try simp only [Act.put, List.setIfInBounds_toArray, List.set_cons_zero, List.set_cons_succ]
    refine wpAnyH_take (i := 7) (oi := { dst := some 20, op := Op.fieldAddr 30 (Operand.tmp 5) 2, type := 0, pos := "ref.go:37", after := #[{ on := 0, ground := Ground.phase }, { on := 1, ground := Ground.phase }, { on := 2, ground := Ground.phase }, { on := 3, ground := Ground.phase }, { on := 4, ground := Ground.phase }, { on := 5, ground := Ground.phase }, { on := 6, ground := Ground.phase }], guard := none }) (v := ?_) rfl (by kernel_rfl) (by kernel_rfl) (by kernel_rfl) (fun _ _ _ h => h) (Or.inl ⟨by rfl, ?_⟩) hHeld ?_
    rotate_left
    · intro u hSw
      go_simp
      try with_reducible rfl
    try simp only [Act.put, List.setIfInBounds_toArray, List.set_cons_zero, List.set_cons_succ]
    refine wpAnyH_ready (rs := [8]) (by kernel_rfl) (by simp) ?_
    refine AllReadyH.cons (o := { dst := none, op := Op.store 28 (Operand.tmp 20) (Operand.tmp 19), type := 0, pos := "ref.go:37", after := #[{ on := 7, ground := Ground.data }, { on := 6, ground := Ground.data }, { on := 6, ground := Ground.chain }, { on := 0, ground := Ground.phase }, { on := 1, ground := Ground.phase }, { on := 2, ground := Ground.phase }, { on := 3, ground := Ground.phase }, { on := 4, ground := Ground.phase }, { on := 5, ground := Ground.phase }, { on := 6, ground := Ground.phase }], guard := none }) rfl (fun K hK => ?_) AllReadyH.nil
    go_simp
    refine hK.out _ _ ?_ (fun hHeld => ?_)
    · exact grownBy_setCell HS7.out _
    clear hK K
    try simp only [Act.put, List.setIfInBounds_toArray, List.set_cons_zero, List.set_cons_succ]
    refine wpAnyH_done (by kernel_rfl) ?_ _
    refine NoPanic.normal ?_
    clear cS hM8
    have k1 : (w7.setCell ⟨M, 2, none⟩ (.slice (some ⟨g7, 0, none⟩) (k * k + r * k) cap7)).heap[M]? = some (.cells #[.int .i64 ((k : Int) + r), .int .i64 k, .slice (some ⟨g7, 0, none⟩) (k * k + r * k) cap7] 30 (0, 0)) := heap_setCell_same _ _ _ _ _ _ HM7.out
    have k2 : (w7.setCell ⟨M, 2, none⟩ (.slice (some ⟨g7, 0, none⟩) (k * k + r * k) cap7)).heap[w.heap.size]? = some (.cells #[.int .i64 0, .int .i64 0, .slice none 0 0] 30 (0, 0)) := (heap_setCell_other _ _ _ _ (show w.heap.size ≠ M by omega)).trans ((HB7.out.block _ (by omega)).trans HR.out)
    have HB8 : Hid (Below w.heap.size w (w7.setCell ⟨M, 2, none⟩ (.slice (some ⟨g7, 0, none⟩) (k * k + r * k) cap7))) := (HW.out.trans (HB7.out.mono (by omega))).setCell (by show w.heap.size ≤ M; omega) _
    have HH8 : Hid (Has8 (w7.setCell ⟨M, 2, none⟩ (.slice (some ⟨g7, 0, none⟩) (k * k + r * k) cap7)) g7 (genM k r) cap7) := by
      have hne : g7 ≠ M := by have := HG7.out; omega
      rw [genM_eq]
      obtain ⟨cur, h1, h2⟩ := HH7.out
      exact ⟨cur, (heap_setCell_other _ _ _ _ hne).trans h1, h2⟩
    have HNE : Hid (g7 ≠ w.heap.size) := by have := HG7.out; show _ ≠ _; omega
    have HGG : Hid (w.heap.size ≤ g7) := by have := HG7.out; show _ ≤ _; omega
    clear HRun HM6 HM7 HS7 HH7 HB7 HG7
    generalize (w7.setCell ⟨M, 2, none⟩ (.slice (some ⟨g7, 0, none⟩) (k * k + r * k) cap7)) = w8 at *
    have c1 := cellAt k1 0 _ rfl
    have c2 := cellAt k1 1 _ rfl
    have c3 := cellAt k1 2 _ rfl
    have c4 := cellAt k2 0 _ rfl
    have c5 := cellAt k2 1 _ rfl
    have c6 := cellAt k2 2 _ rfl
    have d4 : w8.frozen? ⟨w.heap.size, 0, none⟩ = false := frozen_of_row _ _ _ _ _ k2
    have d5 : w8.frozen? ⟨w.heap.size, 1, none⟩ = false := frozen_of_row _ _ _ _ _ k2
    have d6 : w8.frozen? ⟨w.heap.size, 2, none⟩ = false := frozen_of_row _ _ _ _ _ k2
    clear k1 k2
    go_wp2
    refine bodyPost_ret (v := .agg #[.int .i64 (k + r : Nat), .int .i64 k, .slice (some ⟨g7, 0, none⟩) (k * k + r * k) cap7]) (by simp [results, Tryd.results17, go_sem, c4, c5, c6]) rfl ⟨g7, _, cap7, rfl, by rw [Nat.add_mul], HGG.out, ?_, ?_⟩
    · have hne : g7 ≠ w.heap.size := HNE.out
      obtain ⟨cur, h1, h2⟩ := HH8.out
      exact ⟨cur, (heap_setCell_other _ _ _ _ hne).trans ((heap_setCell_other _ _ _ _ hne).trans ((heap_setCell_other _ _ _ _ hne).trans h1)), h2⟩
    · exact ((HB8.out.setCell (Nat.le_refl _) _).setCell (Nat.le_refl _) _).setCell (Nat.le_refl _) _
  · go_simp
    refine Calls.mono (rparity_F k r _ h1 h2 h3) ?_
    rintro e w6 ⟨g6, m6, rfl, hm6, hg6, hh6, hb6⟩
    have hS6 : wr.grownBy w6 (some M) := grown_below (grownBy_drew (World.grownBy.refl _ _)) hb6
    have hM6 := heap_later (w := wr.drew) HM.out hb6
    have hG6 := row8_own (heap_later (w := wr.drew) HG.out hb6)
    have hP6 : Row8 w6 (some ⟨g6, 0, none⟩) (parM k r) := row8_own hh6
    have hk6 : k * k < k * k + r * k := by have := Nat.mul_pos (show 0 < r by omega) h1; omega
    obtain ⟨g7, cap7, w7, hrun, hh7, hb7, hg7⟩ := append8_grows (ad := ⟨g6, 0, none⟩) (m := r * k) (c := r * k) 28 hG6 (oneM_len k).symm (parM_len k r).symm hk6 (by omega) (fun j hj => by have := cellAt hh6 j _ (vfs_get _ _ hj); rw [show (⟨g6, 0, none⟩ : Addr).add j = ⟨g6, 0 + j, none⟩ from by unfold Addr.add; split <;> simp_all, Nat.zero_add]; exact this)
    have hM7 := grown_keep hb7 hM6 (by simp)
    have hS7 : wr.grownBy w7 (some M) := grownBy_trans hS6 hb7 (fun _ _ _ => by simp)
    have hM8 : w7.frozen? ⟨M, 2, none⟩ = false := frozen_of_row _ _ _ _ _ hM7
    have cS := cellAt hM7 2 _ rfl
    have HRun : Hid _ := hrun
    have HM6 : Hid _ := hM6
    have HS6 : Hid _ := hS6
    have HM7 : Hid _ := hM7
    have HS7 : Hid _ := hS7
    have HH7 : Hid _ := hh7
    have HB7 : Hid (Below (M + 1) wr w7) := (Below.refl (M + 1) wr).drew.trans (grownBy_below (hb6.mono hMz) (grown_some w6.heap.size hb7) (Nat.le_trans hMz hb6.size) (Nat.le_trans hMz hb6.size))
    have HG7 : Hid (M < g7) := Nat.lt_of_lt_of_le (ltHeap hM6) hg7
    subst hm6
    clear hb6 hM6 hG6 hP6 hk6 hrun hh7 hb7 hg7 hM7 hS7 hh6 hg6
    go_wp2_with fail
    refine hK.out _ _ ?_ (fun hHeld => ?_)
    · exact HS6.out
    clear hK K
    try simp only [Act.put, List.setIfInBounds_toArray, List.set_cons_zero, List.set_cons_succ]
    refine wpAnyH_ready (rs := [1, 5]) (by kernel_rfl) (by simp) ?_
    refine AllReadyH.cons (o := { dst := some 14, op := Op.load 28 (Operand.tmp 13), type := 28, pos := "ref.go:37", after := #[{ on := 0, ground := Ground.data }], guard := none }) rfl (fun K hK => ?_) (AllReadyH.cons (o := { dst := some 18, op := Op.field 30 (Operand.tmp 17) 2, type := 28, pos := "ref.go:37", after := #[{ on := 4, ground := Ground.data }], guard := none }) rfl (fun K hK => ?_) AllReadyH.nil)
    · have cL := cellAt HM6.out 2 _ rfl
      go_simp
      refine hK.out _ _ ?_ (fun hHeld => ?_)
      · exact HS6.out
      clear hK K
      try simp only [Act.put, List.setIfInBounds_toArray, List.set_cons_zero, List.set_cons_succ]
      clear cL
      refine wpAnyH_ready (rs := [5]) (by kernel_rfl) (by simp) ?_
      refine AllReadyH.cons (o := { dst := some 18, op := Op.field 30 (Operand.tmp 17) 2, type := 28, pos := "ref.go:37", after := #[{ on := 4, ground := Ground.data }], guard := none }) rfl (fun K hK => ?_) AllReadyH.nil
      go_simp
      go_wp2_with fail
      refine hK.out _ _ ?_ (fun hHeld => ?_)
      · exact HS6.out
      clear hK K
      try simp only [Act.put, List.setIfInBounds_toArray, List.set_cons_zero, List.set_cons_succ]
      refine wpAnyH_ready (rs := [6]) (by kernel_rfl) (by simp) ?_
      refine AllReadyH.cons (o := { dst := some 19, op := Op.call { callee := Callee.builtin Builtin.append, args := #[Operand.tmp 14, Operand.tmp 18], argTypes := #[28, 28] }, type := 28, pos := "ref.go:37", after := #[{ on := 1, ground := Ground.data }, { on := 5, ground := Ground.data }, { on := 4, ground := Ground.chain }], guard := none }) rfl (fun K hK => ?_) AllReadyH.nil
      refine wanted_append_run rfl _ _ 28 rfl _ _ _ _ rfl rfl HRun.out ?_
      refine hK.out _ _ ?_ (fun hHeld => ?_)
      · exact HS7.out
      clear hK K
      try simp only [Act.put, List.setIfInBounds_toArray, List.set_cons_zero, List.set_cons_succ]
      refine wpAnyH_take (i := 7) (oi := { dst := some 20, op := Op.fieldAddr 30 (Operand.tmp 5) 2, type := 0, pos := "ref.go:37", after := #[{ on := 0, ground := Ground.phase }, { on := 1, ground := Ground.phase }, { on := 2, ground := Ground.phase }, { on := 3, ground := Ground.phase }, { on := 4, ground := Ground.phase }, { on := 5, ground := Ground.phase }, { on := 6, ground := Ground.phase }], guard := none }) (v := ?_) rfl (by kernel_rfl) (by kernel_rfl) (by kernel_rfl) (fun _ _ _ h => h) (Or.inl ⟨by rfl, ?_⟩) hHeld ?_
      rotate_left
      · intro u hSw
        go_simp
        try with_reducible rfl
      try simp only [Act.put, List.setIfInBounds_toArray, List.set_cons_zero, List.set_cons_succ]
      refine wpAnyH_ready (rs := [8]) (by kernel_rfl) (by simp) ?_
      refine AllReadyH.cons (o := { dst := none, op := Op.store 28 (Operand.tmp 20) (Operand.tmp 19), type := 0, pos := "ref.go:37", after := #[{ on := 7, ground := Ground.data }, { on := 6, ground := Ground.data }, { on := 6, ground := Ground.chain }, { on := 0, ground := Ground.phase }, { on := 1, ground := Ground.phase }, { on := 2, ground := Ground.phase }, { on := 3, ground := Ground.phase }, { on := 4, ground := Ground.phase }, { on := 5, ground := Ground.phase }, { on := 6, ground := Ground.phase }], guard := none }) rfl (fun K hK => ?_) AllReadyH.nil
      go_simp
      refine hK.out _ _ ?_ (fun hHeld => ?_)
      · exact grownBy_setCell HS7.out _
      clear hK K
      try simp only [Act.put, List.setIfInBounds_toArray, List.set_cons_zero, List.set_cons_succ]
      refine wpAnyH_done (by kernel_rfl) ?_ _
      refine NoPanic.normal ?_
      clear cS hM8
      have k1 : (w7.setCell ⟨M, 2, none⟩ (.slice (some ⟨g7, 0, none⟩) (k * k + r * k) cap7)).heap[M]? = some (.cells #[.int .i64 ((k : Int) + r), .int .i64 k, .slice (some ⟨g7, 0, none⟩) (k * k + r * k) cap7] 30 (0, 0)) := heap_setCell_same _ _ _ _ _ _ HM7.out
      have k2 : (w7.setCell ⟨M, 2, none⟩ (.slice (some ⟨g7, 0, none⟩) (k * k + r * k) cap7)).heap[w.heap.size]? = some (.cells #[.int .i64 0, .int .i64 0, .slice none 0 0] 30 (0, 0)) := (heap_setCell_other _ _ _ _ (show w.heap.size ≠ M by omega)).trans ((HB7.out.block _ (by omega)).trans HR.out)
      have HB8 : Hid (Below w.heap.size w (w7.setCell ⟨M, 2, none⟩ (.slice (some ⟨g7, 0, none⟩) (k * k + r * k) cap7))) := (HW.out.trans (HB7.out.mono (by omega))).setCell (by show w.heap.size ≤ M; omega) _
      have HH8 : Hid (Has8 (w7.setCell ⟨M, 2, none⟩ (.slice (some ⟨g7, 0, none⟩) (k * k + r * k) cap7)) g7 (genM k r) cap7) := by
        have hne : g7 ≠ M := by have := HG7.out; omega
        rw [genM_eq]
        obtain ⟨cur, h1, h2⟩ := HH7.out
        exact ⟨cur, (heap_setCell_other _ _ _ _ hne).trans h1, h2⟩
      have HNE : Hid (g7 ≠ w.heap.size) := by have := HG7.out; show _ ≠ _; omega
      have HGG : Hid (w.heap.size ≤ g7) := by have := HG7.out; show _ ≤ _; omega
      clear HRun HM6 HM7 HS7 HH7 HB7 HG7
      generalize (w7.setCell ⟨M, 2, none⟩ (.slice (some ⟨g7, 0, none⟩) (k * k + r * k) cap7)) = w8 at *
      have c1 := cellAt k1 0 _ rfl
      have c2 := cellAt k1 1 _ rfl
      have c3 := cellAt k1 2 _ rfl
      have c4 := cellAt k2 0 _ rfl
      have c5 := cellAt k2 1 _ rfl
      have c6 := cellAt k2 2 _ rfl
      have d4 : w8.frozen? ⟨w.heap.size, 0, none⟩ = false := frozen_of_row _ _ _ _ _ k2
      have d5 : w8.frozen? ⟨w.heap.size, 1, none⟩ = false := frozen_of_row _ _ _ _ _ k2
      have d6 : w8.frozen? ⟨w.heap.size, 2, none⟩ = false := frozen_of_row _ _ _ _ _ k2
      clear k1 k2
      go_wp2
      refine bodyPost_ret (v := .agg #[.int .i64 (k + r : Nat), .int .i64 k, .slice (some ⟨g7, 0, none⟩) (k * k + r * k) cap7]) (by simp [results, Tryd.results17, go_sem, c4, c5, c6]) rfl ⟨g7, _, cap7, rfl, by rw [Nat.add_mul], HGG.out, ?_, ?_⟩
      · have hne : g7 ≠ w.heap.size := HNE.out
        obtain ⟨cur, h1, h2⟩ := HH8.out
        exact ⟨cur, (heap_setCell_other _ _ _ _ hne).trans ((heap_setCell_other _ _ _ _ hne).trans ((heap_setCell_other _ _ _ _ hne).trans h1)), h2⟩
      · exact ((HB8.out.setCell (Nat.le_refl _) _).setCell (Nat.le_refl _) _).setCell (Nat.le_refl _) _
    · go_simp
      go_wp2_with fail
      refine hK.out _ _ ?_ (fun hHeld => ?_)
      · exact HS6.out
      clear hK K
      try simp only [Act.put, List.setIfInBounds_toArray, List.set_cons_zero, List.set_cons_succ]
      refine wpAnyH_ready (rs := [1]) (by kernel_rfl) (by simp) ?_
      refine AllReadyH.cons (o := { dst := some 14, op := Op.load 28 (Operand.tmp 13), type := 28, pos := "ref.go:37", after := #[{ on := 0, ground := Ground.data }], guard := none }) rfl (fun K hK => ?_) AllReadyH.nil
      have cL := cellAt HM6.out 2 _ rfl
      go_simp
      refine hK.out _ _ ?_ (fun hHeld => ?_)
      · exact HS6.out
      clear hK K
      try simp only [Act.put, List.setIfInBounds_toArray, List.set_cons_zero, List.set_cons_succ]
      clear cL
      refine wpAnyH_ready (rs := [6]) (by kernel_rfl) (by simp) ?_
      refine AllReadyH.cons (o := { dst := some 19, op := Op.call { callee := Callee.builtin Builtin.append, args := #[Operand.tmp 14, Operand.tmp 18], argTypes := #[28, 28] }, type := 28, pos := "ref.go:37", after := #[{ on := 1, ground := Ground.data }, { on := 5, ground := Ground.data }, { on := 4, ground := Ground.chain }], guard := none }) rfl (fun K hK => ?_) AllReadyH.nil
      refine wanted_append_run rfl _ _ 28 rfl _ _ _ _ rfl rfl HRun.out ?_
      refine hK.out _ _ ?_ (fun hHeld => ?_)
      · exact HS7.out
      clear hK K
      try simp only [Act.put, List.setIfInBounds_toArray, List.set_cons_zero, List.set_cons_succ]
      refine wpAnyH_take (i := 7) (oi := { dst := some 20, op := Op.fieldAddr 30 (Operand.tmp 5) 2, type := 0, pos := "ref.go:37", after := #[{ on := 0, ground := Ground.phase }, { on := 1, ground := Ground.phase }, { on := 2, ground := Ground.phase }, { on := 3, ground := Ground.phase }, { on := 4, ground := Ground.phase }, { on := 5, ground := Ground.phase }, { on := 6, ground := Ground.phase }], guard := none }) (v := ?_) rfl (by kernel_rfl) (by kernel_rfl) (by kernel_rfl) (fun _ _ _ h => h) (Or.inl ⟨by rfl, ?_⟩) hHeld ?_
      rotate_left
      · intro u hSw
        go_simp
        try with_reducible rfl
      try simp only [Act.put, List.setIfInBounds_toArray, List.set_cons_zero, List.set_cons_succ]
      refine wpAnyH_ready (rs := [8]) (by kernel_rfl) (by simp) ?_
      refine AllReadyH.cons (o := { dst := none, op := Op.store 28 (Operand.tmp 20) (Operand.tmp 19), type := 0, pos := "ref.go:37", after := #[{ on := 7, ground := Ground.data }, { on := 6, ground := Ground.data }, { on := 6, ground := Ground.chain }, { on := 0, ground := Ground.phase }, { on := 1, ground := Ground.phase }, { on := 2, ground := Ground.phase }, { on := 3, ground := Ground.phase }, { on := 4, ground := Ground.phase }, { on := 5, ground := Ground.phase }, { on := 6, ground := Ground.phase }], guard := none }) rfl (fun K hK => ?_) AllReadyH.nil
      go_simp
      refine hK.out _ _ ?_ (fun hHeld => ?_)
      · exact grownBy_setCell HS7.out _
      clear hK K
      try simp only [Act.put, List.setIfInBounds_toArray, List.set_cons_zero, List.set_cons_succ]
      refine wpAnyH_done (by kernel_rfl) ?_ _
      refine NoPanic.normal ?_
      clear cS hM8
      have k1 : (w7.setCell ⟨M, 2, none⟩ (.slice (some ⟨g7, 0, none⟩) (k * k + r * k) cap7)).heap[M]? = some (.cells #[.int .i64 ((k : Int) + r), .int .i64 k, .slice (some ⟨g7, 0, none⟩) (k * k + r * k) cap7] 30 (0, 0)) := heap_setCell_same _ _ _ _ _ _ HM7.out
      have k2 : (w7.setCell ⟨M, 2, none⟩ (.slice (some ⟨g7, 0, none⟩) (k * k + r * k) cap7)).heap[w.heap.size]? = some (.cells #[.int .i64 0, .int .i64 0, .slice none 0 0] 30 (0, 0)) := (heap_setCell_other _ _ _ _ (show w.heap.size ≠ M by omega)).trans ((HB7.out.block _ (by omega)).trans HR.out)
      have HB8 : Hid (Below w.heap.size w (w7.setCell ⟨M, 2, none⟩ (.slice (some ⟨g7, 0, none⟩) (k * k + r * k) cap7))) := (HW.out.trans (HB7.out.mono (by omega))).setCell (by show w.heap.size ≤ M; omega) _
      have HH8 : Hid (Has8 (w7.setCell ⟨M, 2, none⟩ (.slice (some ⟨g7, 0, none⟩) (k * k + r * k) cap7)) g7 (genM k r) cap7) := by
        have hne : g7 ≠ M := by have := HG7.out; omega
        rw [genM_eq]
        obtain ⟨cur, h1, h2⟩ := HH7.out
        exact ⟨cur, (heap_setCell_other _ _ _ _ hne).trans h1, h2⟩
      have HNE : Hid (g7 ≠ w.heap.size) := by have := HG7.out; show _ ≠ _; omega
      have HGG : Hid (w.heap.size ≤ g7) := by have := HG7.out; show _ ≤ _; omega
      clear HRun HM6 HM7 HS7 HH7 HB7 HG7
      generalize (w7.setCell ⟨M, 2, none⟩ (.slice (some ⟨g7, 0, none⟩) (k * k + r * k) cap7)) = w8 at *
      have c1 := cellAt k1 0 _ rfl
      have c2 := cellAt k1 1 _ rfl
      have c3 := cellAt k1 2 _ rfl
      have c4 := cellAt k2 0 _ rfl
      have c5 := cellAt k2 1 _ rfl
      have c6 := cellAt k2 2 _ rfl
      have d4 : w8.frozen? ⟨w.heap.size, 0, none⟩ = false := frozen_of_row _ _ _ _ _ k2
      have d5 : w8.frozen? ⟨w.heap.size, 1, none⟩ = false := frozen_of_row _ _ _ _ _ k2
      have d6 : w8.frozen? ⟨w.heap.size, 2, none⟩ = false := frozen_of_row _ _ _ _ _ k2
      clear k1 k2
      go_wp2
      refine bodyPost_ret (v := .agg #[.int .i64 (k + r : Nat), .int .i64 k, .slice (some ⟨g7, 0, none⟩) (k * k + r * k) cap7]) (by simp [results, Tryd.results17, go_sem, c4, c5, c6]) rfl ⟨g7, _, cap7, rfl, by rw [Nat.add_mul], HGG.out, ?_, ?_⟩
      · have hne : g7 ≠ w.heap.size := HNE.out
        obtain ⟨cur, h1, h2⟩ := HH8.out
        exact ⟨cur, (heap_setCell_other _ _ _ _ hne).trans ((heap_setCell_other _ _ _ _ hne).trans ((heap_setCell_other _ _ _ _ hne).trans h1)), h2⟩
      · exact ((HB8.out.setCell (Nat.le_refl _) _).setCell (Nat.le_refl _) _).setCell (Nat.le_refl _) _
end Go.Proofs.YtokepcikpkffpaaDoor
