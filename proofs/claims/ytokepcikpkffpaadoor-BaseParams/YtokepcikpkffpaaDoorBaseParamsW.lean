/- The walk of BaseParams: at all numbers. -/
import Derived.Test.YtokepcikpkffpaaDoorBaseQ
import Derived.Test.YtokepcikpkffpaaDoorBaseA
import Derived.Test.YtokepcikpkffpaaDoorBaseGroupsW
namespace Go.Proofs.YtokepcikpkffpaaDoor
open Go.RowKit Gf
set_option linter.unusedVariables false
set_option maxRecDepth 20000
set_option maxHeartbeats 4000000 in
theorem params_bad (k r : Int) (w : World) (hk0 : -9223372036854775808 ≤ k) (hk1 : k ≤ 9223372036854775807) (hr0 : -9223372036854775808 ≤ r) (hr1 : r ≤ 9223372036854775807) (s0 : Addr) (hs : w.cell? ⟨0, 0, none⟩ = some (errAt s0)) (h : ¬ LegalP k r) :
    Calls Tryd.prog 3 #[.int .i64 k, .int .i64 r] w fun e w' => e = .returned (.bool true) ∧ Below w.heap.size w w' := by
  have HS : Hid _ := hs
  have H : Hid _ := h
  clear h hs
  go_enter Tryd.func3, Tryd.ntmps3
  go_wp2_with fail
  refine Calls.mono (alive4_ok _) ?_
  rintro e w1 ⟨rfl, hb⟩
  have HW1 : Hid _ := hb
  have HS1 : Hid _ := cell_later hb HS.out
  clear hb
  go_wp2_with fail
  refine Calls.mono (bcheck_bad k r _ s0 HS1.out hk0 hk1 hr0 hr1 H.out) ?_
  rintro e w2 ⟨rfl, rfl⟩
  go_wp2_with fail
  refine Calls.mono (bgroup_bad k r _ s0 HS1.out hk0 hk1 hr0 hr1 H.out) ?_
  rintro e w2 ⟨rfl, rfl⟩
  go_wp2_with fail
  refine Calls.mono (parity_bad k r _ s0 HS1.out hk0 hk1 hr0 hr1 H.out) ?_
  rintro e w2 ⟨rfl, hb⟩
  have HA2 : Hid _ := holds_new (holds_nil w2) #[.int .i64 0, .int .i64 0, .slice none 0 0] 30
  have HW2 : Hid (Below w.heap.size w (w2.alloc (.cells #[.int .i64 0, .int .i64 0, .slice none 0 0] 30))) := (HW1.out.trans (hb.mono HW1.out.size)).alloc (HW1.out.trans (hb.mono HW1.out.size)).size _
  clear hb HW1 HS1
  go_wp2_with fail
  refine Calls.mono (generator_bad k r _ s0 (cell_later HW2.out HS.out) hk0 hk1 hr0 hr1 H.out) ?_
  rintro e w3 ⟨rfl, hb⟩
  have HA3 : Hid _ := holds_new (holds_later HA2.out hb) #[.int .i64 0, .int .i64 0, .slice none 0 0] 30
  have hw3 := HW2.out.trans (hb.mono HW2.out.size)
  have HW3 : Hid (Below w.heap.size w (w3.alloc (.cells #[.int .i64 0, .int .i64 0, .slice none 0 0] 30))) := hw3.alloc hw3.size _
  have hz3 := hw3.size
  clear hb HW2 HA2 hw3
  go_wp2_with fail
  refine Calls.mono (legal_no k r _ hk0 hk1 hr0 hr1 H.out) ?_
  rintro e w4 ⟨rfl, rfl⟩
  have c0 := cell_later HW3.out HS.out
  have c1 := cellAt (holds_at HA3.out 0 rfl) 0 _ rfl
  have c2 := cellAt (holds_at HA3.out 0 rfl) 1 _ rfl
  have c3 := cellAt (holds_at HA3.out 0 rfl) 2 _ rfl
  have c4 := cellAt (holds_at HA3.out 1 rfl) 0 _ rfl
  have c5 := cellAt (holds_at HA3.out 1 rfl) 1 _ rfl
  have c6 := cellAt (holds_at HA3.out 1 rfl) 2 _ rfl
  have z1 := ltHeap (holds_at HA3.out 1 rfl)
  have q := eq_same (w3.alloc (.cells #[.int .i64 0, .int .i64 0, .slice none 0 0] 30)) s0
  have hg : 0 < w3.heap.size := by
    have := World.block_lt_of_cell? _ _ HS.out; simp at this; omega
  unfold errAt at *
  go_wp2
  go_ret
  exact ⟨rfl, HW3.out⟩
set_option maxHeartbeats 8000000 in
theorem params_ok (k r : Nat) (w : World) (s1 : Addr) (hs : w.cell? ⟨1, 0, none⟩ = some (errAt s1)) (h1 : 1 ≤ k) (h2 : 2 ≤ r) (h3 : k + r ≤ 16) :
    Calls Tryd.prog 3 #[.int .i64 k, .int .i64 r] w fun e w' => e = .returned (.bool true) ∧ Below w.heap.size w w' := by
  have HS : Hid _ := hs
  clear hs
  go_enter Tryd.func3, Tryd.ntmps3
  go_wp2_with fail
  refine Calls.mono (alive4_ok _) ?_
  rintro e w1 ⟨rfl, hb⟩
  have HW1 : Hid _ := hb
  clear hb
  go_wp2_with fail
  refine Calls.mono (bcheck_ok k r _ h1 h2 h3) ?_
  rintro e w2 ⟨rfl, rfl⟩
  go_wp2_with fail
  refine Calls.mono (bgroup_ok k r _ h1 h2 h3) ?_
  rintro e w2 ⟨rfl, rfl⟩
  go_wp2_with fail
  refine Calls.mono (parity_F k r _ h1 h2 h3) ?_
  rintro e w2 ⟨gp, mp, rfl, hm, hg, hh, hb⟩
  have HMP : Hid _ := hm
  have HA2 : Hid _ := holds_new (holds_cons (holds_nil w2) hh) #[.int .i64 r, .int .i64 k, .slice (some ⟨gp, 0, none⟩) mp mp] 30
  have HW2 : Hid (Below w.heap.size w (w2.alloc (.cells #[.int .i64 r, .int .i64 k, .slice (some ⟨gp, 0, none⟩) mp mp] 30))) := (HW1.out.trans (hb.mono HW1.out.size)).alloc (HW1.out.trans (hb.mono HW1.out.size)).size _
  clear hb HW1 hm hg hh
  go_wp2_with fail
  refine Calls.mono (generator_F k r _ s1 (cell_later HW2.out HS.out) h1 h2 h3) ?_
  rintro e w3 ⟨gm, mm, rfl, hm, hg, hh, hb⟩
  have HMM : Hid _ := hm
  have HNE : Hid (gp ≠ gm ∧ w.heap.size ≤ gm) := by
    have h4 := ltHeap (holds_at HA2.out 1 rfl)
    have h5 := HW2.out.size
    simp only [World.size_alloc] at h4 h5 hg
    show _ ∧ _
    constructor <;> omega
  have hw3 := HW2.out.trans (hb.mono HW2.out.size)
  have hA3 := holds_cons (holds_later HA2.out hb) hh
  obtain ⟨p, hp⟩ : ∃ p, p = k + r := ⟨_, rfl⟩
  rw [← hp] at hm
  have HP : Hid _ := hp
  have e9 : ((k + r : Nat) : Int) = p := by rw [hp]
  rw [e9]
  have HA3 : Hid _ := holds_new hA3 #[.int .i64 p, .int .i64 k, .slice (some ⟨gm, 0, none⟩) mm mm] 30
  have HW3 : Hid (Below w.heap.size w (w3.alloc (.cells #[.int .i64 p, .int .i64 k, .slice (some ⟨gm, 0, none⟩) mm mm] 30))) := hw3.alloc hw3.size _
  clear hb HW2 HA2 hw3 hh hg hm hA3 hp e9
  go_wp2_with fail
  refine Calls.mono (legal_yes k r _ h1 h2 h3) ?_
  rintro e w4 ⟨rfl, rfl⟩
  go_wp2_with fail
  generalize hM : w3.heap.size = M at *
  generalize hWr : (w3.alloc (.cells #[.int .i64 p, .int .i64 k, .slice (some ⟨gm, 0, none⟩) mm mm] 30)) = wr at *
  generalize hPB : w2.heap.size = PB at *
  have HM : Hid (wr.heap[M]? = some (.cells #[.int .i64 p, .int .i64 k, .slice (some ⟨gm, 0, none⟩) mm mm] 30 (0, 0))) := holds_at HA3.out 0 rfl
  have HGM : Hid (wr.heap[gm]? = some (.cells (vfs (genM k r)) 5 (0, 0))) := holds_at HA3.out 1 rfl
  have HPB : Hid (wr.heap[PB]? = some (.cells #[.int .i64 r, .int .i64 k, .slice (some ⟨gp, 0, none⟩) mp mp] 30 (0, 0))) := holds_at HA3.out 2 rfl
  have HGP : Hid (wr.heap[gp]? = some (.cells (vfs (parM k r)) 5 (0, 0))) := holds_at HA3.out 3 rfl
  have HM' : Hid (∀ u, wr.grownBy u (some gm) → u.heap[M]? = some (.cells #[.int .i64 p, .int .i64 k, .slice (some ⟨gm, 0, none⟩) mm mm] 30 (0, 0))) := fun u h => grown_block h HM.out (kind_ne HM.out HGM.out (by decide))
  have HPB' : Hid (∀ u, wr.grownBy u (some gm) → u.heap[PB]? = some (.cells #[.int .i64 r, .int .i64 k, .slice (some ⟨gp, 0, none⟩) mp mp] 30 (0, 0))) := fun u h => grown_block h HPB.out (kind_ne HPB.out HGM.out (by decide))
  have HW : Hid (Below w.heap.size w wr) := HW3.out
  clear hM hWr hPB HA3 HW3 HM HPB
  obtain ⟨G, hG⟩ : ∃ G, G = groupN k r := ⟨_, rfl⟩
  rw [← hG]
  have HG : Hid _ := hG
  clear hG
  have hpos : wr.heap.size ≤ wr.heap.size := Nat.le_refl _
  refine wp_region_noPanic ?_
  refine wp_region_held_drew (S := fun u => wr.grownBy u (some gm)) (by kernel_rfl) ?_ (fun hHeld => ?_)
  · exact grownBy_drew (World.grownBy.refl _ _)
  refine wpAnyH_take (i := 0) (oi := { dst := some 83, op := Op.move (Operand.tmp 5), type := 24, pos := "law.go:31", after := #[], guard := none }) (v := ?_) rfl (by kernel_rfl) (by kernel_rfl) (by kernel_rfl) (fun _ _ _ h => h) (Or.inl ⟨by rfl, ?_⟩) hHeld ?_
  rotate_left
  · intro u hSw
    go_simp
    try with_reducible rfl
  try simp only [Act.put, List.setIfInBounds_toArray, List.set_cons_zero, List.set_cons_succ]
  refine wpAnyH_take (i := 1) (oi := { dst := some 84, op := Op.binOp BinOp.eql 24 (Operand.tmp 83) (Operand.const Value.nilIface) 24, type := 4, pos := "law.go:31", after := #[{ on := 0, ground := Ground.data }], guard := none }) (v := ?_) rfl (by kernel_rfl) (by kernel_rfl) (by kernel_rfl) (fun _ _ _ h => h) (Or.inl ⟨by rfl, ?_⟩) hHeld ?_
  rotate_left
  · intro u hSw
    go_simp
    try with_reducible rfl
  try simp only [Act.put, List.setIfInBounds_toArray, List.set_cons_zero, List.set_cons_succ]
  refine wpAnyH_take (i := 2) (oi := { dst := some 85, op := Op.move (Operand.tmp 84), type := 4, pos := "law.go:31", after := #[{ on := 1, ground := Ground.data }], guard := none }) (v := ?_) rfl (by kernel_rfl) (by kernel_rfl) (by kernel_rfl) (fun _ _ _ h => h) (Or.inl ⟨by rfl, ?_⟩) hHeld ?_
  rotate_left
  · intro u hSw
    go_simp
    try with_reducible rfl
  try simp only [Act.put, List.setIfInBounds_toArray, List.set_cons_zero, List.set_cons_succ]
  refine wpAnyH_take (i := 3) (oi := { dst := some 86, op := Op.move (Operand.tmp 7), type := 24, pos := "law.go:31", after := #[{ on := 2, ground := Ground.guard }], guard := some (2, true) }) (v := ?_) rfl (by kernel_rfl) (by kernel_rfl) (by kernel_rfl) (fun _ _ _ h => h) (Or.inl ⟨by rfl, ?_⟩) hHeld ?_
  rotate_left
  · intro u hSw
    go_simp
    try with_reducible rfl
  try simp only [Act.put, List.setIfInBounds_toArray, List.set_cons_zero, List.set_cons_succ]
  refine wpAnyH_take (i := 4) (oi := { dst := some 87, op := Op.binOp BinOp.eql 24 (Operand.tmp 86) (Operand.const Value.nilIface) 24, type := 4, pos := "law.go:31", after := #[{ on := 3, ground := Ground.data }, { on := 2, ground := Ground.guard }], guard := some (2, true) }) (v := ?_) rfl (by kernel_rfl) (by kernel_rfl) (by kernel_rfl) (fun _ _ _ h => h) (Or.inl ⟨by rfl, ?_⟩) hHeld ?_
  rotate_left
  · intro u hSw
    go_simp
    try with_reducible rfl
  try simp only [Act.put, List.setIfInBounds_toArray, List.set_cons_zero, List.set_cons_succ]
  refine wpAnyH_take (i := 5) (oi := { dst := some 88, op := Op.pick (Operand.tmp 85) (Operand.tmp 87) (Operand.const (Value.bool false)), type := 4, pos := "law.go:31", after := #[{ on := 2, ground := Ground.data }, { on := 4, ground := Ground.data }], guard := none }) (v := ?_) rfl (by kernel_rfl) (by kernel_rfl) (by kernel_rfl) (fun _ _ _ h => h) (Or.inl ⟨by rfl, ?_⟩) hHeld ?_
  rotate_left
  · intro u hSw
    go_simp
    try with_reducible rfl
  try simp only [Act.put, List.setIfInBounds_toArray, List.set_cons_zero, List.set_cons_succ]
  refine wpAnyH_take (i := 6) (oi := { dst := some 89, op := Op.move (Operand.tmp 88), type := 4, pos := "law.go:31", after := #[{ on := 5, ground := Ground.data }, { on := 2, ground := Ground.chain }], guard := none }) (v := ?_) rfl (by kernel_rfl) (by kernel_rfl) (by kernel_rfl) (fun _ _ _ h => h) (Or.inl ⟨by rfl, ?_⟩) hHeld ?_
  rotate_left
  · intro u hSw
    go_simp
    try with_reducible rfl
  try simp only [Act.put, List.setIfInBounds_toArray, List.set_cons_zero, List.set_cons_succ]
  refine wpAnyH_take (i := 7) (oi := { dst := some 90, op := Op.move (Operand.tmp 9), type := 24, pos := "law.go:31", after := #[{ on := 6, ground := Ground.guard }], guard := some (6, true) }) (v := ?_) rfl (by kernel_rfl) (by kernel_rfl) (by kernel_rfl) (fun _ _ _ h => h) (Or.inl ⟨by rfl, ?_⟩) hHeld ?_
  rotate_left
  · intro u hSw
    go_simp
    try with_reducible rfl
  try simp only [Act.put, List.setIfInBounds_toArray, List.set_cons_zero, List.set_cons_succ]
  refine wpAnyH_take (i := 8) (oi := { dst := some 91, op := Op.binOp BinOp.eql 24 (Operand.tmp 90) (Operand.const Value.nilIface) 24, type := 4, pos := "law.go:31", after := #[{ on := 7, ground := Ground.data }, { on := 6, ground := Ground.guard }], guard := some (6, true) }) (v := ?_) rfl (by kernel_rfl) (by kernel_rfl) (by kernel_rfl) (fun _ _ _ h => h) (Or.inl ⟨by rfl, ?_⟩) hHeld ?_
  rotate_left
  · intro u hSw
    go_simp
    try with_reducible rfl
  try simp only [Act.put, List.setIfInBounds_toArray, List.set_cons_zero, List.set_cons_succ]
  refine wpAnyH_take (i := 9) (oi := { dst := some 92, op := Op.pick (Operand.tmp 89) (Operand.tmp 91) (Operand.const (Value.bool false)), type := 4, pos := "law.go:31", after := #[{ on := 6, ground := Ground.data }, { on := 8, ground := Ground.data }], guard := none }) (v := ?_) rfl (by kernel_rfl) (by kernel_rfl) (by kernel_rfl) (fun _ _ _ h => h) (Or.inl ⟨by rfl, ?_⟩) hHeld ?_
  rotate_left
  · intro u hSw
    go_simp
    try with_reducible rfl
  try simp only [Act.put, List.setIfInBounds_toArray, List.set_cons_zero, List.set_cons_succ]
  refine wpAnyH_take (i := 10) (oi := { dst := some 93, op := Op.move (Operand.tmp 92), type := 4, pos := "law.go:31", after := #[{ on := 9, ground := Ground.data }, { on := 6, ground := Ground.chain }], guard := none }) (v := ?_) rfl (by kernel_rfl) (by kernel_rfl) (by kernel_rfl) (fun _ _ _ h => h) (Or.inl ⟨by rfl, ?_⟩) hHeld ?_
  rotate_left
  · intro u hSw
    go_simp
    try with_reducible rfl
  try simp only [Act.put, List.setIfInBounds_toArray, List.set_cons_zero, List.set_cons_succ]
  refine wpAnyH_take (i := 11) (oi := { dst := some 94, op := Op.move (Operand.tmp 11), type := 24, pos := "law.go:31", after := #[{ on := 10, ground := Ground.guard }], guard := some (10, true) }) (v := ?_) rfl (by kernel_rfl) (by kernel_rfl) (by kernel_rfl) (fun _ _ _ h => h) (Or.inl ⟨by rfl, ?_⟩) hHeld ?_
  rotate_left
  · intro u hSw
    go_simp
    try with_reducible rfl
  try simp only [Act.put, List.setIfInBounds_toArray, List.set_cons_zero, List.set_cons_succ]
  refine wpAnyH_take (i := 12) (oi := { dst := some 95, op := Op.binOp BinOp.eql 24 (Operand.tmp 94) (Operand.const Value.nilIface) 24, type := 4, pos := "law.go:31", after := #[{ on := 11, ground := Ground.data }, { on := 10, ground := Ground.guard }], guard := some (10, true) }) (v := ?_) rfl (by kernel_rfl) (by kernel_rfl) (by kernel_rfl) (fun _ _ _ h => h) (Or.inl ⟨by rfl, ?_⟩) hHeld ?_
  rotate_left
  · intro u hSw
    go_simp
    try with_reducible rfl
  try simp only [Act.put, List.setIfInBounds_toArray, List.set_cons_zero, List.set_cons_succ]
  refine wpAnyH_take (i := 13) (oi := { dst := some 96, op := Op.pick (Operand.tmp 93) (Operand.tmp 95) (Operand.const (Value.bool false)), type := 4, pos := "law.go:31", after := #[{ on := 10, ground := Ground.data }, { on := 12, ground := Ground.data }], guard := none }) (v := ?_) rfl (by kernel_rfl) (by kernel_rfl) (by kernel_rfl) (fun _ _ _ h => h) (Or.inl ⟨by rfl, ?_⟩) hHeld ?_
  rotate_left
  · intro u hSw
    go_simp
    try with_reducible rfl
  try simp only [Act.put, List.setIfInBounds_toArray, List.set_cons_zero, List.set_cons_succ]
  refine wpAnyH_take (i := 14) (oi := { dst := some 97, op := Op.move (Operand.tmp 96), type := 4, pos := "law.go:31", after := #[{ on := 13, ground := Ground.data }, { on := 10, ground := Ground.chain }], guard := none }) (v := ?_) rfl (by kernel_rfl) (by kernel_rfl) (by kernel_rfl) (fun _ _ _ h => h) (Or.inl ⟨by rfl, ?_⟩) hHeld ?_
  rotate_left
  · intro u hSw
    go_simp
    try with_reducible rfl
  try simp only [Act.put, List.setIfInBounds_toArray, List.set_cons_zero, List.set_cons_succ]
  refine wpAnyH_take (i := 15) (oi := { dst := some 98, op := Op.move (Operand.tmp 6), type := 3, pos := "law.go:31", after := #[{ on := 14, ground := Ground.guard }], guard := some (14, true) }) (v := ?_) rfl (by kernel_rfl) (by kernel_rfl) (by kernel_rfl) (fun _ _ _ h => h) (Or.inl ⟨by rfl, ?_⟩) hHeld ?_
  rotate_left
  · intro u hSw
    go_simp
    try with_reducible rfl
  try simp only [Act.put, List.setIfInBounds_toArray, List.set_cons_zero, List.set_cons_succ]
  refine wpAnyH_take (i := 16) (oi := { dst := some 99, op := Op.move (Operand.tmp 0), type := 3, pos := "law.go:31", after := #[{ on := 14, ground := Ground.guard }], guard := some (14, true) }) (v := ?_) rfl (by kernel_rfl) (by kernel_rfl) (by kernel_rfl) (fun _ _ _ h => h) (Or.inl ⟨by rfl, ?_⟩) hHeld ?_
  rotate_left
  · intro u hSw
    go_simp
    try with_reducible rfl
  try simp only [Act.put, List.setIfInBounds_toArray, List.set_cons_zero, List.set_cons_succ]
  refine wpAnyH_take (i := 17) (oi := { dst := some 100, op := Op.move (Operand.tmp 1), type := 3, pos := "law.go:31", after := #[{ on := 14, ground := Ground.guard }], guard := some (14, true) }) (v := ?_) rfl (by kernel_rfl) (by kernel_rfl) (by kernel_rfl) (fun _ _ _ h => h) (Or.inl ⟨by rfl, ?_⟩) hHeld ?_
  rotate_left
  · intro u hSw
    go_simp
    try with_reducible rfl
  try simp only [Act.put, List.setIfInBounds_toArray, List.set_cons_zero, List.set_cons_succ]
  refine wpAnyH_ready (rs := [18]) (by kernel_rfl) (by simp) ?_
  refine AllReadyH.cons (o := { dst := some 101, op := Op.call { callee := Callee.value (Operand.func 14), args := #[Operand.tmp 99, Operand.tmp 100], argTypes := #[3, 3] }, type := 3, pos := "law.go:31", after := #[{ on := 16, ground := Ground.data }, { on := 17, ground := Ground.data }, { on := 14, ground := Ground.chain }, { on := 14, ground := Ground.guard }], guard := some (14, true) }) rfl (fun K hK => ?_) AllReadyH.nil
  go_simp
  refine Calls.mono (rgroup_F k r _ h1 h2 h3) ?_
  rw [← HG.out]
  rintro e w' ⟨rfl, rfl⟩
  go_wp2_with fail
  refine hK.out _ _ ?_ (fun hHeld => ?_)
  · exact grownBy_drew (World.grownBy.refl _ _)
  clear hK K
  try simp only [Act.put, List.setIfInBounds_toArray, List.set_cons_zero, List.set_cons_succ]
  refine wpAnyH_take (i := 19) (oi := { dst := some 102, op := Op.binOp BinOp.eql 3 (Operand.tmp 98) (Operand.tmp 101) 3, type := 4, pos := "law.go:31", after := #[{ on := 15, ground := Ground.data }, { on := 18, ground := Ground.data }, { on := 14, ground := Ground.guard }], guard := some (14, true) }) (v := ?_) rfl (by kernel_rfl) (by kernel_rfl) (by kernel_rfl) (fun _ _ _ h => h) (Or.inl ⟨by rfl, ?_⟩) hHeld ?_
  rotate_left
  · intro u hSw
    go_simp
    try with_reducible rfl
  try simp only [Act.put, List.setIfInBounds_toArray, List.set_cons_zero, List.set_cons_succ]
  refine wpAnyH_take (i := 20) (oi := { dst := some 103, op := Op.pick (Operand.tmp 97) (Operand.tmp 102) (Operand.const (Value.bool false)), type := 4, pos := "law.go:31", after := #[{ on := 14, ground := Ground.data }, { on := 19, ground := Ground.data }], guard := none }) (v := ?_) rfl (by kernel_rfl) (by kernel_rfl) (by kernel_rfl) (fun _ _ _ h => h) (Or.inl ⟨by rfl, ?_⟩) hHeld ?_
  rotate_left
  · intro u hSw
    go_simp
    try with_reducible rfl
  try simp only [Act.put, List.setIfInBounds_toArray, List.set_cons_zero, List.set_cons_succ]
  refine wpAnyH_take (i := 21) (oi := { dst := some 104, op := Op.move (Operand.tmp 103), type := 4, pos := "law.go:31", after := #[{ on := 20, ground := Ground.data }, { on := 18, ground := Ground.chain }], guard := none }) (v := ?_) rfl (by kernel_rfl) (by kernel_rfl) (by kernel_rfl) (fun _ _ _ h => h) (Or.inl ⟨by rfl, ?_⟩) hHeld ?_
  rotate_left
  · intro u hSw
    go_simp
    try with_reducible rfl
  try simp only [Act.put, List.setIfInBounds_toArray, List.set_cons_zero, List.set_cons_succ]
  refine wpAnyH_take (i := 22) (oi := { dst := some 105, op := Op.load 30 (Operand.tmp 8), type := 30, pos := "law.go:31", after := #[{ on := 21, ground := Ground.guard }], guard := some (21, true) }) (v := ?_) rfl (by kernel_rfl) (by kernel_rfl) (by kernel_rfl) (fun _ _ _ h => h) (Or.inl ⟨by rfl, ?_⟩) hHeld ?_
  rotate_left
  · intro u hSw
    have q0 := cellAt (HPB'.out u hSw) 0 _ rfl
    have q1 := cellAt (HPB'.out u hSw) 1 _ rfl
    have q2 := cellAt (HPB'.out u hSw) 2 _ rfl
    go_simp
    try with_reducible rfl
  try simp only [Act.put, List.setIfInBounds_toArray, List.set_cons_zero, List.set_cons_succ]
  refine wpAnyH_take (i := 23) (oi := { dst := some 106, op := Op.move (Operand.tmp 0), type := 3, pos := "law.go:31", after := #[{ on := 21, ground := Ground.guard }], guard := some (21, true) }) (v := ?_) rfl (by kernel_rfl) (by kernel_rfl) (by kernel_rfl) (fun _ _ _ h => h) (Or.inl ⟨by rfl, ?_⟩) hHeld ?_
  rotate_left
  · intro u hSw
    go_simp
    try with_reducible rfl
  try simp only [Act.put, List.setIfInBounds_toArray, List.set_cons_zero, List.set_cons_succ]
  refine wpAnyH_take (i := 24) (oi := { dst := some 107, op := Op.move (Operand.tmp 1), type := 3, pos := "law.go:31", after := #[{ on := 21, ground := Ground.guard }], guard := some (21, true) }) (v := ?_) rfl (by kernel_rfl) (by kernel_rfl) (by kernel_rfl) (fun _ _ _ h => h) (Or.inl ⟨by rfl, ?_⟩) hHeld ?_
  rotate_left
  · intro u hSw
    go_simp
    try with_reducible rfl
  try simp only [Act.put, List.setIfInBounds_toArray, List.set_cons_zero, List.set_cons_succ]
  refine wpAnyH_ready (rs := [25]) (by kernel_rfl) (by simp) ?_
  refine AllReadyH.cons (o := { dst := some 108, op := Op.call { callee := Callee.value (Operand.func 16), args := #[Operand.tmp 106, Operand.tmp 107], argTypes := #[3, 3] }, type := 30, pos := "law.go:31", after := #[{ on := 23, ground := Ground.data }, { on := 24, ground := Ground.data }, { on := 21, ground := Ground.chain }, { on := 21, ground := Ground.guard }], guard := some (21, true) }) rfl (fun K hK => ?_) AllReadyH.nil
  go_simp
  refine Calls.mono (rparity_F k r _ h1 h2 h3) ?_
  rintro e w6 ⟨g6, m6, rfl, hm6, hg6, hh6, hb6⟩
  have HB6 : Hid _ := hb6
  have HH6 : Hid _ := hh6
  have HM6 : Hid _ := hm6
  have HS6 : Hid (wr.grownBy w6 (some gm)) := grown_below (grownBy_drew (World.grownBy.refl _ _)) hb6
  clear hb6 hh6 hg6 hm6
  go_wp2_with fail
  refine hK.out _ _ ?_ (fun hHeld => ?_)
  · exact HS6.out
  clear hK K
  try simp only [Act.put, List.setIfInBounds_toArray, List.set_cons_zero, List.set_cons_succ]
  refine wpAnyH_ready (rs := [26]) (by kernel_rfl) (by simp) ?_
  refine AllReadyH.cons (o := { dst := some 109, op := Op.call { callee := Callee.value (Operand.func 15), args := #[Operand.tmp 105, Operand.tmp 108], argTypes := #[30, 30] }, type := 4, pos := "law.go:31", after := #[{ on := 22, ground := Ground.data }, { on := 25, ground := Ground.data }, { on := 25, ground := Ground.chain }, { on := 21, ground := Ground.guard }], guard := some (21, true) }) rfl (fun K hK => ?_) AllReadyH.nil
  go_simp
  refine Calls.mono (sameMatrix_F r k (some ⟨gp, 0, none⟩) (some ⟨g6, 0, none⟩) mp mp m6 m6 (parM k r) (parM k r) _ (by rw [HMP.out, parM_len]) (by rw [HM6.out, parM_len]) (row8_own (heap_later (w := wr.drew) HGP.out HB6.out)) (row8_own HH6.out)) ?_
  rw [eqB_true]
  rintro e w7 ⟨rfl, hb7⟩
  have HB7 : Hid _ := hb7
  have HS7 : Hid (wr.grownBy w7 (some gm)) := grown_below HS6.out hb7
  have HGM7 : Hid _ := heap_later (heap_later (w := wr.drew) HGM.out HB6.out) hb7
  clear hb7
  go_wp2_with fail
  refine hK.out _ _ ?_ (fun hHeld => ?_)
  · exact HS7.out
  clear hK K
  try simp only [Act.put, List.setIfInBounds_toArray, List.set_cons_zero, List.set_cons_succ]
  refine wpAnyH_take (i := 27) (oi := { dst := some 110, op := Op.pick (Operand.tmp 104) (Operand.tmp 109) (Operand.const (Value.bool false)), type := 4, pos := "law.go:31", after := #[{ on := 21, ground := Ground.data }, { on := 26, ground := Ground.data }], guard := none }) (v := ?_) rfl (by kernel_rfl) (by kernel_rfl) (by kernel_rfl) (fun _ _ _ h => h) (Or.inl ⟨by rfl, ?_⟩) hHeld ?_
  rotate_left
  · intro u hSw
    go_simp
    try with_reducible rfl
  try simp only [Act.put, List.setIfInBounds_toArray, List.set_cons_zero, List.set_cons_succ]
  refine wpAnyH_take (i := 28) (oi := { dst := some 111, op := Op.move (Operand.tmp 110), type := 4, pos := "law.go:31", after := #[{ on := 27, ground := Ground.data }, { on := 26, ground := Ground.chain }], guard := none }) (v := ?_) rfl (by kernel_rfl) (by kernel_rfl) (by kernel_rfl) (fun _ _ _ h => h) (Or.inl ⟨by rfl, ?_⟩) hHeld ?_
  rotate_left
  · intro u hSw
    go_simp
    try with_reducible rfl
  try simp only [Act.put, List.setIfInBounds_toArray, List.set_cons_zero, List.set_cons_succ]
  refine wpAnyH_take (i := 29) (oi := { dst := some 112, op := Op.load 30 (Operand.tmp 10), type := 30, pos := "law.go:31", after := #[{ on := 28, ground := Ground.guard }], guard := some (28, true) }) (v := ?_) rfl (by kernel_rfl) (by kernel_rfl) (by kernel_rfl) (fun _ _ _ h => h) (Or.inl ⟨by rfl, ?_⟩) hHeld ?_
  rotate_left
  · intro u hSw
    have q0 := cellAt (HM'.out u hSw) 0 _ rfl
    have q1 := cellAt (HM'.out u hSw) 1 _ rfl
    have q2 := cellAt (HM'.out u hSw) 2 _ rfl
    go_simp
    try with_reducible rfl
  try simp only [Act.put, List.setIfInBounds_toArray, List.set_cons_zero, List.set_cons_succ]
  refine wpAnyH_take (i := 30) (oi := { dst := some 113, op := Op.move (Operand.tmp 0), type := 3, pos := "law.go:31", after := #[{ on := 28, ground := Ground.guard }], guard := some (28, true) }) (v := ?_) rfl (by kernel_rfl) (by kernel_rfl) (by kernel_rfl) (fun _ _ _ h => h) (Or.inl ⟨by rfl, ?_⟩) hHeld ?_
  rotate_left
  · intro u hSw
    go_simp
    try with_reducible rfl
  try simp only [Act.put, List.setIfInBounds_toArray, List.set_cons_zero, List.set_cons_succ]
  refine wpAnyH_take (i := 31) (oi := { dst := some 114, op := Op.move (Operand.tmp 1), type := 3, pos := "law.go:31", after := #[{ on := 28, ground := Ground.guard }], guard := some (28, true) }) (v := ?_) rfl (by kernel_rfl) (by kernel_rfl) (by kernel_rfl) (fun _ _ _ h => h) (Or.inl ⟨by rfl, ?_⟩) hHeld ?_
  rotate_left
  · intro u hSw
    go_simp
    try with_reducible rfl
  try simp only [Act.put, List.setIfInBounds_toArray, List.set_cons_zero, List.set_cons_succ]
  refine wpAnyH_ready (rs := [32]) (by kernel_rfl) (by simp) ?_
  refine AllReadyH.cons (o := { dst := some 115, op := Op.call { callee := Callee.value (Operand.func 17), args := #[Operand.tmp 113, Operand.tmp 114], argTypes := #[3, 3] }, type := 30, pos := "law.go:31", after := #[{ on := 30, ground := Ground.data }, { on := 31, ground := Ground.data }, { on := 28, ground := Ground.chain }, { on := 28, ground := Ground.guard }], guard := some (28, true) }) rfl (fun K hK => ?_) AllReadyH.nil
  go_simp
  refine Calls.mono (rgenerator_F k r _ h1 h2 h3) ?_
  rintro e w8 ⟨g8, m8, c8, rfl, hm8, hg8, hh8, hb8⟩
  have e9 : ((k + r : Nat) : Int) = p := by rw [HP.out]
  rw [e9]
  have HB8 : Hid _ := hb8
  have HH8 : Hid _ := hh8
  have HM8 : Hid _ := hm8
  have HS8 : Hid (wr.grownBy w8 (some gm)) := grown_below HS7.out hb8
  have HGM8 : Hid _ := heap_later HGM7.out hb8
  clear hb8 hh8 hg8 hm8 e9
  go_wp2_with fail
  refine hK.out _ _ ?_ (fun hHeld => ?_)
  · exact HS8.out
  clear hK K
  try simp only [Act.put, List.setIfInBounds_toArray, List.set_cons_zero, List.set_cons_succ]
  refine wpAnyH_ready (rs := [33]) (by kernel_rfl) (by simp) ?_
  refine AllReadyH.cons (o := { dst := some 116, op := Op.call { callee := Callee.value (Operand.func 15), args := #[Operand.tmp 112, Operand.tmp 115], argTypes := #[30, 30] }, type := 4, pos := "law.go:31", after := #[{ on := 29, ground := Ground.data }, { on := 32, ground := Ground.data }, { on := 32, ground := Ground.chain }, { on := 28, ground := Ground.guard }], guard := some (28, true) }) rfl (fun K hK => ?_) AllReadyH.nil
  go_simp
  refine Calls.mono (sameMatrix_F p k (some ⟨gm, 0, none⟩) (some ⟨g8, 0, none⟩) mm mm m8 c8 (genM k r) (genM k r) _ (by rw [HMM.out, genM_len]) (by rw [HM8.out, genM_len]) (row8_own HGM8.out) (row8_has HH8.out)) ?_
  rw [eqB_true]
  rintro e w9 ⟨rfl, hb9⟩
  have HS9 : Hid (wr.grownBy w9 (some gm)) := grown_below HS8.out hb9
  have HGM9 : Hid _ := heap_later HGM8.out hb9
  have HMB : Hid (mm ≤ 140737488351232) := by
    show _ ≤ _
    rw [HMM.out]; exact Nat.le_trans (Nat.mul_le_mul (show k + r ≤ 16 by omega) (show k ≤ 16 by omega)) (by decide)
  have HH9 : Hid (Has8 w9 gp (parM k r) mp) := by
    have h1' : mp = (parM k r).length := by rw [HMP.out, parM_len]
    have h2' : mp ≤ 256 := by rw [HMP.out]; exact Nat.le_trans (Nat.mul_le_mul (show r ≤ 16 by omega) (show k ≤ 16 by omega)) (by decide)
    show Has8 _ _ _ _
    rw [h1']
    exact has8_full (grown_block HS9.out HGP.out HNE.out.1) (by rw [← h1']; simp only [maxLen]; omega)
  clear hb9
  go_wp2_with fail
  refine hK.out _ _ ?_ (fun hHeld => ?_)
  · exact HS9.out
  clear hK K
  try simp only [Act.put, List.setIfInBounds_toArray, List.set_cons_zero, List.set_cons_succ]
  refine wpAnyH_take (i := 34) (oi := { dst := some 117, op := Op.pick (Operand.tmp 111) (Operand.tmp 116) (Operand.const (Value.bool false)), type := 4, pos := "law.go:31", after := #[{ on := 28, ground := Ground.data }, { on := 33, ground := Ground.data }], guard := none }) (v := ?_) rfl (by kernel_rfl) (by kernel_rfl) (by kernel_rfl) (fun _ _ _ h => h) (Or.inl ⟨by rfl, ?_⟩) hHeld ?_
  rotate_left
  · intro u hSw
    go_simp
    try with_reducible rfl
  try simp only [Act.put, List.setIfInBounds_toArray, List.set_cons_zero, List.set_cons_succ]
  refine wpAnyH_take (i := 35) (oi := { dst := some 118, op := Op.move (Operand.tmp 117), type := 4, pos := "law.go:31", after := #[{ on := 34, ground := Ground.data }, { on := 33, ground := Ground.chain }], guard := none }) (v := ?_) rfl (by kernel_rfl) (by kernel_rfl) (by kernel_rfl) (fun _ _ _ h => h) (Or.inl ⟨by rfl, ?_⟩) hHeld ?_
  rotate_left
  · intro u hSw
    go_simp
    try with_reducible rfl
  try simp only [Act.put, List.setIfInBounds_toArray, List.set_cons_zero, List.set_cons_succ]
  refine wpAnyH_take (i := 36) (oi := { dst := some 119, op := Op.fieldAddr 30 (Operand.tmp 8) 2, type := 0, pos := "law.go:31", after := #[{ on := 35, ground := Ground.guard }], guard := some (35, true) }) (v := ?_) rfl (by kernel_rfl) (by kernel_rfl) (by kernel_rfl) (fun _ _ _ h => h) (Or.inl ⟨by rfl, ?_⟩) hHeld ?_
  rotate_left
  · intro u hSw
    go_simp
    try with_reducible rfl
  try simp only [Act.put, List.setIfInBounds_toArray, List.set_cons_zero, List.set_cons_succ]
  refine wpAnyH_take (i := 37) (oi := { dst := some 120, op := Op.load 28 (Operand.tmp 119), type := 28, pos := "law.go:31", after := #[{ on := 36, ground := Ground.data }, { on := 35, ground := Ground.guard }], guard := some (35, true) }) (v := ?_) rfl (by kernel_rfl) (by kernel_rfl) (by kernel_rfl) (fun _ _ _ h => h) (Or.inl ⟨by rfl, ?_⟩) hHeld ?_
  rotate_left
  · intro u hSw
    have q2 := cellAt (HPB'.out u hSw) 2 _ rfl
    go_simp
    try with_reducible rfl
  try simp only [Act.put, List.setIfInBounds_toArray, List.set_cons_zero, List.set_cons_succ]
  refine wpAnyH_take (i := 38) (oi := { dst := some 121, op := Op.fieldAddr 30 (Operand.tmp 10) 2, type := 0, pos := "law.go:31", after := #[{ on := 35, ground := Ground.guard }], guard := some (35, true) }) (v := ?_) rfl (by kernel_rfl) (by kernel_rfl) (by kernel_rfl) (fun _ _ _ h => h) (Or.inl ⟨by rfl, ?_⟩) hHeld ?_
  rotate_left
  · intro u hSw
    go_simp
    try with_reducible rfl
  try simp only [Act.put, List.setIfInBounds_toArray, List.set_cons_zero, List.set_cons_succ]
  refine wpAnyH_take (i := 39) (oi := { dst := some 122, op := Op.load 28 (Operand.tmp 121), type := 28, pos := "law.go:31", after := #[{ on := 38, ground := Ground.data }, { on := 35, ground := Ground.guard }], guard := some (35, true) }) (v := ?_) rfl (by kernel_rfl) (by kernel_rfl) (by kernel_rfl) (fun _ _ _ h => h) (Or.inl ⟨by rfl, ?_⟩) hHeld ?_
  rotate_left
  · intro u hSw
    have q2 := cellAt (HM'.out u hSw) 2 _ rfl
    go_simp
    try with_reducible rfl
  try simp only [Act.put, List.setIfInBounds_toArray, List.set_cons_zero, List.set_cons_succ]
  refine wpAnyH_ready (rs := [40]) (by kernel_rfl) (by simp) ?_
  refine AllReadyH.cons (o := { dst := some 123, op := Op.call { callee := Callee.value (Operand.func 18), args := #[Operand.tmp 120, Operand.tmp 122], argTypes := #[28, 28] }, type := 4, pos := "law.go:31", after := #[{ on := 37, ground := Ground.data }, { on := 39, ground := Ground.data }, { on := 35, ground := Ground.chain }, { on := 35, ground := Ground.guard }], guard := some (35, true) }) rfl (fun K hK => ?_) AllReadyH.nil
  go_simp
  refine Calls.mono (apart_F gp gm mp mm mp (parM k r) (genM k r) _ (by rw [HMP.out, parM_len]) (by rw [HMM.out, genM_len]) (HMB.out) HNE.out.1 HH9.out HGM9.out) ?_
  rintro e wZ ⟨rfl, hbZ, _⟩
  have HSZ : Hid (wr.grownBy wZ (some gm)) := grownBy_trans HS9.out hbZ (fun _ _ h => h)
  clear hbZ
  go_wp2_with fail
  refine hK.out _ _ ?_ (fun hHeld => ?_)
  · exact HSZ.out
  clear hK K
  try simp only [Act.put, List.setIfInBounds_toArray, List.set_cons_zero, List.set_cons_succ]
  refine wpAnyH_take (i := 41) (oi := { dst := some 124, op := Op.pick (Operand.tmp 118) (Operand.tmp 123) (Operand.const (Value.bool false)), type := 4, pos := "law.go:31", after := #[{ on := 35, ground := Ground.data }, { on := 40, ground := Ground.data }], guard := none }) (v := ?_) rfl (by kernel_rfl) (by kernel_rfl) (by kernel_rfl) (fun _ _ _ h => h) (Or.inl ⟨by rfl, ?_⟩) hHeld ?_
  rotate_left
  · intro u hSw
    go_simp
    try with_reducible rfl
  try simp only [Act.put, List.setIfInBounds_toArray, List.set_cons_zero, List.set_cons_succ]
  refine wpAnyH_take (i := 42) (oi := { dst := some 4, op := Op.assign (Operand.tmp 124), type := 4, pos := "law.go:31", after := #[{ on := 41, ground := Ground.data }, { on := 40, ground := Ground.chain }, { on := 0, ground := Ground.phase }, { on := 1, ground := Ground.phase }, { on := 2, ground := Ground.phase }, { on := 3, ground := Ground.phase }, { on := 4, ground := Ground.phase }, { on := 5, ground := Ground.phase }, { on := 6, ground := Ground.phase }, { on := 7, ground := Ground.phase }, { on := 8, ground := Ground.phase }, { on := 9, ground := Ground.phase }, { on := 10, ground := Ground.phase }, { on := 11, ground := Ground.phase }, { on := 12, ground := Ground.phase }, { on := 13, ground := Ground.phase }, { on := 14, ground := Ground.phase }, { on := 15, ground := Ground.phase }, { on := 16, ground := Ground.phase }, { on := 17, ground := Ground.phase }, { on := 18, ground := Ground.phase }, { on := 19, ground := Ground.phase }, { on := 20, ground := Ground.phase }, { on := 21, ground := Ground.phase }, { on := 22, ground := Ground.phase }, { on := 23, ground := Ground.phase }, { on := 24, ground := Ground.phase }, { on := 25, ground := Ground.phase }, { on := 26, ground := Ground.phase }, { on := 27, ground := Ground.phase }, { on := 28, ground := Ground.phase }, { on := 29, ground := Ground.phase }, { on := 30, ground := Ground.phase }, { on := 31, ground := Ground.phase }, { on := 32, ground := Ground.phase }, { on := 33, ground := Ground.phase }, { on := 34, ground := Ground.phase }, { on := 35, ground := Ground.phase }, { on := 36, ground := Ground.phase }, { on := 37, ground := Ground.phase }, { on := 38, ground := Ground.phase }, { on := 39, ground := Ground.phase }, { on := 40, ground := Ground.phase }, { on := 41, ground := Ground.phase }], guard := none }) (v := ?_) rfl (by kernel_rfl) (by kernel_rfl) (by kernel_rfl) (fun _ _ _ h => h) (Or.inl ⟨by rfl, ?_⟩) hHeld ?_
  rotate_left
  · intro u hSw
    go_simp
    try with_reducible rfl
  try simp only [Act.put, List.setIfInBounds_toArray, List.set_cons_zero, List.set_cons_succ]
  refine wpAnyH_done (by kernel_rfl) ?_ _
  refine NoPanic.normal ?_
  go_wp2
  go_ret
  exact ⟨rfl, below_grown HW.out HSZ.out HNE.out.2⟩
theorem params_walk (k r : Int) (w : World) (hk0 : -9223372036854775808 ≤ k) (hk1 : k ≤ 9223372036854775807) (hr0 : -9223372036854775808 ≤ r) (hr1 : r ≤ 9223372036854775807) (es : List Addr) (hes : ErrsAt w gsBase es) :
    Calls Tryd.prog 3 #[.int .i64 k, .int .i64 r] w fun e w' => e = .returned (.bool true) ∧ Below w.heap.size w w' := by
  obtain ⟨s0, _, hs0, _⟩ := errs_at hes 0 _ rfl
  obtain ⟨s1, _, hs1, _⟩ := errs_at hes 1 _ rfl
  by_cases hL : LegalP k r
  · obtain ⟨a, b, rfl, rfl, h1, h2, h3⟩ := legal_nat hL
    exact params_ok a b w s1 hs1 h1 h2 h3
  · exact params_bad k r w hk0 hk1 hr0 hr1 s0 hs0 hL
end Go.Proofs.YtokepcikpkffpaaDoor
