/- The walk of the statement GfBilinear: it returns true of all lists and elements. -/
import Derived.Test.YtmepggihgbjfiaaGfStr
import Derived.Test.YtmepggihgbjfiaaGfAlive
import Derived.Test.YtmepggihgbjfiaaGfLawsW2
import Derived.Test.YtmepggihgbjfiaaRegHeld
namespace Go.Proofs.Ytmepggihgbjfiaa
open Go.RowKit Gf
set_option linter.unusedVariables false
theorem row_take {w : World} {a : Option Addr} {xs : List F} (n : Nat) (h : Row8 w a xs) : Row8 w a (xs.take n) := by
  rcases h with rfl | ⟨b, off, rfl, h⟩
  · exact .inl (by simp)
  · refine .inr ⟨b, off, rfl, fun j hj => ?_⟩
    have hj' : j < xs.length := by rw [List.length_take] at hj; omega
    have hn : j < n := by rw [List.length_take] at hj; omega
    rw [h j hj']
    simp only [at8, List.getD_eq_getElem?_getD, List.getElem?_take_of_lt hn]
theorem dot_B (a b : Option Addr) (la ca lb cb : Nat) (xs ys : List F) (v : F) (W : World) (hv : dot xs ys = v) (ha : la = xs.length) (hb : lb = ys.length) (hm : la ≤ 140737488355328) (hn : lb ≤ 140737488355328)
    (hx : Row8 W a xs) (hy : Row8 W b ys) :
    Calls Try.prog 25 #[.slice a la ca, .slice b lb cb] W fun e w' => e = .returned (.int .u8 v.toNat) ∧ Below W.heap.size W w' := by
  subst hv
  exact (dot_any a b la ca lb cb xs ys W ha hb (by simp only [maxLen]; omega) (by simp only [maxLen]; omega) hx hy).mono fun e w' ⟨he, n, hw⟩ => ⟨he, by rw [hw]; exact below_drewN (Below.refl _ _) n⟩
theorem conv_keep {w : World} {a : Option Addr} {la ca : Nat} {xs : List F} (hla : la = xs.length) (hx : ∀ w', Below w.heap.size w w' → Row8 w' a xs) :
    ∀ w', Below w.heap.size w w' → (convert 31 9 (.slice a la ca)).run Try.prog w' = .ok (.string (str8 xs)) w' := fun w' hb => conv8 hla (hx w' hb)
theorem addScaled_C (x : F) (a b : Option Addr) (la ca lb cb : Nat) (xs ys zs : List F) (W : World) (hz : scaled x xs ys = zs) (hla : la = xs.length) (hlb : lb = ys.length) (ha : la ≤ 140737488355328) (hb : lb ≤ 140737488355328)
    (hx : Row8 W a xs) (hy : Row8 W b ys) :
    Calls Try.prog 24 #[.slice a la ca, .int .u8 x.toNat, .slice b lb cb] W fun e w' => ∃ g, e = .returned (.slice (some ⟨g, 0, none⟩) zs.length zs.length) ∧
      Below W.heap.size W w' ∧ w'.heap[g]? = some (.cells (vfs zs) 5 (0, 0)) ∧ Below w'.heap.size w' w' ∧
      ∀ w'', Below w'.heap.size w' w'' → (convert 31 9 (.slice (some ⟨g, 0, none⟩) zs.length zs.length)).run Try.prog w'' = .ok (.string (str8 zs)) w'' :=
  (addScaled_B x a b la ca lb cb xs ys zs W.heap.size W W (Below.refl _ _) (Nat.le_refl _) hz hla hlb ha hb hx hy).mono fun _ _ ⟨g, he, _, h1, _, h3⟩ =>
    ⟨g, he, h1, h3, Below.refl _ _, conv_keep rfl (row_keep (row8_own h3))⟩
theorem sum_C (a b : Option Addr) (la ca lb cb : Nat) (xs ys zs : List F) (W : World) (hz : scaled 1 xs ys = zs) (hla : la = xs.length) (hlb : lb = ys.length) (ha : la ≤ 140737488355328) (hb : lb ≤ 140737488355328)
    (hx : Row8 W a xs) (hy : Row8 W b ys) :
    Calls Try.prog 22 #[.slice a la ca, .slice b lb cb] W fun e w' => ∃ g, e = .returned (.slice (some ⟨g, 0, none⟩) zs.length zs.length) ∧
      Below W.heap.size W w' ∧ w'.heap[g]? = some (.cells (vfs zs) 5 (0, 0)) ∧ Below w'.heap.size w' w' ∧
      ∀ w'', Below w'.heap.size w' w'' → (convert 31 9 (.slice (some ⟨g, 0, none⟩) zs.length zs.length)).run Try.prog w'' = .ok (.string (str8 zs)) w'' :=
  (sum_B a b la ca lb cb xs ys zs W.heap.size W W (Below.refl _ _) (Nat.le_refl _) hz hla hlb ha hb hx hy).mono fun _ _ ⟨g, he, _, h1, _, h3⟩ =>
    ⟨g, he, h1, h3, Below.refl _ _, conv_keep rfl (row_keep (row8_own h3))⟩
set_option maxHeartbeats 8000000 in
theorem bilinear_A (a b d : Option Addr) (la ca lb cb ld cd : Nat) (xs ys zs : List F) (c : F) (w : World)
    (ka : la ≤ ca) (kb : lb ≤ cb) (kd : ld ≤ cd) (o1 : la ≤ lb) (o2 : la ≤ ld) (e1 : la = xs.length) (e2 : lb = ys.length) (e3 : ld = zs.length)
    (ha : la ≤ 140737488351232) (hb : lb ≤ 140737488351232) (hd : ld ≤ 140737488351232)
    (hx : Row8 w a xs) (hy : Row8 w b ys) (hz : Row8 w d zs) :
    Calls Try.prog 7 #[.agg #[.slice a la ca, .slice b lb cb, .slice d ld cd, .int .u8 c.toNat]] w fun e w' => e = .returned (.bool true) ∧ Below w.heap.size w w' := by
  have HX : Hid _ := row_take la hx
  have HY : Hid _ := row_take la hy
  have HZ : Hid _ := row_take la hz
  have HL1 : Hid (la = (xs.take la).length) := by show _ = _; rw [List.length_take]; omega
  have HL2 : Hid (la = (ys.take la).length) := by show _ = _; rw [List.length_take]; omega
  have HL3 : Hid (la = (zs.take la).length) := by show _ = _; rw [List.length_take]; omega
  have HM : Hid (la ≤ 140737488355328) := by show _ ≤ _; omega
  generalize xs.take la = X at HX HL1
  generalize ys.take la = Y at HY HL2
  generalize zs.take la = Z at HZ HL3
  have mX : X.length ≤ 140737488351232 := by have := HL1.out; omega
  have mY : Y.length ≤ 140737488351232 := by have := HL2.out; omega
  have mZ : Z.length ≤ 140737488351232 := by have := HL3.out; omega
  have mXY : (scaled c X Y).length ≤ 140737488355328 := by rw [scaled_len]; omega
  have mXY1 : (scaled 1 X Y).length ≤ 140737488355328 := by rw [scaled_len]; omega
  have HLYX : Hid (Y.length = X.length) := HL2.out.symm.trans HL1.out
  have HLZX : Hid (Z.length = X.length) := HL3.out.symm.trans HL1.out
  clear hx hy hz e1 e2 e3
  have q0 : la ≤ cb := by omega
  have q1 : la ≤ cd := by omega
  have q2 : la ≤ ca := by omega
  have p0 : (0 : Int) ≤ (la : Int) := by omega
  go_enter Try.func7, Try.ntmps7
  go_wp2_with fail
  refine Calls.mono (alive_ok _) ?_
  rintro r w1 ⟨rfl, hb1⟩
  have hbox := cells4 hb1
  have c0 := box_cell hbox 0 _ rfl
  have c1 := box_cell hbox 1 _ rfl
  have c2 := box_cell hbox 2 _ rfl
  have c3 := box_cell hbox 3 _ rfl
  have hB1 : Below w.heap.size w w1 := ((Below.refl _ _).alloc (Nat.le_refl _) _).trans (hb1.mono (by simp))
  have rA := row_keep (row8_below HX.out hB1)
  have rB := row_keep (row8_below HY.out hB1)
  have rD := row_keep (row8_below HZ.out hB1)
  have kA := conv_keep (ca := la) HL1.out rA
  have HB1 : Hid _ := hB1
  clear hb1 hbox hB1 HX HY HZ
  have hR : Below w1.heap.size w1 w1 := Below.refl _ _
  go_wp2
  go_region_held3 (fun w' => Below w1.heap.size w1 w') (first | assumption | (refine Below.drew ?_; assumption)) (fail)
  clear c0 c1 c2 c3 q0 q1 q2 hR
  go_wp2_with (first | (go_at_call 24; refine' (addScaled_C _ _ _ _ _ _ _ _ _ _ _ ?hz ?hla ?hlb ?ha ?hb ?hx ?hy).mono ?_; (case hx => (first | exact rA _ ‹_› | exact rB _ ‹_› | exact rD _ ‹_› | exact row8_own ‹_› | exact row8_below (row8_own ‹_›) ‹_›)); (case hy => (first | exact rA _ ‹_› | exact rB _ ‹_› | exact rD _ ‹_› | exact row8_own ‹_› | exact row8_below (row8_own ‹_›) ‹_›)); (case hla => (first | rfl | exact HL1.out | exact HL2.out | exact HL3.out)); (case hlb => (first | rfl | exact HL1.out | exact HL2.out | exact HL3.out)); (case hz => rfl); (case ha => (first | exact HM.out | ((try simp only [scaled_len]); omega))); (case hb => (first | exact HM.out | ((try simp only [scaled_len]); omega))); rintro r w' ⟨g, rfl, h1, h4, h5, h6⟩; have hT : Below w1.heap.size w1 w' := Below.trans ‹Below w1.heap.size w1 _› (Below.mono h1 (below_size ‹Below w1.heap.size w1 _›)); skip) | (go_at_call 25; refine' (dot_B _ _ _ _ _ _ _ _ (_) _ ?hv ?hla ?hlb ?ha ?hb ?hx ?hy).mono ?_; (case hx => (first | exact rA _ ‹_› | exact rB _ ‹_› | exact rD _ ‹_› | exact row8_own ‹_› | exact row8_below (row8_own ‹_›) ‹_›)); (case hy => (first | exact rA _ ‹_› | exact rB _ ‹_› | exact rD _ ‹_› | exact row8_own ‹_› | exact row8_below (row8_own ‹_›) ‹_›)); (case hla => (first | rfl | exact HL1.out | exact HL2.out | exact HL3.out)); (case hlb => (first | rfl | exact HL1.out | exact HL2.out | exact HL3.out)); (case hv => (first | exact dot_scaled _ _ _ _ HLZX.out | rfl)); (case ha => (first | exact HM.out | ((try simp only [scaled_len]); omega))); (case hb => (first | exact HM.out | ((try simp only [scaled_len]); omega))); rintro r w' ⟨rfl, h1⟩; have hT : Below w1.heap.size w1 w' := Below.trans ‹Below w1.heap.size w1 _› (Below.mono h1 (below_size ‹Below w1.heap.size w1 _›)); skip) | (go_at_call 17; refine (mul_F _ _ _).mono ?_; rintro r w' ⟨rfl, rfl⟩) | (go_at_call 16; refine (add_F _ _ _).mono ?_; rintro r w' ⟨rfl, rfl⟩))
  have hT0 := hT
  refine wp_region_noPanic ?_
  refine wp_region_held_drew (S := fun w' => Below w1.heap.size w1 w') (by kernel_rfl) ?_ (fun hHeld => ?_)
  · exact Below.drew hT
  have hTot : Below w1.heap.size w1 w1 := Below.refl _ _
  refine wpAnyH_take (i := 0) (oi := { dst := some 54, op := Op.move (Operand.tmp 8), type := 5, pos := "law.go:92", after := #[], guard := none }) (v := ?_) rfl (by kernel_rfl) (by kernel_rfl) (by kernel_rfl) (fun _ _ _ h => h) (Or.inl ⟨by rfl, ?_⟩) hHeld ?_
  rotate_left
  · intro u hSw
    go_simp
    try with_reducible rfl
  try simp only [Act.put, List.setIfInBounds_toArray, List.set_cons_zero, List.set_cons_succ]
  refine wpAnyH_take (i := 1) (oi := { dst := some 55, op := Op.move (Operand.tmp 9), type := 5, pos := "law.go:92", after := #[], guard := none }) (v := ?_) rfl (by kernel_rfl) (by kernel_rfl) (by kernel_rfl) (fun _ _ _ h => h) (Or.inl ⟨by rfl, ?_⟩) hHeld ?_
  rotate_left
  · intro u hSw
    go_simp
    try with_reducible rfl
  try simp only [Act.put, List.setIfInBounds_toArray, List.set_cons_zero, List.set_cons_succ]
  refine wpAnyH_take (i := 2) (oi := { dst := some 56, op := Op.binOp BinOp.eql 5 (Operand.tmp 54) (Operand.tmp 55) 5, type := 4, pos := "law.go:92", after := #[{ on := 0, ground := Ground.data }, { on := 1, ground := Ground.data }], guard := none }) (v := ?_) rfl (by kernel_rfl) (by kernel_rfl) (by kernel_rfl) (fun _ _ _ h => h) (Or.inl ⟨by rfl, ?_⟩) hHeld ?_
  rotate_left
  · intro u hSw
    go_simp
    try with_reducible rfl
  try simp only [Act.put, List.setIfInBounds_toArray, List.set_cons_zero, List.set_cons_succ]
  refine wpAnyH_take (i := 3) (oi := { dst := some 57, op := Op.move (Operand.tmp 56), type := 4, pos := "law.go:92", after := #[{ on := 2, ground := Ground.data }], guard := none }) (v := ?_) rfl (by kernel_rfl) (by kernel_rfl) (by kernel_rfl) (fun _ _ _ h => h) (Or.inl ⟨by rfl, ?_⟩) hHeld ?_
  rotate_left
  · intro u hSw
    go_simp
    try with_reducible rfl
  try simp only [Act.put, List.setIfInBounds_toArray, List.set_cons_zero, List.set_cons_succ]
  refine wpAnyH_take (i := 4) (oi := { dst := some 58, op := Op.move (Operand.tmp 4), type := 31, pos := "law.go:92", after := #[{ on := 3, ground := Ground.guard }], guard := some (3, true) }) (v := ?_) rfl (by kernel_rfl) (by kernel_rfl) (by kernel_rfl) (fun _ _ _ h => h) (Or.inl ⟨by rfl, ?_⟩) hHeld ?_
  rotate_left
  · intro u hSw
    go_simp
    try with_reducible rfl
  try simp only [Act.put, List.setIfInBounds_toArray, List.set_cons_zero, List.set_cons_succ]
  refine wpAnyH_take (i := 5) (oi := { dst := some 59, op := Op.move (Operand.tmp 5), type := 31, pos := "law.go:92", after := #[{ on := 3, ground := Ground.guard }], guard := some (3, true) }) (v := ?_) rfl (by kernel_rfl) (by kernel_rfl) (by kernel_rfl) (fun _ _ _ h => h) (Or.inl ⟨by rfl, ?_⟩) hHeld ?_
  rotate_left
  · intro u hSw
    go_simp
    try with_reducible rfl
  try simp only [Act.put, List.setIfInBounds_toArray, List.set_cons_zero, List.set_cons_succ]
  refine wpAnyH_take (i := 7) (oi := { dst := some 61, op := Op.move (Operand.tmp 5), type := 31, pos := "law.go:92", after := #[{ on := 3, ground := Ground.guard }], guard := some (3, true) }) (v := ?_) rfl (by kernel_rfl) (by kernel_rfl) (by kernel_rfl) (fun _ _ _ h => h) (Or.inl ⟨by rfl, ?_⟩) hHeld ?_
  rotate_left
  · intro u hSw
    go_simp
    try with_reducible rfl
  try simp only [Act.put, List.setIfInBounds_toArray, List.set_cons_zero, List.set_cons_succ]
  refine wpAnyH_take (i := 8) (oi := { dst := some 62, op := Op.move (Operand.tmp 4), type := 31, pos := "law.go:92", after := #[{ on := 3, ground := Ground.guard }], guard := some (3, true) }) (v := ?_) rfl (by kernel_rfl) (by kernel_rfl) (by kernel_rfl) (fun _ _ _ h => h) (Or.inl ⟨by rfl, ?_⟩) hHeld ?_
  rotate_left
  · intro u hSw
    go_simp
    try with_reducible rfl
  try simp only [Act.put, List.setIfInBounds_toArray, List.set_cons_zero, List.set_cons_succ]
  refine wpAnyH_ready (rs := [6]) (by kernel_rfl) (by simp) ?_
  refine AllReadyH.cons (o := { dst := some 60, op := Op.call { callee := Callee.value (Operand.func 25), args := #[Operand.tmp 58, Operand.tmp 59], argTypes := #[31, 31] }, type := 5, pos := "law.go:92", after := #[{ on := 4, ground := Ground.data }, { on := 5, ground := Ground.data }, { on := 3, ground := Ground.chain }, { on := 3, ground := Ground.guard }], guard := some (3, true) }) rfl (fun K hK => ?_) AllReadyH.nil
  go_simp
  refine Calls.mono (dot_B _ _ _ _ _ _ X Y (dot X Y) _ rfl HL1.out HL2.out HM.out HM.out (rA _ hHeld) (rB _ hHeld)) ?_
  rintro r v2 ⟨rfl, h1⟩
  go_wp2_with fail
  refine hK.out _ _ ?_ (fun hHeld => ?_)
  · exact (hHeld.trans (Below.mono h1 (below_size hHeld)))
  clear hK K
  try simp only [Act.put, List.setIfInBounds_toArray, List.set_cons_zero, List.set_cons_succ]
  refine wpAnyH_here hHeld ?_
  replace rA := row_next rA hHeld
  replace rB := row_next rB hHeld
  replace kA := fact_next kA hHeld
  replace hTot := hTot.trans (Below.mono hHeld hTot.size)
  clear hHeld h1
  have hHeld : Below v2.heap.size v2 v2 := Below.refl _ _
  refine wpAnyH_ready (rs := [9]) (by kernel_rfl) (by simp) ?_
  refine AllReadyH.cons (o := { dst := some 63, op := Op.call { callee := Callee.value (Operand.func 25), args := #[Operand.tmp 61, Operand.tmp 62], argTypes := #[31, 31] }, type := 5, pos := "law.go:92", after := #[{ on := 7, ground := Ground.data }, { on := 8, ground := Ground.data }, { on := 6, ground := Ground.chain }, { on := 3, ground := Ground.guard }], guard := some (3, true) }) rfl (fun K hK => ?_) AllReadyH.nil
  go_simp
  refine Calls.mono (dot_B _ _ _ _ _ _ Y X (dot X Y) _ (dot_eq_sum _ _) HL2.out HL1.out HM.out HM.out (rB _ hHeld) (rA _ hHeld)) ?_
  rintro r v3 ⟨rfl, h1⟩
  go_wp2_with fail
  refine hK.out _ _ ?_ (fun hHeld => ?_)
  · exact (hHeld.trans (Below.mono h1 (below_size hHeld)))
  clear hK K
  try simp only [Act.put, List.setIfInBounds_toArray, List.set_cons_zero, List.set_cons_succ]
  refine wpAnyH_here hHeld ?_
  replace rA := row_next rA hHeld
  replace rB := row_next rB hHeld
  replace kA := fact_next kA hHeld
  replace hTot := hTot.trans (Below.mono hHeld hTot.size)
  clear hHeld h1
  have hHeld : Below v3.heap.size v3 v3 := Below.refl _ _
  refine wpAnyH_take (i := 10) (oi := { dst := some 64, op := Op.binOp BinOp.eql 5 (Operand.tmp 60) (Operand.tmp 63) 5, type := 4, pos := "law.go:92", after := #[{ on := 6, ground := Ground.data }, { on := 9, ground := Ground.data }, { on := 3, ground := Ground.guard }], guard := some (3, true) }) (v := ?_) rfl (by kernel_rfl) (by kernel_rfl) (by kernel_rfl) (fun _ _ _ h => h) (Or.inl ⟨by rfl, ?_⟩) hHeld ?_
  rotate_left
  · intro u hSw
    go_simp
    try with_reducible rfl
  try simp only [Act.put, List.setIfInBounds_toArray, List.set_cons_zero, List.set_cons_succ]
  refine wpAnyH_take (i := 11) (oi := { dst := some 65, op := Op.pick (Operand.tmp 57) (Operand.tmp 64) (Operand.const (Value.bool false)), type := 4, pos := "law.go:92", after := #[{ on := 3, ground := Ground.data }, { on := 10, ground := Ground.data }], guard := none }) (v := ?_) rfl (by kernel_rfl) (by kernel_rfl) (by kernel_rfl) (fun _ _ _ h => h) (Or.inl ⟨by rfl, ?_⟩) hHeld ?_
  rotate_left
  · intro u hSw
    go_simp
    try with_reducible rfl
  try simp only [Act.put, List.setIfInBounds_toArray, List.set_cons_zero, List.set_cons_succ]
  refine wpAnyH_take (i := 12) (oi := { dst := some 66, op := Op.move (Operand.tmp 65), type := 4, pos := "law.go:92", after := #[{ on := 11, ground := Ground.data }, { on := 9, ground := Ground.chain }], guard := none }) (v := ?_) rfl (by kernel_rfl) (by kernel_rfl) (by kernel_rfl) (fun _ _ _ h => h) (Or.inl ⟨by rfl, ?_⟩) hHeld ?_
  rotate_left
  · intro u hSw
    go_simp
    try with_reducible rfl
  try simp only [Act.put, List.setIfInBounds_toArray, List.set_cons_zero, List.set_cons_succ]
  refine wpAnyH_take (i := 13) (oi := { dst := some 67, op := Op.move (Operand.tmp 4), type := 31, pos := "law.go:92", after := #[{ on := 12, ground := Ground.guard }], guard := some (12, true) }) (v := ?_) rfl (by kernel_rfl) (by kernel_rfl) (by kernel_rfl) (fun _ _ _ h => h) (Or.inl ⟨by rfl, ?_⟩) hHeld ?_
  rotate_left
  · intro u hSw
    go_simp
    try with_reducible rfl
  try simp only [Act.put, List.setIfInBounds_toArray, List.set_cons_zero, List.set_cons_succ]
  refine wpAnyH_take (i := 14) (oi := { dst := some 68, op := Op.move (Operand.tmp 7), type := 5, pos := "law.go:92", after := #[{ on := 12, ground := Ground.guard }], guard := some (12, true) }) (v := ?_) rfl (by kernel_rfl) (by kernel_rfl) (by kernel_rfl) (fun _ _ _ h => h) (Or.inl ⟨by rfl, ?_⟩) hHeld ?_
  rotate_left
  · intro u hSw
    go_simp
    try with_reducible rfl
  try simp only [Act.put, List.setIfInBounds_toArray, List.set_cons_zero, List.set_cons_succ]
  refine wpAnyH_take (i := 15) (oi := { dst := some 69, op := Op.move (Operand.tmp 5), type := 31, pos := "law.go:92", after := #[{ on := 12, ground := Ground.guard }], guard := some (12, true) }) (v := ?_) rfl (by kernel_rfl) (by kernel_rfl) (by kernel_rfl) (fun _ _ _ h => h) (Or.inl ⟨by rfl, ?_⟩) hHeld ?_
  rotate_left
  · intro u hSw
    go_simp
    try with_reducible rfl
  try simp only [Act.put, List.setIfInBounds_toArray, List.set_cons_zero, List.set_cons_succ]
  refine wpAnyH_take (i := 17) (oi := { dst := some 71, op := Op.move (Operand.tmp 7), type := 5, pos := "law.go:92", after := #[{ on := 12, ground := Ground.guard }], guard := some (12, true) }) (v := ?_) rfl (by kernel_rfl) (by kernel_rfl) (by kernel_rfl) (fun _ _ _ h => h) (Or.inl ⟨by rfl, ?_⟩) hHeld ?_
  rotate_left
  · intro u hSw
    go_simp
    try with_reducible rfl
  try simp only [Act.put, List.setIfInBounds_toArray, List.set_cons_zero, List.set_cons_succ]
  refine wpAnyH_take (i := 18) (oi := { dst := some 72, op := Op.move (Operand.tmp 5), type := 31, pos := "law.go:92", after := #[{ on := 12, ground := Ground.guard }], guard := some (12, true) }) (v := ?_) rfl (by kernel_rfl) (by kernel_rfl) (by kernel_rfl) (fun _ _ _ h => h) (Or.inl ⟨by rfl, ?_⟩) hHeld ?_
  rotate_left
  · intro u hSw
    go_simp
    try with_reducible rfl
  try simp only [Act.put, List.setIfInBounds_toArray, List.set_cons_zero, List.set_cons_succ]
  refine wpAnyH_take (i := 21) (oi := { dst := some 75, op := Op.move (Operand.tmp 4), type := 31, pos := "law.go:92", after := #[{ on := 12, ground := Ground.guard }], guard := some (12, true) }) (v := ?_) rfl (by kernel_rfl) (by kernel_rfl) (by kernel_rfl) (fun _ _ _ h => h) (Or.inl ⟨by rfl, ?_⟩) hHeld ?_
  rotate_left
  · intro u hSw
    go_simp
    try with_reducible rfl
  try simp only [Act.put, List.setIfInBounds_toArray, List.set_cons_zero, List.set_cons_succ]
  refine wpAnyH_take (i := 22) (oi := { dst := some 76, op := Op.convert 31 9 (Operand.tmp 75), type := 9, pos := "law.go:92", after := #[{ on := 21, ground := Ground.data }, { on := 12, ground := Ground.guard }], guard := some (12, true) }) (v := ?_) rfl (by kernel_rfl) (by kernel_rfl) (by kernel_rfl) (fun _ _ _ h => h) (Or.inl ⟨by rfl, ?_⟩) hHeld ?_
  rotate_left
  · intro u hSw
    go_simp
    try with_reducible rfl
  try simp only [Act.put, List.setIfInBounds_toArray, List.set_cons_zero, List.set_cons_succ]
  refine wpAnyH_ready (rs := [16]) (by kernel_rfl) (by simp) ?_
  refine AllReadyH.cons (o := { dst := some 70, op := Op.call { callee := Callee.value (Operand.func 24), args := #[Operand.tmp 67, Operand.tmp 68, Operand.tmp 69], argTypes := #[31, 5, 31] }, type := 31, pos := "law.go:92", after := #[{ on := 13, ground := Ground.data }, { on := 14, ground := Ground.data }, { on := 15, ground := Ground.data }, { on := 12, ground := Ground.chain }, { on := 12, ground := Ground.guard }], guard := some (12, true) }) rfl (fun K hK => ?_) AllReadyH.nil
  go_simp
  refine Calls.mono (addScaled_C c _ _ _ _ _ _ X Y _ _ rfl HL1.out HL2.out HM.out HM.out (rA _ hHeld) (rB _ hHeld)) ?_
  rintro r v4 ⟨_, rfl, h1, h4, h5, h6⟩
  go_wp2_with fail
  refine hK.out _ _ ?_ (fun hHeld => ?_)
  · exact (hHeld.trans (Below.mono h1 (below_size hHeld)))
  clear hK K
  try simp only [Act.put, List.setIfInBounds_toArray, List.set_cons_zero, List.set_cons_succ]
  refine wpAnyH_here hHeld ?_
  replace rA := row_next rA hHeld
  replace rB := row_next rB hHeld
  replace kA := fact_next kA hHeld
  replace hTot := hTot.trans (Below.mono hHeld hTot.size)
  have g1 := row_keep (row8_own h4)
  have kg1 := h6
  clear hHeld h1
  clear h4 h5 h6
  have hHeld : Below v4.heap.size v4 v4 := Below.refl _ _
  refine wpAnyH_ready (rs := [19]) (by kernel_rfl) (by simp) ?_
  refine AllReadyH.cons (o := { dst := some 73, op := Op.call { callee := Callee.value (Operand.func 24), args := #[Operand.tmp 70, Operand.tmp 71, Operand.tmp 72], argTypes := #[31, 5, 31] }, type := 31, pos := "law.go:92", after := #[{ on := 16, ground := Ground.data }, { on := 17, ground := Ground.data }, { on := 18, ground := Ground.data }, { on := 16, ground := Ground.chain }, { on := 12, ground := Ground.guard }], guard := some (12, true) }) rfl (fun K hK => ?_) AllReadyH.nil
  go_simp
  refine Calls.mono (addScaled_C c _ _ _ _ _ _ (scaled c X Y) Y X _ (scaled_back _ _ _ HLYX.out) rfl HL2.out mXY HM.out (g1 _ hHeld) (rB _ hHeld)) ?_
  rintro r v5 ⟨_, rfl, h1, h4, h5, h6⟩
  go_wp2_with fail
  refine hK.out _ _ ?_ (fun hHeld => ?_)
  · exact (hHeld.trans (Below.mono h1 (below_size hHeld)))
  clear hK K
  try simp only [Act.put, List.setIfInBounds_toArray, List.set_cons_zero, List.set_cons_succ]
  refine wpAnyH_here hHeld ?_
  replace rA := row_next rA hHeld
  replace rB := row_next rB hHeld
  replace g1 := row_next g1 hHeld
  replace kA := fact_next kA hHeld
  replace kg1 := fact_next kg1 hHeld
  replace hTot := hTot.trans (Below.mono hHeld hTot.size)
  have g2 := row_keep (row8_own h4)
  have kg2 := h6
  clear hHeld h1
  clear h4 h5 h6
  have hHeld : Below v5.heap.size v5 v5 := Below.refl _ _
  refine wpAnyH_take (i := 20) (oi := { dst := some 74, op := Op.convert 31 9 (Operand.tmp 73), type := 9, pos := "law.go:92", after := #[{ on := 19, ground := Ground.data }, { on := 12, ground := Ground.guard }], guard := some (12, true) }) (v := ?_) rfl (by kernel_rfl) (by kernel_rfl) (by kernel_rfl) (fun _ _ _ h => h) (Or.inl ⟨by rfl, ?_⟩) hHeld ?_
  rotate_left
  · intro u hSw
    go_simp
    try with_reducible rfl
  try simp only [Act.put, List.setIfInBounds_toArray, List.set_cons_zero, List.set_cons_succ]
  refine wpAnyH_take (i := 23) (oi := { dst := some 77, op := Op.binOp BinOp.eql 9 (Operand.tmp 74) (Operand.tmp 76) 9, type := 4, pos := "law.go:92", after := #[{ on := 20, ground := Ground.data }, { on := 22, ground := Ground.data }, { on := 12, ground := Ground.guard }], guard := some (12, true) }) (v := ?_) rfl (by kernel_rfl) (by kernel_rfl) (by kernel_rfl) (fun _ _ _ h => h) (Or.inl ⟨by rfl, ?_⟩) hHeld ?_
  rotate_left
  · intro u hSw
    go_simp
    try with_reducible rfl
  try simp only [Act.put, List.setIfInBounds_toArray, List.set_cons_zero, List.set_cons_succ]
  refine wpAnyH_take (i := 24) (oi := { dst := some 78, op := Op.pick (Operand.tmp 66) (Operand.tmp 77) (Operand.const (Value.bool false)), type := 4, pos := "law.go:92", after := #[{ on := 12, ground := Ground.data }, { on := 23, ground := Ground.data }], guard := none }) (v := ?_) rfl (by kernel_rfl) (by kernel_rfl) (by kernel_rfl) (fun _ _ _ h => h) (Or.inl ⟨by rfl, ?_⟩) hHeld ?_
  rotate_left
  · intro u hSw
    go_simp
    try with_reducible rfl
  try simp only [Act.put, List.setIfInBounds_toArray, List.set_cons_zero, List.set_cons_succ]
  refine wpAnyH_take (i := 25) (oi := { dst := some 79, op := Op.move (Operand.tmp 78), type := 4, pos := "law.go:92", after := #[{ on := 24, ground := Ground.data }, { on := 19, ground := Ground.chain }], guard := none }) (v := ?_) rfl (by kernel_rfl) (by kernel_rfl) (by kernel_rfl) (fun _ _ _ h => h) (Or.inl ⟨by rfl, ?_⟩) hHeld ?_
  rotate_left
  · intro u hSw
    go_simp
    try with_reducible rfl
  try simp only [Act.put, List.setIfInBounds_toArray, List.set_cons_zero, List.set_cons_succ]
  refine wpAnyH_take (i := 26) (oi := { dst := some 80, op := Op.move (Operand.tmp 4), type := 31, pos := "law.go:92", after := #[{ on := 25, ground := Ground.guard }], guard := some (25, true) }) (v := ?_) rfl (by kernel_rfl) (by kernel_rfl) (by kernel_rfl) (fun _ _ _ h => h) (Or.inl ⟨by rfl, ?_⟩) hHeld ?_
  rotate_left
  · intro u hSw
    go_simp
    try with_reducible rfl
  try simp only [Act.put, List.setIfInBounds_toArray, List.set_cons_zero, List.set_cons_succ]
  refine wpAnyH_take (i := 27) (oi := { dst := some 81, op := Op.move (Operand.tmp 5), type := 31, pos := "law.go:92", after := #[{ on := 25, ground := Ground.guard }], guard := some (25, true) }) (v := ?_) rfl (by kernel_rfl) (by kernel_rfl) (by kernel_rfl) (fun _ _ _ h => h) (Or.inl ⟨by rfl, ?_⟩) hHeld ?_
  rotate_left
  · intro u hSw
    go_simp
    try with_reducible rfl
  try simp only [Act.put, List.setIfInBounds_toArray, List.set_cons_zero, List.set_cons_succ]
  refine wpAnyH_take (i := 29) (oi := { dst := some 83, op := Op.move (Operand.tmp 5), type := 31, pos := "law.go:92", after := #[{ on := 25, ground := Ground.guard }], guard := some (25, true) }) (v := ?_) rfl (by kernel_rfl) (by kernel_rfl) (by kernel_rfl) (fun _ _ _ h => h) (Or.inl ⟨by rfl, ?_⟩) hHeld ?_
  rotate_left
  · intro u hSw
    go_simp
    try with_reducible rfl
  try simp only [Act.put, List.setIfInBounds_toArray, List.set_cons_zero, List.set_cons_succ]
  refine wpAnyH_take (i := 32) (oi := { dst := some 86, op := Op.move (Operand.tmp 4), type := 31, pos := "law.go:92", after := #[{ on := 25, ground := Ground.guard }], guard := some (25, true) }) (v := ?_) rfl (by kernel_rfl) (by kernel_rfl) (by kernel_rfl) (fun _ _ _ h => h) (Or.inl ⟨by rfl, ?_⟩) hHeld ?_
  rotate_left
  · intro u hSw
    go_simp
    try with_reducible rfl
  try simp only [Act.put, List.setIfInBounds_toArray, List.set_cons_zero, List.set_cons_succ]
  refine wpAnyH_take (i := 33) (oi := { dst := some 87, op := Op.convert 31 9 (Operand.tmp 86), type := 9, pos := "law.go:92", after := #[{ on := 32, ground := Ground.data }, { on := 25, ground := Ground.guard }], guard := some (25, true) }) (v := ?_) rfl (by kernel_rfl) (by kernel_rfl) (by kernel_rfl) (fun _ _ _ h => h) (Or.inl ⟨by rfl, ?_⟩) hHeld ?_
  rotate_left
  · intro u hSw
    go_simp
    try with_reducible rfl
  try simp only [Act.put, List.setIfInBounds_toArray, List.set_cons_zero, List.set_cons_succ]
  refine wpAnyH_ready (rs := [28]) (by kernel_rfl) (by simp) ?_
  refine AllReadyH.cons (o := { dst := some 82, op := Op.call { callee := Callee.value (Operand.func 22), args := #[Operand.tmp 80, Operand.tmp 81], argTypes := #[31, 31] }, type := 31, pos := "law.go:92", after := #[{ on := 26, ground := Ground.data }, { on := 27, ground := Ground.data }, { on := 25, ground := Ground.chain }, { on := 25, ground := Ground.guard }], guard := some (25, true) }) rfl (fun K hK => ?_) AllReadyH.nil
  go_simp
  refine Calls.mono (sum_C _ _ _ _ _ _ X Y _ _ rfl HL1.out HL2.out HM.out HM.out (rA _ hHeld) (rB _ hHeld)) ?_
  rintro r v6 ⟨_, rfl, h1, h4, h5, h6⟩
  go_wp2_with fail
  refine hK.out _ _ ?_ (fun hHeld => ?_)
  · exact (hHeld.trans (Below.mono h1 (below_size hHeld)))
  clear hK K
  try simp only [Act.put, List.setIfInBounds_toArray, List.set_cons_zero, List.set_cons_succ]
  refine wpAnyH_here hHeld ?_
  replace rA := row_next rA hHeld
  replace rB := row_next rB hHeld
  replace g1 := row_next g1 hHeld
  replace g2 := row_next g2 hHeld
  replace kA := fact_next kA hHeld
  replace kg1 := fact_next kg1 hHeld
  replace kg2 := fact_next kg2 hHeld
  replace hTot := hTot.trans (Below.mono hHeld hTot.size)
  have g3 := row_keep (row8_own h4)
  have kg3 := h6
  clear hHeld h1
  clear h4 h5 h6
  have hHeld : Below v6.heap.size v6 v6 := Below.refl _ _
  refine wpAnyH_ready (rs := [30]) (by kernel_rfl) (by simp) ?_
  refine AllReadyH.cons (o := { dst := some 84, op := Op.call { callee := Callee.value (Operand.func 22), args := #[Operand.tmp 82, Operand.tmp 83], argTypes := #[31, 31] }, type := 31, pos := "law.go:92", after := #[{ on := 28, ground := Ground.data }, { on := 29, ground := Ground.data }, { on := 28, ground := Ground.chain }, { on := 25, ground := Ground.guard }], guard := some (25, true) }) rfl (fun K hK => ?_) AllReadyH.nil
  go_simp
  refine Calls.mono (sum_C _ _ _ _ _ _ (scaled 1 X Y) Y X _ (scaled_back _ _ _ HLYX.out) rfl HL2.out mXY1 HM.out (g3 _ hHeld) (rB _ hHeld)) ?_
  rintro r v7 ⟨_, rfl, h1, h4, h5, h6⟩
  go_wp2_with fail
  refine hK.out _ _ ?_ (fun hHeld => ?_)
  · exact (hHeld.trans (Below.mono h1 (below_size hHeld)))
  clear hK K
  try simp only [Act.put, List.setIfInBounds_toArray, List.set_cons_zero, List.set_cons_succ]
  refine wpAnyH_here hHeld ?_
  replace rA := row_next rA hHeld
  replace rB := row_next rB hHeld
  replace g1 := row_next g1 hHeld
  replace g2 := row_next g2 hHeld
  replace g3 := row_next g3 hHeld
  replace kA := fact_next kA hHeld
  replace kg1 := fact_next kg1 hHeld
  replace kg2 := fact_next kg2 hHeld
  replace kg3 := fact_next kg3 hHeld
  replace hTot := hTot.trans (Below.mono hHeld hTot.size)
  have g4 := row_keep (row8_own h4)
  have kg4 := h6
  clear hHeld h1
  clear h4 h5 h6
  have hHeld : Below v7.heap.size v7 v7 := Below.refl _ _
  refine wpAnyH_take (i := 31) (oi := { dst := some 85, op := Op.convert 31 9 (Operand.tmp 84), type := 9, pos := "law.go:92", after := #[{ on := 30, ground := Ground.data }, { on := 25, ground := Ground.guard }], guard := some (25, true) }) (v := ?_) rfl (by kernel_rfl) (by kernel_rfl) (by kernel_rfl) (fun _ _ _ h => h) (Or.inl ⟨by rfl, ?_⟩) hHeld ?_
  rotate_left
  · intro u hSw
    go_simp
    try with_reducible rfl
  try simp only [Act.put, List.setIfInBounds_toArray, List.set_cons_zero, List.set_cons_succ]
  refine wpAnyH_take (i := 34) (oi := { dst := some 88, op := Op.binOp BinOp.eql 9 (Operand.tmp 85) (Operand.tmp 87) 9, type := 4, pos := "law.go:92", after := #[{ on := 31, ground := Ground.data }, { on := 33, ground := Ground.data }, { on := 25, ground := Ground.guard }], guard := some (25, true) }) (v := ?_) rfl (by kernel_rfl) (by kernel_rfl) (by kernel_rfl) (fun _ _ _ h => h) (Or.inl ⟨by rfl, ?_⟩) hHeld ?_
  rotate_left
  · intro u hSw
    go_simp
    try with_reducible rfl
  try simp only [Act.put, List.setIfInBounds_toArray, List.set_cons_zero, List.set_cons_succ]
  refine wpAnyH_take (i := 35) (oi := { dst := some 89, op := Op.pick (Operand.tmp 79) (Operand.tmp 88) (Operand.const (Value.bool false)), type := 4, pos := "law.go:92", after := #[{ on := 25, ground := Ground.data }, { on := 34, ground := Ground.data }], guard := none }) (v := ?_) rfl (by kernel_rfl) (by kernel_rfl) (by kernel_rfl) (fun _ _ _ h => h) (Or.inl ⟨by rfl, ?_⟩) hHeld ?_
  rotate_left
  · intro u hSw
    go_simp
    try with_reducible rfl
  try simp only [Act.put, List.setIfInBounds_toArray, List.set_cons_zero, List.set_cons_succ]
  refine wpAnyH_take (i := 36) (oi := { dst := some 2, op := Op.assign (Operand.tmp 89), type := 4, pos := "law.go:92", after := #[{ on := 35, ground := Ground.data }, { on := 30, ground := Ground.chain }, { on := 0, ground := Ground.phase }, { on := 1, ground := Ground.phase }, { on := 2, ground := Ground.phase }, { on := 3, ground := Ground.phase }, { on := 4, ground := Ground.phase }, { on := 5, ground := Ground.phase }, { on := 6, ground := Ground.phase }, { on := 7, ground := Ground.phase }, { on := 8, ground := Ground.phase }, { on := 9, ground := Ground.phase }, { on := 10, ground := Ground.phase }, { on := 11, ground := Ground.phase }, { on := 12, ground := Ground.phase }, { on := 13, ground := Ground.phase }, { on := 14, ground := Ground.phase }, { on := 15, ground := Ground.phase }, { on := 16, ground := Ground.phase }, { on := 17, ground := Ground.phase }, { on := 18, ground := Ground.phase }, { on := 19, ground := Ground.phase }, { on := 20, ground := Ground.phase }, { on := 21, ground := Ground.phase }, { on := 22, ground := Ground.phase }, { on := 23, ground := Ground.phase }, { on := 24, ground := Ground.phase }, { on := 25, ground := Ground.phase }, { on := 26, ground := Ground.phase }, { on := 27, ground := Ground.phase }, { on := 28, ground := Ground.phase }, { on := 29, ground := Ground.phase }, { on := 30, ground := Ground.phase }, { on := 31, ground := Ground.phase }, { on := 32, ground := Ground.phase }, { on := 33, ground := Ground.phase }, { on := 34, ground := Ground.phase }, { on := 35, ground := Ground.phase }], guard := none }) (v := ?_) rfl (by kernel_rfl) (by kernel_rfl) (by kernel_rfl) (fun _ _ _ h => h) (Or.inl ⟨by rfl, ?_⟩) hHeld ?_
  rotate_left
  · intro u hSw
    go_simp
    try with_reducible rfl
  try simp only [Act.put, List.setIfInBounds_toArray, List.set_cons_zero, List.set_cons_succ]
  refine wpAnyH_done (by kernel_rfl) ?_ _
  refine NoPanic.normal ?_
  go_wp2
  go_ret
  exact ⟨rfl, len_next HB1.out hTot⟩
set_option maxHeartbeats 8000000 in
theorem bilinear_B (a b d : Option Addr) (la ca lb cb ld cd : Nat) (xs ys zs : List F) (c : F) (w : World)
    (ka : la ≤ ca) (kb : lb ≤ cb) (kd : ld ≤ cd) (o1 : lb < la) (o2 : lb ≤ ld) (e1 : la = xs.length) (e2 : lb = ys.length) (e3 : ld = zs.length)
    (ha : la ≤ 140737488351232) (hb : lb ≤ 140737488351232) (hd : ld ≤ 140737488351232)
    (hx : Row8 w a xs) (hy : Row8 w b ys) (hz : Row8 w d zs) :
    Calls Try.prog 7 #[.agg #[.slice a la ca, .slice b lb cb, .slice d ld cd, .int .u8 c.toNat]] w fun e w' => e = .returned (.bool true) ∧ Below w.heap.size w w' := by
  have HX : Hid _ := row_take lb hx
  have HY : Hid _ := row_take lb hy
  have HZ : Hid _ := row_take lb hz
  have HL1 : Hid (lb = (xs.take lb).length) := by show _ = _; rw [List.length_take]; omega
  have HL2 : Hid (lb = (ys.take lb).length) := by show _ = _; rw [List.length_take]; omega
  have HL3 : Hid (lb = (zs.take lb).length) := by show _ = _; rw [List.length_take]; omega
  have HM : Hid (lb ≤ 140737488355328) := by show _ ≤ _; omega
  generalize xs.take lb = X at HX HL1
  generalize ys.take lb = Y at HY HL2
  generalize zs.take lb = Z at HZ HL3
  have mX : X.length ≤ 140737488351232 := by have := HL1.out; omega
  have mY : Y.length ≤ 140737488351232 := by have := HL2.out; omega
  have mZ : Z.length ≤ 140737488351232 := by have := HL3.out; omega
  have mXY : (scaled c X Y).length ≤ 140737488355328 := by rw [scaled_len]; omega
  have mXY1 : (scaled 1 X Y).length ≤ 140737488355328 := by rw [scaled_len]; omega
  have HLYX : Hid (Y.length = X.length) := HL2.out.symm.trans HL1.out
  have HLZX : Hid (Z.length = X.length) := HL3.out.symm.trans HL1.out
  clear hx hy hz e1 e2 e3
  have q0 : lb ≤ cb := by omega
  have q1 : lb ≤ cd := by omega
  have q2 : lb ≤ ca := by omega
  have p0 : (0 : Int) ≤ (lb : Int) := by omega
  go_enter Try.func7, Try.ntmps7
  go_wp2_with fail
  refine Calls.mono (alive_ok _) ?_
  rintro r w1 ⟨rfl, hb1⟩
  have hbox := cells4 hb1
  have c0 := box_cell hbox 0 _ rfl
  have c1 := box_cell hbox 1 _ rfl
  have c2 := box_cell hbox 2 _ rfl
  have c3 := box_cell hbox 3 _ rfl
  have hB1 : Below w.heap.size w w1 := ((Below.refl _ _).alloc (Nat.le_refl _) _).trans (hb1.mono (by simp))
  have rA := row_keep (row8_below HX.out hB1)
  have rB := row_keep (row8_below HY.out hB1)
  have rD := row_keep (row8_below HZ.out hB1)
  have kA := conv_keep (ca := lb) HL1.out rA
  have HB1 : Hid _ := hB1
  clear hb1 hbox hB1 HX HY HZ
  have hR : Below w1.heap.size w1 w1 := Below.refl _ _
  go_wp2
  go_region_held3 (fun w' => Below w1.heap.size w1 w') (first | assumption | (refine Below.drew ?_; assumption)) (fail)
  clear c0 c1 c2 c3 q0 q1 q2 hR
  go_wp2_with (first | (go_at_call 24; refine' (addScaled_C _ _ _ _ _ _ _ _ _ _ _ ?hz ?hla ?hlb ?ha ?hb ?hx ?hy).mono ?_; (case hx => (first | exact rA _ ‹_› | exact rB _ ‹_› | exact rD _ ‹_› | exact row8_own ‹_› | exact row8_below (row8_own ‹_›) ‹_›)); (case hy => (first | exact rA _ ‹_› | exact rB _ ‹_› | exact rD _ ‹_› | exact row8_own ‹_› | exact row8_below (row8_own ‹_›) ‹_›)); (case hla => (first | rfl | exact HL1.out | exact HL2.out | exact HL3.out)); (case hlb => (first | rfl | exact HL1.out | exact HL2.out | exact HL3.out)); (case hz => rfl); (case ha => (first | exact HM.out | ((try simp only [scaled_len]); omega))); (case hb => (first | exact HM.out | ((try simp only [scaled_len]); omega))); rintro r w' ⟨g, rfl, h1, h4, h5, h6⟩; have hT : Below w1.heap.size w1 w' := Below.trans ‹Below w1.heap.size w1 _› (Below.mono h1 (below_size ‹Below w1.heap.size w1 _›)); skip) | (go_at_call 25; refine' (dot_B _ _ _ _ _ _ _ _ (_) _ ?hv ?hla ?hlb ?ha ?hb ?hx ?hy).mono ?_; (case hx => (first | exact rA _ ‹_› | exact rB _ ‹_› | exact rD _ ‹_› | exact row8_own ‹_› | exact row8_below (row8_own ‹_›) ‹_›)); (case hy => (first | exact rA _ ‹_› | exact rB _ ‹_› | exact rD _ ‹_› | exact row8_own ‹_› | exact row8_below (row8_own ‹_›) ‹_›)); (case hla => (first | rfl | exact HL1.out | exact HL2.out | exact HL3.out)); (case hlb => (first | rfl | exact HL1.out | exact HL2.out | exact HL3.out)); (case hv => (first | exact dot_scaled _ _ _ _ HLZX.out | rfl)); (case ha => (first | exact HM.out | ((try simp only [scaled_len]); omega))); (case hb => (first | exact HM.out | ((try simp only [scaled_len]); omega))); rintro r w' ⟨rfl, h1⟩; have hT : Below w1.heap.size w1 w' := Below.trans ‹Below w1.heap.size w1 _› (Below.mono h1 (below_size ‹Below w1.heap.size w1 _›)); skip) | (go_at_call 17; refine (mul_F _ _ _).mono ?_; rintro r w' ⟨rfl, rfl⟩) | (go_at_call 16; refine (add_F _ _ _).mono ?_; rintro r w' ⟨rfl, rfl⟩))
  have hT0 := hT
  refine wp_region_noPanic ?_
  refine wp_region_held_drew (S := fun w' => Below w1.heap.size w1 w') (by kernel_rfl) ?_ (fun hHeld => ?_)
  · exact Below.drew hT
  have hTot : Below w1.heap.size w1 w1 := Below.refl _ _
  refine wpAnyH_take (i := 0) (oi := { dst := some 54, op := Op.move (Operand.tmp 8), type := 5, pos := "law.go:92", after := #[], guard := none }) (v := ?_) rfl (by kernel_rfl) (by kernel_rfl) (by kernel_rfl) (fun _ _ _ h => h) (Or.inl ⟨by rfl, ?_⟩) hHeld ?_
  rotate_left
  · intro u hSw
    go_simp
    try with_reducible rfl
  try simp only [Act.put, List.setIfInBounds_toArray, List.set_cons_zero, List.set_cons_succ]
  refine wpAnyH_take (i := 1) (oi := { dst := some 55, op := Op.move (Operand.tmp 9), type := 5, pos := "law.go:92", after := #[], guard := none }) (v := ?_) rfl (by kernel_rfl) (by kernel_rfl) (by kernel_rfl) (fun _ _ _ h => h) (Or.inl ⟨by rfl, ?_⟩) hHeld ?_
  rotate_left
  · intro u hSw
    go_simp
    try with_reducible rfl
  try simp only [Act.put, List.setIfInBounds_toArray, List.set_cons_zero, List.set_cons_succ]
  refine wpAnyH_take (i := 2) (oi := { dst := some 56, op := Op.binOp BinOp.eql 5 (Operand.tmp 54) (Operand.tmp 55) 5, type := 4, pos := "law.go:92", after := #[{ on := 0, ground := Ground.data }, { on := 1, ground := Ground.data }], guard := none }) (v := ?_) rfl (by kernel_rfl) (by kernel_rfl) (by kernel_rfl) (fun _ _ _ h => h) (Or.inl ⟨by rfl, ?_⟩) hHeld ?_
  rotate_left
  · intro u hSw
    go_simp
    try with_reducible rfl
  try simp only [Act.put, List.setIfInBounds_toArray, List.set_cons_zero, List.set_cons_succ]
  refine wpAnyH_take (i := 3) (oi := { dst := some 57, op := Op.move (Operand.tmp 56), type := 4, pos := "law.go:92", after := #[{ on := 2, ground := Ground.data }], guard := none }) (v := ?_) rfl (by kernel_rfl) (by kernel_rfl) (by kernel_rfl) (fun _ _ _ h => h) (Or.inl ⟨by rfl, ?_⟩) hHeld ?_
  rotate_left
  · intro u hSw
    go_simp
    try with_reducible rfl
  try simp only [Act.put, List.setIfInBounds_toArray, List.set_cons_zero, List.set_cons_succ]
  refine wpAnyH_take (i := 4) (oi := { dst := some 58, op := Op.move (Operand.tmp 4), type := 31, pos := "law.go:92", after := #[{ on := 3, ground := Ground.guard }], guard := some (3, true) }) (v := ?_) rfl (by kernel_rfl) (by kernel_rfl) (by kernel_rfl) (fun _ _ _ h => h) (Or.inl ⟨by rfl, ?_⟩) hHeld ?_
  rotate_left
  · intro u hSw
    go_simp
    try with_reducible rfl
  try simp only [Act.put, List.setIfInBounds_toArray, List.set_cons_zero, List.set_cons_succ]
  refine wpAnyH_take (i := 5) (oi := { dst := some 59, op := Op.move (Operand.tmp 5), type := 31, pos := "law.go:92", after := #[{ on := 3, ground := Ground.guard }], guard := some (3, true) }) (v := ?_) rfl (by kernel_rfl) (by kernel_rfl) (by kernel_rfl) (fun _ _ _ h => h) (Or.inl ⟨by rfl, ?_⟩) hHeld ?_
  rotate_left
  · intro u hSw
    go_simp
    try with_reducible rfl
  try simp only [Act.put, List.setIfInBounds_toArray, List.set_cons_zero, List.set_cons_succ]
  refine wpAnyH_take (i := 7) (oi := { dst := some 61, op := Op.move (Operand.tmp 5), type := 31, pos := "law.go:92", after := #[{ on := 3, ground := Ground.guard }], guard := some (3, true) }) (v := ?_) rfl (by kernel_rfl) (by kernel_rfl) (by kernel_rfl) (fun _ _ _ h => h) (Or.inl ⟨by rfl, ?_⟩) hHeld ?_
  rotate_left
  · intro u hSw
    go_simp
    try with_reducible rfl
  try simp only [Act.put, List.setIfInBounds_toArray, List.set_cons_zero, List.set_cons_succ]
  refine wpAnyH_take (i := 8) (oi := { dst := some 62, op := Op.move (Operand.tmp 4), type := 31, pos := "law.go:92", after := #[{ on := 3, ground := Ground.guard }], guard := some (3, true) }) (v := ?_) rfl (by kernel_rfl) (by kernel_rfl) (by kernel_rfl) (fun _ _ _ h => h) (Or.inl ⟨by rfl, ?_⟩) hHeld ?_
  rotate_left
  · intro u hSw
    go_simp
    try with_reducible rfl
  try simp only [Act.put, List.setIfInBounds_toArray, List.set_cons_zero, List.set_cons_succ]
  refine wpAnyH_ready (rs := [6]) (by kernel_rfl) (by simp) ?_
  refine AllReadyH.cons (o := { dst := some 60, op := Op.call { callee := Callee.value (Operand.func 25), args := #[Operand.tmp 58, Operand.tmp 59], argTypes := #[31, 31] }, type := 5, pos := "law.go:92", after := #[{ on := 4, ground := Ground.data }, { on := 5, ground := Ground.data }, { on := 3, ground := Ground.chain }, { on := 3, ground := Ground.guard }], guard := some (3, true) }) rfl (fun K hK => ?_) AllReadyH.nil
  go_simp
  refine Calls.mono (dot_B _ _ _ _ _ _ X Y (dot X Y) _ rfl HL1.out HL2.out HM.out HM.out (rA _ hHeld) (rB _ hHeld)) ?_
  rintro r v2 ⟨rfl, h1⟩
  go_wp2_with fail
  refine hK.out _ _ ?_ (fun hHeld => ?_)
  · exact (hHeld.trans (Below.mono h1 (below_size hHeld)))
  clear hK K
  try simp only [Act.put, List.setIfInBounds_toArray, List.set_cons_zero, List.set_cons_succ]
  refine wpAnyH_here hHeld ?_
  replace rA := row_next rA hHeld
  replace rB := row_next rB hHeld
  replace kA := fact_next kA hHeld
  replace hTot := hTot.trans (Below.mono hHeld hTot.size)
  clear hHeld h1
  have hHeld : Below v2.heap.size v2 v2 := Below.refl _ _
  refine wpAnyH_ready (rs := [9]) (by kernel_rfl) (by simp) ?_
  refine AllReadyH.cons (o := { dst := some 63, op := Op.call { callee := Callee.value (Operand.func 25), args := #[Operand.tmp 61, Operand.tmp 62], argTypes := #[31, 31] }, type := 5, pos := "law.go:92", after := #[{ on := 7, ground := Ground.data }, { on := 8, ground := Ground.data }, { on := 6, ground := Ground.chain }, { on := 3, ground := Ground.guard }], guard := some (3, true) }) rfl (fun K hK => ?_) AllReadyH.nil
  go_simp
  refine Calls.mono (dot_B _ _ _ _ _ _ Y X (dot X Y) _ (dot_eq_sum _ _) HL2.out HL1.out HM.out HM.out (rB _ hHeld) (rA _ hHeld)) ?_
  rintro r v3 ⟨rfl, h1⟩
  go_wp2_with fail
  refine hK.out _ _ ?_ (fun hHeld => ?_)
  · exact (hHeld.trans (Below.mono h1 (below_size hHeld)))
  clear hK K
  try simp only [Act.put, List.setIfInBounds_toArray, List.set_cons_zero, List.set_cons_succ]
  refine wpAnyH_here hHeld ?_
  replace rA := row_next rA hHeld
  replace rB := row_next rB hHeld
  replace kA := fact_next kA hHeld
  replace hTot := hTot.trans (Below.mono hHeld hTot.size)
  clear hHeld h1
  have hHeld : Below v3.heap.size v3 v3 := Below.refl _ _
  refine wpAnyH_take (i := 10) (oi := { dst := some 64, op := Op.binOp BinOp.eql 5 (Operand.tmp 60) (Operand.tmp 63) 5, type := 4, pos := "law.go:92", after := #[{ on := 6, ground := Ground.data }, { on := 9, ground := Ground.data }, { on := 3, ground := Ground.guard }], guard := some (3, true) }) (v := ?_) rfl (by kernel_rfl) (by kernel_rfl) (by kernel_rfl) (fun _ _ _ h => h) (Or.inl ⟨by rfl, ?_⟩) hHeld ?_
  rotate_left
  · intro u hSw
    go_simp
    try with_reducible rfl
  try simp only [Act.put, List.setIfInBounds_toArray, List.set_cons_zero, List.set_cons_succ]
  refine wpAnyH_take (i := 11) (oi := { dst := some 65, op := Op.pick (Operand.tmp 57) (Operand.tmp 64) (Operand.const (Value.bool false)), type := 4, pos := "law.go:92", after := #[{ on := 3, ground := Ground.data }, { on := 10, ground := Ground.data }], guard := none }) (v := ?_) rfl (by kernel_rfl) (by kernel_rfl) (by kernel_rfl) (fun _ _ _ h => h) (Or.inl ⟨by rfl, ?_⟩) hHeld ?_
  rotate_left
  · intro u hSw
    go_simp
    try with_reducible rfl
  try simp only [Act.put, List.setIfInBounds_toArray, List.set_cons_zero, List.set_cons_succ]
  refine wpAnyH_take (i := 12) (oi := { dst := some 66, op := Op.move (Operand.tmp 65), type := 4, pos := "law.go:92", after := #[{ on := 11, ground := Ground.data }, { on := 9, ground := Ground.chain }], guard := none }) (v := ?_) rfl (by kernel_rfl) (by kernel_rfl) (by kernel_rfl) (fun _ _ _ h => h) (Or.inl ⟨by rfl, ?_⟩) hHeld ?_
  rotate_left
  · intro u hSw
    go_simp
    try with_reducible rfl
  try simp only [Act.put, List.setIfInBounds_toArray, List.set_cons_zero, List.set_cons_succ]
  refine wpAnyH_take (i := 13) (oi := { dst := some 67, op := Op.move (Operand.tmp 4), type := 31, pos := "law.go:92", after := #[{ on := 12, ground := Ground.guard }], guard := some (12, true) }) (v := ?_) rfl (by kernel_rfl) (by kernel_rfl) (by kernel_rfl) (fun _ _ _ h => h) (Or.inl ⟨by rfl, ?_⟩) hHeld ?_
  rotate_left
  · intro u hSw
    go_simp
    try with_reducible rfl
  try simp only [Act.put, List.setIfInBounds_toArray, List.set_cons_zero, List.set_cons_succ]
  refine wpAnyH_take (i := 14) (oi := { dst := some 68, op := Op.move (Operand.tmp 7), type := 5, pos := "law.go:92", after := #[{ on := 12, ground := Ground.guard }], guard := some (12, true) }) (v := ?_) rfl (by kernel_rfl) (by kernel_rfl) (by kernel_rfl) (fun _ _ _ h => h) (Or.inl ⟨by rfl, ?_⟩) hHeld ?_
  rotate_left
  · intro u hSw
    go_simp
    try with_reducible rfl
  try simp only [Act.put, List.setIfInBounds_toArray, List.set_cons_zero, List.set_cons_succ]
  refine wpAnyH_take (i := 15) (oi := { dst := some 69, op := Op.move (Operand.tmp 5), type := 31, pos := "law.go:92", after := #[{ on := 12, ground := Ground.guard }], guard := some (12, true) }) (v := ?_) rfl (by kernel_rfl) (by kernel_rfl) (by kernel_rfl) (fun _ _ _ h => h) (Or.inl ⟨by rfl, ?_⟩) hHeld ?_
  rotate_left
  · intro u hSw
    go_simp
    try with_reducible rfl
  try simp only [Act.put, List.setIfInBounds_toArray, List.set_cons_zero, List.set_cons_succ]
  refine wpAnyH_take (i := 17) (oi := { dst := some 71, op := Op.move (Operand.tmp 7), type := 5, pos := "law.go:92", after := #[{ on := 12, ground := Ground.guard }], guard := some (12, true) }) (v := ?_) rfl (by kernel_rfl) (by kernel_rfl) (by kernel_rfl) (fun _ _ _ h => h) (Or.inl ⟨by rfl, ?_⟩) hHeld ?_
  rotate_left
  · intro u hSw
    go_simp
    try with_reducible rfl
  try simp only [Act.put, List.setIfInBounds_toArray, List.set_cons_zero, List.set_cons_succ]
  refine wpAnyH_take (i := 18) (oi := { dst := some 72, op := Op.move (Operand.tmp 5), type := 31, pos := "law.go:92", after := #[{ on := 12, ground := Ground.guard }], guard := some (12, true) }) (v := ?_) rfl (by kernel_rfl) (by kernel_rfl) (by kernel_rfl) (fun _ _ _ h => h) (Or.inl ⟨by rfl, ?_⟩) hHeld ?_
  rotate_left
  · intro u hSw
    go_simp
    try with_reducible rfl
  try simp only [Act.put, List.setIfInBounds_toArray, List.set_cons_zero, List.set_cons_succ]
  refine wpAnyH_take (i := 21) (oi := { dst := some 75, op := Op.move (Operand.tmp 4), type := 31, pos := "law.go:92", after := #[{ on := 12, ground := Ground.guard }], guard := some (12, true) }) (v := ?_) rfl (by kernel_rfl) (by kernel_rfl) (by kernel_rfl) (fun _ _ _ h => h) (Or.inl ⟨by rfl, ?_⟩) hHeld ?_
  rotate_left
  · intro u hSw
    go_simp
    try with_reducible rfl
  try simp only [Act.put, List.setIfInBounds_toArray, List.set_cons_zero, List.set_cons_succ]
  refine wpAnyH_take (i := 22) (oi := { dst := some 76, op := Op.convert 31 9 (Operand.tmp 75), type := 9, pos := "law.go:92", after := #[{ on := 21, ground := Ground.data }, { on := 12, ground := Ground.guard }], guard := some (12, true) }) (v := ?_) rfl (by kernel_rfl) (by kernel_rfl) (by kernel_rfl) (fun _ _ _ h => h) (Or.inl ⟨by rfl, ?_⟩) hHeld ?_
  rotate_left
  · intro u hSw
    go_simp
    try with_reducible rfl
  try simp only [Act.put, List.setIfInBounds_toArray, List.set_cons_zero, List.set_cons_succ]
  refine wpAnyH_ready (rs := [16]) (by kernel_rfl) (by simp) ?_
  refine AllReadyH.cons (o := { dst := some 70, op := Op.call { callee := Callee.value (Operand.func 24), args := #[Operand.tmp 67, Operand.tmp 68, Operand.tmp 69], argTypes := #[31, 5, 31] }, type := 31, pos := "law.go:92", after := #[{ on := 13, ground := Ground.data }, { on := 14, ground := Ground.data }, { on := 15, ground := Ground.data }, { on := 12, ground := Ground.chain }, { on := 12, ground := Ground.guard }], guard := some (12, true) }) rfl (fun K hK => ?_) AllReadyH.nil
  go_simp
  refine Calls.mono (addScaled_C c _ _ _ _ _ _ X Y _ _ rfl HL1.out HL2.out HM.out HM.out (rA _ hHeld) (rB _ hHeld)) ?_
  rintro r v4 ⟨_, rfl, h1, h4, h5, h6⟩
  go_wp2_with fail
  refine hK.out _ _ ?_ (fun hHeld => ?_)
  · exact (hHeld.trans (Below.mono h1 (below_size hHeld)))
  clear hK K
  try simp only [Act.put, List.setIfInBounds_toArray, List.set_cons_zero, List.set_cons_succ]
  refine wpAnyH_here hHeld ?_
  replace rA := row_next rA hHeld
  replace rB := row_next rB hHeld
  replace kA := fact_next kA hHeld
  replace hTot := hTot.trans (Below.mono hHeld hTot.size)
  have g1 := row_keep (row8_own h4)
  have kg1 := h6
  clear hHeld h1
  clear h4 h5 h6
  have hHeld : Below v4.heap.size v4 v4 := Below.refl _ _
  refine wpAnyH_ready (rs := [19]) (by kernel_rfl) (by simp) ?_
  refine AllReadyH.cons (o := { dst := some 73, op := Op.call { callee := Callee.value (Operand.func 24), args := #[Operand.tmp 70, Operand.tmp 71, Operand.tmp 72], argTypes := #[31, 5, 31] }, type := 31, pos := "law.go:92", after := #[{ on := 16, ground := Ground.data }, { on := 17, ground := Ground.data }, { on := 18, ground := Ground.data }, { on := 16, ground := Ground.chain }, { on := 12, ground := Ground.guard }], guard := some (12, true) }) rfl (fun K hK => ?_) AllReadyH.nil
  go_simp
  refine Calls.mono (addScaled_C c _ _ _ _ _ _ (scaled c X Y) Y X _ (scaled_back _ _ _ HLYX.out) rfl HL2.out mXY HM.out (g1 _ hHeld) (rB _ hHeld)) ?_
  rintro r v5 ⟨_, rfl, h1, h4, h5, h6⟩
  go_wp2_with fail
  refine hK.out _ _ ?_ (fun hHeld => ?_)
  · exact (hHeld.trans (Below.mono h1 (below_size hHeld)))
  clear hK K
  try simp only [Act.put, List.setIfInBounds_toArray, List.set_cons_zero, List.set_cons_succ]
  refine wpAnyH_here hHeld ?_
  replace rA := row_next rA hHeld
  replace rB := row_next rB hHeld
  replace g1 := row_next g1 hHeld
  replace kA := fact_next kA hHeld
  replace kg1 := fact_next kg1 hHeld
  replace hTot := hTot.trans (Below.mono hHeld hTot.size)
  have g2 := row_keep (row8_own h4)
  have kg2 := h6
  clear hHeld h1
  clear h4 h5 h6
  have hHeld : Below v5.heap.size v5 v5 := Below.refl _ _
  refine wpAnyH_take (i := 20) (oi := { dst := some 74, op := Op.convert 31 9 (Operand.tmp 73), type := 9, pos := "law.go:92", after := #[{ on := 19, ground := Ground.data }, { on := 12, ground := Ground.guard }], guard := some (12, true) }) (v := ?_) rfl (by kernel_rfl) (by kernel_rfl) (by kernel_rfl) (fun _ _ _ h => h) (Or.inl ⟨by rfl, ?_⟩) hHeld ?_
  rotate_left
  · intro u hSw
    go_simp
    try with_reducible rfl
  try simp only [Act.put, List.setIfInBounds_toArray, List.set_cons_zero, List.set_cons_succ]
  refine wpAnyH_take (i := 23) (oi := { dst := some 77, op := Op.binOp BinOp.eql 9 (Operand.tmp 74) (Operand.tmp 76) 9, type := 4, pos := "law.go:92", after := #[{ on := 20, ground := Ground.data }, { on := 22, ground := Ground.data }, { on := 12, ground := Ground.guard }], guard := some (12, true) }) (v := ?_) rfl (by kernel_rfl) (by kernel_rfl) (by kernel_rfl) (fun _ _ _ h => h) (Or.inl ⟨by rfl, ?_⟩) hHeld ?_
  rotate_left
  · intro u hSw
    go_simp
    try with_reducible rfl
  try simp only [Act.put, List.setIfInBounds_toArray, List.set_cons_zero, List.set_cons_succ]
  refine wpAnyH_take (i := 24) (oi := { dst := some 78, op := Op.pick (Operand.tmp 66) (Operand.tmp 77) (Operand.const (Value.bool false)), type := 4, pos := "law.go:92", after := #[{ on := 12, ground := Ground.data }, { on := 23, ground := Ground.data }], guard := none }) (v := ?_) rfl (by kernel_rfl) (by kernel_rfl) (by kernel_rfl) (fun _ _ _ h => h) (Or.inl ⟨by rfl, ?_⟩) hHeld ?_
  rotate_left
  · intro u hSw
    go_simp
    try with_reducible rfl
  try simp only [Act.put, List.setIfInBounds_toArray, List.set_cons_zero, List.set_cons_succ]
  refine wpAnyH_take (i := 25) (oi := { dst := some 79, op := Op.move (Operand.tmp 78), type := 4, pos := "law.go:92", after := #[{ on := 24, ground := Ground.data }, { on := 19, ground := Ground.chain }], guard := none }) (v := ?_) rfl (by kernel_rfl) (by kernel_rfl) (by kernel_rfl) (fun _ _ _ h => h) (Or.inl ⟨by rfl, ?_⟩) hHeld ?_
  rotate_left
  · intro u hSw
    go_simp
    try with_reducible rfl
  try simp only [Act.put, List.setIfInBounds_toArray, List.set_cons_zero, List.set_cons_succ]
  refine wpAnyH_take (i := 26) (oi := { dst := some 80, op := Op.move (Operand.tmp 4), type := 31, pos := "law.go:92", after := #[{ on := 25, ground := Ground.guard }], guard := some (25, true) }) (v := ?_) rfl (by kernel_rfl) (by kernel_rfl) (by kernel_rfl) (fun _ _ _ h => h) (Or.inl ⟨by rfl, ?_⟩) hHeld ?_
  rotate_left
  · intro u hSw
    go_simp
    try with_reducible rfl
  try simp only [Act.put, List.setIfInBounds_toArray, List.set_cons_zero, List.set_cons_succ]
  refine wpAnyH_take (i := 27) (oi := { dst := some 81, op := Op.move (Operand.tmp 5), type := 31, pos := "law.go:92", after := #[{ on := 25, ground := Ground.guard }], guard := some (25, true) }) (v := ?_) rfl (by kernel_rfl) (by kernel_rfl) (by kernel_rfl) (fun _ _ _ h => h) (Or.inl ⟨by rfl, ?_⟩) hHeld ?_
  rotate_left
  · intro u hSw
    go_simp
    try with_reducible rfl
  try simp only [Act.put, List.setIfInBounds_toArray, List.set_cons_zero, List.set_cons_succ]
  refine wpAnyH_take (i := 29) (oi := { dst := some 83, op := Op.move (Operand.tmp 5), type := 31, pos := "law.go:92", after := #[{ on := 25, ground := Ground.guard }], guard := some (25, true) }) (v := ?_) rfl (by kernel_rfl) (by kernel_rfl) (by kernel_rfl) (fun _ _ _ h => h) (Or.inl ⟨by rfl, ?_⟩) hHeld ?_
  rotate_left
  · intro u hSw
    go_simp
    try with_reducible rfl
  try simp only [Act.put, List.setIfInBounds_toArray, List.set_cons_zero, List.set_cons_succ]
  refine wpAnyH_take (i := 32) (oi := { dst := some 86, op := Op.move (Operand.tmp 4), type := 31, pos := "law.go:92", after := #[{ on := 25, ground := Ground.guard }], guard := some (25, true) }) (v := ?_) rfl (by kernel_rfl) (by kernel_rfl) (by kernel_rfl) (fun _ _ _ h => h) (Or.inl ⟨by rfl, ?_⟩) hHeld ?_
  rotate_left
  · intro u hSw
    go_simp
    try with_reducible rfl
  try simp only [Act.put, List.setIfInBounds_toArray, List.set_cons_zero, List.set_cons_succ]
  refine wpAnyH_take (i := 33) (oi := { dst := some 87, op := Op.convert 31 9 (Operand.tmp 86), type := 9, pos := "law.go:92", after := #[{ on := 32, ground := Ground.data }, { on := 25, ground := Ground.guard }], guard := some (25, true) }) (v := ?_) rfl (by kernel_rfl) (by kernel_rfl) (by kernel_rfl) (fun _ _ _ h => h) (Or.inl ⟨by rfl, ?_⟩) hHeld ?_
  rotate_left
  · intro u hSw
    go_simp
    try with_reducible rfl
  try simp only [Act.put, List.setIfInBounds_toArray, List.set_cons_zero, List.set_cons_succ]
  refine wpAnyH_ready (rs := [28]) (by kernel_rfl) (by simp) ?_
  refine AllReadyH.cons (o := { dst := some 82, op := Op.call { callee := Callee.value (Operand.func 22), args := #[Operand.tmp 80, Operand.tmp 81], argTypes := #[31, 31] }, type := 31, pos := "law.go:92", after := #[{ on := 26, ground := Ground.data }, { on := 27, ground := Ground.data }, { on := 25, ground := Ground.chain }, { on := 25, ground := Ground.guard }], guard := some (25, true) }) rfl (fun K hK => ?_) AllReadyH.nil
  go_simp
  refine Calls.mono (sum_C _ _ _ _ _ _ X Y _ _ rfl HL1.out HL2.out HM.out HM.out (rA _ hHeld) (rB _ hHeld)) ?_
  rintro r v6 ⟨_, rfl, h1, h4, h5, h6⟩
  go_wp2_with fail
  refine hK.out _ _ ?_ (fun hHeld => ?_)
  · exact (hHeld.trans (Below.mono h1 (below_size hHeld)))
  clear hK K
  try simp only [Act.put, List.setIfInBounds_toArray, List.set_cons_zero, List.set_cons_succ]
  refine wpAnyH_here hHeld ?_
  replace rA := row_next rA hHeld
  replace rB := row_next rB hHeld
  replace g1 := row_next g1 hHeld
  replace g2 := row_next g2 hHeld
  replace kA := fact_next kA hHeld
  replace kg1 := fact_next kg1 hHeld
  replace kg2 := fact_next kg2 hHeld
  replace hTot := hTot.trans (Below.mono hHeld hTot.size)
  have g3 := row_keep (row8_own h4)
  have kg3 := h6
  clear hHeld h1
  clear h4 h5 h6
  have hHeld : Below v6.heap.size v6 v6 := Below.refl _ _
  refine wpAnyH_ready (rs := [30]) (by kernel_rfl) (by simp) ?_
  refine AllReadyH.cons (o := { dst := some 84, op := Op.call { callee := Callee.value (Operand.func 22), args := #[Operand.tmp 82, Operand.tmp 83], argTypes := #[31, 31] }, type := 31, pos := "law.go:92", after := #[{ on := 28, ground := Ground.data }, { on := 29, ground := Ground.data }, { on := 28, ground := Ground.chain }, { on := 25, ground := Ground.guard }], guard := some (25, true) }) rfl (fun K hK => ?_) AllReadyH.nil
  go_simp
  refine Calls.mono (sum_C _ _ _ _ _ _ (scaled 1 X Y) Y X _ (scaled_back _ _ _ HLYX.out) rfl HL2.out mXY1 HM.out (g3 _ hHeld) (rB _ hHeld)) ?_
  rintro r v7 ⟨_, rfl, h1, h4, h5, h6⟩
  go_wp2_with fail
  refine hK.out _ _ ?_ (fun hHeld => ?_)
  · exact (hHeld.trans (Below.mono h1 (below_size hHeld)))
  clear hK K
  try simp only [Act.put, List.setIfInBounds_toArray, List.set_cons_zero, List.set_cons_succ]
  refine wpAnyH_here hHeld ?_
  replace rA := row_next rA hHeld
  replace rB := row_next rB hHeld
  replace g1 := row_next g1 hHeld
  replace g2 := row_next g2 hHeld
  replace g3 := row_next g3 hHeld
  replace kA := fact_next kA hHeld
  replace kg1 := fact_next kg1 hHeld
  replace kg2 := fact_next kg2 hHeld
  replace kg3 := fact_next kg3 hHeld
  replace hTot := hTot.trans (Below.mono hHeld hTot.size)
  have g4 := row_keep (row8_own h4)
  have kg4 := h6
  clear hHeld h1
  clear h4 h5 h6
  have hHeld : Below v7.heap.size v7 v7 := Below.refl _ _
  refine wpAnyH_take (i := 31) (oi := { dst := some 85, op := Op.convert 31 9 (Operand.tmp 84), type := 9, pos := "law.go:92", after := #[{ on := 30, ground := Ground.data }, { on := 25, ground := Ground.guard }], guard := some (25, true) }) (v := ?_) rfl (by kernel_rfl) (by kernel_rfl) (by kernel_rfl) (fun _ _ _ h => h) (Or.inl ⟨by rfl, ?_⟩) hHeld ?_
  rotate_left
  · intro u hSw
    go_simp
    try with_reducible rfl
  try simp only [Act.put, List.setIfInBounds_toArray, List.set_cons_zero, List.set_cons_succ]
  refine wpAnyH_take (i := 34) (oi := { dst := some 88, op := Op.binOp BinOp.eql 9 (Operand.tmp 85) (Operand.tmp 87) 9, type := 4, pos := "law.go:92", after := #[{ on := 31, ground := Ground.data }, { on := 33, ground := Ground.data }, { on := 25, ground := Ground.guard }], guard := some (25, true) }) (v := ?_) rfl (by kernel_rfl) (by kernel_rfl) (by kernel_rfl) (fun _ _ _ h => h) (Or.inl ⟨by rfl, ?_⟩) hHeld ?_
  rotate_left
  · intro u hSw
    go_simp
    try with_reducible rfl
  try simp only [Act.put, List.setIfInBounds_toArray, List.set_cons_zero, List.set_cons_succ]
  refine wpAnyH_take (i := 35) (oi := { dst := some 89, op := Op.pick (Operand.tmp 79) (Operand.tmp 88) (Operand.const (Value.bool false)), type := 4, pos := "law.go:92", after := #[{ on := 25, ground := Ground.data }, { on := 34, ground := Ground.data }], guard := none }) (v := ?_) rfl (by kernel_rfl) (by kernel_rfl) (by kernel_rfl) (fun _ _ _ h => h) (Or.inl ⟨by rfl, ?_⟩) hHeld ?_
  rotate_left
  · intro u hSw
    go_simp
    try with_reducible rfl
  try simp only [Act.put, List.setIfInBounds_toArray, List.set_cons_zero, List.set_cons_succ]
  refine wpAnyH_take (i := 36) (oi := { dst := some 2, op := Op.assign (Operand.tmp 89), type := 4, pos := "law.go:92", after := #[{ on := 35, ground := Ground.data }, { on := 30, ground := Ground.chain }, { on := 0, ground := Ground.phase }, { on := 1, ground := Ground.phase }, { on := 2, ground := Ground.phase }, { on := 3, ground := Ground.phase }, { on := 4, ground := Ground.phase }, { on := 5, ground := Ground.phase }, { on := 6, ground := Ground.phase }, { on := 7, ground := Ground.phase }, { on := 8, ground := Ground.phase }, { on := 9, ground := Ground.phase }, { on := 10, ground := Ground.phase }, { on := 11, ground := Ground.phase }, { on := 12, ground := Ground.phase }, { on := 13, ground := Ground.phase }, { on := 14, ground := Ground.phase }, { on := 15, ground := Ground.phase }, { on := 16, ground := Ground.phase }, { on := 17, ground := Ground.phase }, { on := 18, ground := Ground.phase }, { on := 19, ground := Ground.phase }, { on := 20, ground := Ground.phase }, { on := 21, ground := Ground.phase }, { on := 22, ground := Ground.phase }, { on := 23, ground := Ground.phase }, { on := 24, ground := Ground.phase }, { on := 25, ground := Ground.phase }, { on := 26, ground := Ground.phase }, { on := 27, ground := Ground.phase }, { on := 28, ground := Ground.phase }, { on := 29, ground := Ground.phase }, { on := 30, ground := Ground.phase }, { on := 31, ground := Ground.phase }, { on := 32, ground := Ground.phase }, { on := 33, ground := Ground.phase }, { on := 34, ground := Ground.phase }, { on := 35, ground := Ground.phase }], guard := none }) (v := ?_) rfl (by kernel_rfl) (by kernel_rfl) (by kernel_rfl) (fun _ _ _ h => h) (Or.inl ⟨by rfl, ?_⟩) hHeld ?_
  rotate_left
  · intro u hSw
    go_simp
    try with_reducible rfl
  try simp only [Act.put, List.setIfInBounds_toArray, List.set_cons_zero, List.set_cons_succ]
  refine wpAnyH_done (by kernel_rfl) ?_ _
  refine NoPanic.normal ?_
  go_wp2
  go_ret
  exact ⟨rfl, len_next HB1.out hTot⟩
set_option maxHeartbeats 8000000 in
theorem bilinear_C (a b d : Option Addr) (la ca lb cb ld cd : Nat) (xs ys zs : List F) (c : F) (w : World)
    (ka : la ≤ ca) (kb : lb ≤ cb) (kd : ld ≤ cd) (o1 : la ≤ lb) (o2 : ld < la) (e1 : la = xs.length) (e2 : lb = ys.length) (e3 : ld = zs.length)
    (ha : la ≤ 140737488351232) (hb : lb ≤ 140737488351232) (hd : ld ≤ 140737488351232)
    (hx : Row8 w a xs) (hy : Row8 w b ys) (hz : Row8 w d zs) :
    Calls Try.prog 7 #[.agg #[.slice a la ca, .slice b lb cb, .slice d ld cd, .int .u8 c.toNat]] w fun e w' => e = .returned (.bool true) ∧ Below w.heap.size w w' := by
  have HX : Hid _ := row_take ld hx
  have HY : Hid _ := row_take ld hy
  have HZ : Hid _ := row_take ld hz
  have HL1 : Hid (ld = (xs.take ld).length) := by show _ = _; rw [List.length_take]; omega
  have HL2 : Hid (ld = (ys.take ld).length) := by show _ = _; rw [List.length_take]; omega
  have HL3 : Hid (ld = (zs.take ld).length) := by show _ = _; rw [List.length_take]; omega
  have HM : Hid (ld ≤ 140737488355328) := by show _ ≤ _; omega
  generalize xs.take ld = X at HX HL1
  generalize ys.take ld = Y at HY HL2
  generalize zs.take ld = Z at HZ HL3
  have mX : X.length ≤ 140737488351232 := by have := HL1.out; omega
  have mY : Y.length ≤ 140737488351232 := by have := HL2.out; omega
  have mZ : Z.length ≤ 140737488351232 := by have := HL3.out; omega
  have mXY : (scaled c X Y).length ≤ 140737488355328 := by rw [scaled_len]; omega
  have mXY1 : (scaled 1 X Y).length ≤ 140737488355328 := by rw [scaled_len]; omega
  have HLYX : Hid (Y.length = X.length) := HL2.out.symm.trans HL1.out
  have HLZX : Hid (Z.length = X.length) := HL3.out.symm.trans HL1.out
  clear hx hy hz e1 e2 e3
  have q0 : ld ≤ cb := by omega
  have q1 : ld ≤ cd := by omega
  have q2 : ld ≤ ca := by omega
  have p0 : (0 : Int) ≤ (ld : Int) := by omega
  go_enter Try.func7, Try.ntmps7
  go_wp2_with fail
  refine Calls.mono (alive_ok _) ?_
  rintro r w1 ⟨rfl, hb1⟩
  have hbox := cells4 hb1
  have c0 := box_cell hbox 0 _ rfl
  have c1 := box_cell hbox 1 _ rfl
  have c2 := box_cell hbox 2 _ rfl
  have c3 := box_cell hbox 3 _ rfl
  have hB1 : Below w.heap.size w w1 := ((Below.refl _ _).alloc (Nat.le_refl _) _).trans (hb1.mono (by simp))
  have rA := row_keep (row8_below HX.out hB1)
  have rB := row_keep (row8_below HY.out hB1)
  have rD := row_keep (row8_below HZ.out hB1)
  have kA := conv_keep (ca := ld) HL1.out rA
  have HB1 : Hid _ := hB1
  clear hb1 hbox hB1 HX HY HZ
  have hR : Below w1.heap.size w1 w1 := Below.refl _ _
  go_wp2
  go_region_held3 (fun w' => Below w1.heap.size w1 w') (first | assumption | (refine Below.drew ?_; assumption)) (fail)
  clear c0 c1 c2 c3 q0 q1 q2 hR
  go_wp2_with (first | (go_at_call 24; refine' (addScaled_C _ _ _ _ _ _ _ _ _ _ _ ?hz ?hla ?hlb ?ha ?hb ?hx ?hy).mono ?_; (case hx => (first | exact rA _ ‹_› | exact rB _ ‹_› | exact rD _ ‹_› | exact row8_own ‹_› | exact row8_below (row8_own ‹_›) ‹_›)); (case hy => (first | exact rA _ ‹_› | exact rB _ ‹_› | exact rD _ ‹_› | exact row8_own ‹_› | exact row8_below (row8_own ‹_›) ‹_›)); (case hla => (first | rfl | exact HL1.out | exact HL2.out | exact HL3.out)); (case hlb => (first | rfl | exact HL1.out | exact HL2.out | exact HL3.out)); (case hz => rfl); (case ha => (first | exact HM.out | ((try simp only [scaled_len]); omega))); (case hb => (first | exact HM.out | ((try simp only [scaled_len]); omega))); rintro r w' ⟨g, rfl, h1, h4, h5, h6⟩; have hT : Below w1.heap.size w1 w' := Below.trans ‹Below w1.heap.size w1 _› (Below.mono h1 (below_size ‹Below w1.heap.size w1 _›)); skip) | (go_at_call 25; refine' (dot_B _ _ _ _ _ _ _ _ (_) _ ?hv ?hla ?hlb ?ha ?hb ?hx ?hy).mono ?_; (case hx => (first | exact rA _ ‹_› | exact rB _ ‹_› | exact rD _ ‹_› | exact row8_own ‹_› | exact row8_below (row8_own ‹_›) ‹_›)); (case hy => (first | exact rA _ ‹_› | exact rB _ ‹_› | exact rD _ ‹_› | exact row8_own ‹_› | exact row8_below (row8_own ‹_›) ‹_›)); (case hla => (first | rfl | exact HL1.out | exact HL2.out | exact HL3.out)); (case hlb => (first | rfl | exact HL1.out | exact HL2.out | exact HL3.out)); (case hv => (first | exact dot_scaled _ _ _ _ HLZX.out | rfl)); (case ha => (first | exact HM.out | ((try simp only [scaled_len]); omega))); (case hb => (first | exact HM.out | ((try simp only [scaled_len]); omega))); rintro r w' ⟨rfl, h1⟩; have hT : Below w1.heap.size w1 w' := Below.trans ‹Below w1.heap.size w1 _› (Below.mono h1 (below_size ‹Below w1.heap.size w1 _›)); skip) | (go_at_call 17; refine (mul_F _ _ _).mono ?_; rintro r w' ⟨rfl, rfl⟩) | (go_at_call 16; refine (add_F _ _ _).mono ?_; rintro r w' ⟨rfl, rfl⟩))
  have hT0 := hT
  refine wp_region_noPanic ?_
  refine wp_region_held_drew (S := fun w' => Below w1.heap.size w1 w') (by kernel_rfl) ?_ (fun hHeld => ?_)
  · exact Below.drew hT
  have hTot : Below w1.heap.size w1 w1 := Below.refl _ _
  refine wpAnyH_take (i := 0) (oi := { dst := some 54, op := Op.move (Operand.tmp 8), type := 5, pos := "law.go:92", after := #[], guard := none }) (v := ?_) rfl (by kernel_rfl) (by kernel_rfl) (by kernel_rfl) (fun _ _ _ h => h) (Or.inl ⟨by rfl, ?_⟩) hHeld ?_
  rotate_left
  · intro u hSw
    go_simp
    try with_reducible rfl
  try simp only [Act.put, List.setIfInBounds_toArray, List.set_cons_zero, List.set_cons_succ]
  refine wpAnyH_take (i := 1) (oi := { dst := some 55, op := Op.move (Operand.tmp 9), type := 5, pos := "law.go:92", after := #[], guard := none }) (v := ?_) rfl (by kernel_rfl) (by kernel_rfl) (by kernel_rfl) (fun _ _ _ h => h) (Or.inl ⟨by rfl, ?_⟩) hHeld ?_
  rotate_left
  · intro u hSw
    go_simp
    try with_reducible rfl
  try simp only [Act.put, List.setIfInBounds_toArray, List.set_cons_zero, List.set_cons_succ]
  refine wpAnyH_take (i := 2) (oi := { dst := some 56, op := Op.binOp BinOp.eql 5 (Operand.tmp 54) (Operand.tmp 55) 5, type := 4, pos := "law.go:92", after := #[{ on := 0, ground := Ground.data }, { on := 1, ground := Ground.data }], guard := none }) (v := ?_) rfl (by kernel_rfl) (by kernel_rfl) (by kernel_rfl) (fun _ _ _ h => h) (Or.inl ⟨by rfl, ?_⟩) hHeld ?_
  rotate_left
  · intro u hSw
    go_simp
    try with_reducible rfl
  try simp only [Act.put, List.setIfInBounds_toArray, List.set_cons_zero, List.set_cons_succ]
  refine wpAnyH_take (i := 3) (oi := { dst := some 57, op := Op.move (Operand.tmp 56), type := 4, pos := "law.go:92", after := #[{ on := 2, ground := Ground.data }], guard := none }) (v := ?_) rfl (by kernel_rfl) (by kernel_rfl) (by kernel_rfl) (fun _ _ _ h => h) (Or.inl ⟨by rfl, ?_⟩) hHeld ?_
  rotate_left
  · intro u hSw
    go_simp
    try with_reducible rfl
  try simp only [Act.put, List.setIfInBounds_toArray, List.set_cons_zero, List.set_cons_succ]
  refine wpAnyH_take (i := 4) (oi := { dst := some 58, op := Op.move (Operand.tmp 4), type := 31, pos := "law.go:92", after := #[{ on := 3, ground := Ground.guard }], guard := some (3, true) }) (v := ?_) rfl (by kernel_rfl) (by kernel_rfl) (by kernel_rfl) (fun _ _ _ h => h) (Or.inl ⟨by rfl, ?_⟩) hHeld ?_
  rotate_left
  · intro u hSw
    go_simp
    try with_reducible rfl
  try simp only [Act.put, List.setIfInBounds_toArray, List.set_cons_zero, List.set_cons_succ]
  refine wpAnyH_take (i := 5) (oi := { dst := some 59, op := Op.move (Operand.tmp 5), type := 31, pos := "law.go:92", after := #[{ on := 3, ground := Ground.guard }], guard := some (3, true) }) (v := ?_) rfl (by kernel_rfl) (by kernel_rfl) (by kernel_rfl) (fun _ _ _ h => h) (Or.inl ⟨by rfl, ?_⟩) hHeld ?_
  rotate_left
  · intro u hSw
    go_simp
    try with_reducible rfl
  try simp only [Act.put, List.setIfInBounds_toArray, List.set_cons_zero, List.set_cons_succ]
  refine wpAnyH_take (i := 7) (oi := { dst := some 61, op := Op.move (Operand.tmp 5), type := 31, pos := "law.go:92", after := #[{ on := 3, ground := Ground.guard }], guard := some (3, true) }) (v := ?_) rfl (by kernel_rfl) (by kernel_rfl) (by kernel_rfl) (fun _ _ _ h => h) (Or.inl ⟨by rfl, ?_⟩) hHeld ?_
  rotate_left
  · intro u hSw
    go_simp
    try with_reducible rfl
  try simp only [Act.put, List.setIfInBounds_toArray, List.set_cons_zero, List.set_cons_succ]
  refine wpAnyH_take (i := 8) (oi := { dst := some 62, op := Op.move (Operand.tmp 4), type := 31, pos := "law.go:92", after := #[{ on := 3, ground := Ground.guard }], guard := some (3, true) }) (v := ?_) rfl (by kernel_rfl) (by kernel_rfl) (by kernel_rfl) (fun _ _ _ h => h) (Or.inl ⟨by rfl, ?_⟩) hHeld ?_
  rotate_left
  · intro u hSw
    go_simp
    try with_reducible rfl
  try simp only [Act.put, List.setIfInBounds_toArray, List.set_cons_zero, List.set_cons_succ]
  refine wpAnyH_ready (rs := [6]) (by kernel_rfl) (by simp) ?_
  refine AllReadyH.cons (o := { dst := some 60, op := Op.call { callee := Callee.value (Operand.func 25), args := #[Operand.tmp 58, Operand.tmp 59], argTypes := #[31, 31] }, type := 5, pos := "law.go:92", after := #[{ on := 4, ground := Ground.data }, { on := 5, ground := Ground.data }, { on := 3, ground := Ground.chain }, { on := 3, ground := Ground.guard }], guard := some (3, true) }) rfl (fun K hK => ?_) AllReadyH.nil
  go_simp
  refine Calls.mono (dot_B _ _ _ _ _ _ X Y (dot X Y) _ rfl HL1.out HL2.out HM.out HM.out (rA _ hHeld) (rB _ hHeld)) ?_
  rintro r v2 ⟨rfl, h1⟩
  go_wp2_with fail
  refine hK.out _ _ ?_ (fun hHeld => ?_)
  · exact (hHeld.trans (Below.mono h1 (below_size hHeld)))
  clear hK K
  try simp only [Act.put, List.setIfInBounds_toArray, List.set_cons_zero, List.set_cons_succ]
  refine wpAnyH_here hHeld ?_
  replace rA := row_next rA hHeld
  replace rB := row_next rB hHeld
  replace kA := fact_next kA hHeld
  replace hTot := hTot.trans (Below.mono hHeld hTot.size)
  clear hHeld h1
  have hHeld : Below v2.heap.size v2 v2 := Below.refl _ _
  refine wpAnyH_ready (rs := [9]) (by kernel_rfl) (by simp) ?_
  refine AllReadyH.cons (o := { dst := some 63, op := Op.call { callee := Callee.value (Operand.func 25), args := #[Operand.tmp 61, Operand.tmp 62], argTypes := #[31, 31] }, type := 5, pos := "law.go:92", after := #[{ on := 7, ground := Ground.data }, { on := 8, ground := Ground.data }, { on := 6, ground := Ground.chain }, { on := 3, ground := Ground.guard }], guard := some (3, true) }) rfl (fun K hK => ?_) AllReadyH.nil
  go_simp
  refine Calls.mono (dot_B _ _ _ _ _ _ Y X (dot X Y) _ (dot_eq_sum _ _) HL2.out HL1.out HM.out HM.out (rB _ hHeld) (rA _ hHeld)) ?_
  rintro r v3 ⟨rfl, h1⟩
  go_wp2_with fail
  refine hK.out _ _ ?_ (fun hHeld => ?_)
  · exact (hHeld.trans (Below.mono h1 (below_size hHeld)))
  clear hK K
  try simp only [Act.put, List.setIfInBounds_toArray, List.set_cons_zero, List.set_cons_succ]
  refine wpAnyH_here hHeld ?_
  replace rA := row_next rA hHeld
  replace rB := row_next rB hHeld
  replace kA := fact_next kA hHeld
  replace hTot := hTot.trans (Below.mono hHeld hTot.size)
  clear hHeld h1
  have hHeld : Below v3.heap.size v3 v3 := Below.refl _ _
  refine wpAnyH_take (i := 10) (oi := { dst := some 64, op := Op.binOp BinOp.eql 5 (Operand.tmp 60) (Operand.tmp 63) 5, type := 4, pos := "law.go:92", after := #[{ on := 6, ground := Ground.data }, { on := 9, ground := Ground.data }, { on := 3, ground := Ground.guard }], guard := some (3, true) }) (v := ?_) rfl (by kernel_rfl) (by kernel_rfl) (by kernel_rfl) (fun _ _ _ h => h) (Or.inl ⟨by rfl, ?_⟩) hHeld ?_
  rotate_left
  · intro u hSw
    go_simp
    try with_reducible rfl
  try simp only [Act.put, List.setIfInBounds_toArray, List.set_cons_zero, List.set_cons_succ]
  refine wpAnyH_take (i := 11) (oi := { dst := some 65, op := Op.pick (Operand.tmp 57) (Operand.tmp 64) (Operand.const (Value.bool false)), type := 4, pos := "law.go:92", after := #[{ on := 3, ground := Ground.data }, { on := 10, ground := Ground.data }], guard := none }) (v := ?_) rfl (by kernel_rfl) (by kernel_rfl) (by kernel_rfl) (fun _ _ _ h => h) (Or.inl ⟨by rfl, ?_⟩) hHeld ?_
  rotate_left
  · intro u hSw
    go_simp
    try with_reducible rfl
  try simp only [Act.put, List.setIfInBounds_toArray, List.set_cons_zero, List.set_cons_succ]
  refine wpAnyH_take (i := 12) (oi := { dst := some 66, op := Op.move (Operand.tmp 65), type := 4, pos := "law.go:92", after := #[{ on := 11, ground := Ground.data }, { on := 9, ground := Ground.chain }], guard := none }) (v := ?_) rfl (by kernel_rfl) (by kernel_rfl) (by kernel_rfl) (fun _ _ _ h => h) (Or.inl ⟨by rfl, ?_⟩) hHeld ?_
  rotate_left
  · intro u hSw
    go_simp
    try with_reducible rfl
  try simp only [Act.put, List.setIfInBounds_toArray, List.set_cons_zero, List.set_cons_succ]
  refine wpAnyH_take (i := 13) (oi := { dst := some 67, op := Op.move (Operand.tmp 4), type := 31, pos := "law.go:92", after := #[{ on := 12, ground := Ground.guard }], guard := some (12, true) }) (v := ?_) rfl (by kernel_rfl) (by kernel_rfl) (by kernel_rfl) (fun _ _ _ h => h) (Or.inl ⟨by rfl, ?_⟩) hHeld ?_
  rotate_left
  · intro u hSw
    go_simp
    try with_reducible rfl
  try simp only [Act.put, List.setIfInBounds_toArray, List.set_cons_zero, List.set_cons_succ]
  refine wpAnyH_take (i := 14) (oi := { dst := some 68, op := Op.move (Operand.tmp 7), type := 5, pos := "law.go:92", after := #[{ on := 12, ground := Ground.guard }], guard := some (12, true) }) (v := ?_) rfl (by kernel_rfl) (by kernel_rfl) (by kernel_rfl) (fun _ _ _ h => h) (Or.inl ⟨by rfl, ?_⟩) hHeld ?_
  rotate_left
  · intro u hSw
    go_simp
    try with_reducible rfl
  try simp only [Act.put, List.setIfInBounds_toArray, List.set_cons_zero, List.set_cons_succ]
  refine wpAnyH_take (i := 15) (oi := { dst := some 69, op := Op.move (Operand.tmp 5), type := 31, pos := "law.go:92", after := #[{ on := 12, ground := Ground.guard }], guard := some (12, true) }) (v := ?_) rfl (by kernel_rfl) (by kernel_rfl) (by kernel_rfl) (fun _ _ _ h => h) (Or.inl ⟨by rfl, ?_⟩) hHeld ?_
  rotate_left
  · intro u hSw
    go_simp
    try with_reducible rfl
  try simp only [Act.put, List.setIfInBounds_toArray, List.set_cons_zero, List.set_cons_succ]
  refine wpAnyH_take (i := 17) (oi := { dst := some 71, op := Op.move (Operand.tmp 7), type := 5, pos := "law.go:92", after := #[{ on := 12, ground := Ground.guard }], guard := some (12, true) }) (v := ?_) rfl (by kernel_rfl) (by kernel_rfl) (by kernel_rfl) (fun _ _ _ h => h) (Or.inl ⟨by rfl, ?_⟩) hHeld ?_
  rotate_left
  · intro u hSw
    go_simp
    try with_reducible rfl
  try simp only [Act.put, List.setIfInBounds_toArray, List.set_cons_zero, List.set_cons_succ]
  refine wpAnyH_take (i := 18) (oi := { dst := some 72, op := Op.move (Operand.tmp 5), type := 31, pos := "law.go:92", after := #[{ on := 12, ground := Ground.guard }], guard := some (12, true) }) (v := ?_) rfl (by kernel_rfl) (by kernel_rfl) (by kernel_rfl) (fun _ _ _ h => h) (Or.inl ⟨by rfl, ?_⟩) hHeld ?_
  rotate_left
  · intro u hSw
    go_simp
    try with_reducible rfl
  try simp only [Act.put, List.setIfInBounds_toArray, List.set_cons_zero, List.set_cons_succ]
  refine wpAnyH_take (i := 21) (oi := { dst := some 75, op := Op.move (Operand.tmp 4), type := 31, pos := "law.go:92", after := #[{ on := 12, ground := Ground.guard }], guard := some (12, true) }) (v := ?_) rfl (by kernel_rfl) (by kernel_rfl) (by kernel_rfl) (fun _ _ _ h => h) (Or.inl ⟨by rfl, ?_⟩) hHeld ?_
  rotate_left
  · intro u hSw
    go_simp
    try with_reducible rfl
  try simp only [Act.put, List.setIfInBounds_toArray, List.set_cons_zero, List.set_cons_succ]
  refine wpAnyH_take (i := 22) (oi := { dst := some 76, op := Op.convert 31 9 (Operand.tmp 75), type := 9, pos := "law.go:92", after := #[{ on := 21, ground := Ground.data }, { on := 12, ground := Ground.guard }], guard := some (12, true) }) (v := ?_) rfl (by kernel_rfl) (by kernel_rfl) (by kernel_rfl) (fun _ _ _ h => h) (Or.inl ⟨by rfl, ?_⟩) hHeld ?_
  rotate_left
  · intro u hSw
    go_simp
    try with_reducible rfl
  try simp only [Act.put, List.setIfInBounds_toArray, List.set_cons_zero, List.set_cons_succ]
  refine wpAnyH_ready (rs := [16]) (by kernel_rfl) (by simp) ?_
  refine AllReadyH.cons (o := { dst := some 70, op := Op.call { callee := Callee.value (Operand.func 24), args := #[Operand.tmp 67, Operand.tmp 68, Operand.tmp 69], argTypes := #[31, 5, 31] }, type := 31, pos := "law.go:92", after := #[{ on := 13, ground := Ground.data }, { on := 14, ground := Ground.data }, { on := 15, ground := Ground.data }, { on := 12, ground := Ground.chain }, { on := 12, ground := Ground.guard }], guard := some (12, true) }) rfl (fun K hK => ?_) AllReadyH.nil
  go_simp
  refine Calls.mono (addScaled_C c _ _ _ _ _ _ X Y _ _ rfl HL1.out HL2.out HM.out HM.out (rA _ hHeld) (rB _ hHeld)) ?_
  rintro r v4 ⟨_, rfl, h1, h4, h5, h6⟩
  go_wp2_with fail
  refine hK.out _ _ ?_ (fun hHeld => ?_)
  · exact (hHeld.trans (Below.mono h1 (below_size hHeld)))
  clear hK K
  try simp only [Act.put, List.setIfInBounds_toArray, List.set_cons_zero, List.set_cons_succ]
  refine wpAnyH_here hHeld ?_
  replace rA := row_next rA hHeld
  replace rB := row_next rB hHeld
  replace kA := fact_next kA hHeld
  replace hTot := hTot.trans (Below.mono hHeld hTot.size)
  have g1 := row_keep (row8_own h4)
  have kg1 := h6
  clear hHeld h1
  clear h4 h5 h6
  have hHeld : Below v4.heap.size v4 v4 := Below.refl _ _
  refine wpAnyH_ready (rs := [19]) (by kernel_rfl) (by simp) ?_
  refine AllReadyH.cons (o := { dst := some 73, op := Op.call { callee := Callee.value (Operand.func 24), args := #[Operand.tmp 70, Operand.tmp 71, Operand.tmp 72], argTypes := #[31, 5, 31] }, type := 31, pos := "law.go:92", after := #[{ on := 16, ground := Ground.data }, { on := 17, ground := Ground.data }, { on := 18, ground := Ground.data }, { on := 16, ground := Ground.chain }, { on := 12, ground := Ground.guard }], guard := some (12, true) }) rfl (fun K hK => ?_) AllReadyH.nil
  go_simp
  refine Calls.mono (addScaled_C c _ _ _ _ _ _ (scaled c X Y) Y X _ (scaled_back _ _ _ HLYX.out) rfl HL2.out mXY HM.out (g1 _ hHeld) (rB _ hHeld)) ?_
  rintro r v5 ⟨_, rfl, h1, h4, h5, h6⟩
  go_wp2_with fail
  refine hK.out _ _ ?_ (fun hHeld => ?_)
  · exact (hHeld.trans (Below.mono h1 (below_size hHeld)))
  clear hK K
  try simp only [Act.put, List.setIfInBounds_toArray, List.set_cons_zero, List.set_cons_succ]
  refine wpAnyH_here hHeld ?_
  replace rA := row_next rA hHeld
  replace rB := row_next rB hHeld
  replace g1 := row_next g1 hHeld
  replace kA := fact_next kA hHeld
  replace kg1 := fact_next kg1 hHeld
  replace hTot := hTot.trans (Below.mono hHeld hTot.size)
  have g2 := row_keep (row8_own h4)
  have kg2 := h6
  clear hHeld h1
  clear h4 h5 h6
  have hHeld : Below v5.heap.size v5 v5 := Below.refl _ _
  refine wpAnyH_take (i := 20) (oi := { dst := some 74, op := Op.convert 31 9 (Operand.tmp 73), type := 9, pos := "law.go:92", after := #[{ on := 19, ground := Ground.data }, { on := 12, ground := Ground.guard }], guard := some (12, true) }) (v := ?_) rfl (by kernel_rfl) (by kernel_rfl) (by kernel_rfl) (fun _ _ _ h => h) (Or.inl ⟨by rfl, ?_⟩) hHeld ?_
  rotate_left
  · intro u hSw
    go_simp
    try with_reducible rfl
  try simp only [Act.put, List.setIfInBounds_toArray, List.set_cons_zero, List.set_cons_succ]
  refine wpAnyH_take (i := 23) (oi := { dst := some 77, op := Op.binOp BinOp.eql 9 (Operand.tmp 74) (Operand.tmp 76) 9, type := 4, pos := "law.go:92", after := #[{ on := 20, ground := Ground.data }, { on := 22, ground := Ground.data }, { on := 12, ground := Ground.guard }], guard := some (12, true) }) (v := ?_) rfl (by kernel_rfl) (by kernel_rfl) (by kernel_rfl) (fun _ _ _ h => h) (Or.inl ⟨by rfl, ?_⟩) hHeld ?_
  rotate_left
  · intro u hSw
    go_simp
    try with_reducible rfl
  try simp only [Act.put, List.setIfInBounds_toArray, List.set_cons_zero, List.set_cons_succ]
  refine wpAnyH_take (i := 24) (oi := { dst := some 78, op := Op.pick (Operand.tmp 66) (Operand.tmp 77) (Operand.const (Value.bool false)), type := 4, pos := "law.go:92", after := #[{ on := 12, ground := Ground.data }, { on := 23, ground := Ground.data }], guard := none }) (v := ?_) rfl (by kernel_rfl) (by kernel_rfl) (by kernel_rfl) (fun _ _ _ h => h) (Or.inl ⟨by rfl, ?_⟩) hHeld ?_
  rotate_left
  · intro u hSw
    go_simp
    try with_reducible rfl
  try simp only [Act.put, List.setIfInBounds_toArray, List.set_cons_zero, List.set_cons_succ]
  refine wpAnyH_take (i := 25) (oi := { dst := some 79, op := Op.move (Operand.tmp 78), type := 4, pos := "law.go:92", after := #[{ on := 24, ground := Ground.data }, { on := 19, ground := Ground.chain }], guard := none }) (v := ?_) rfl (by kernel_rfl) (by kernel_rfl) (by kernel_rfl) (fun _ _ _ h => h) (Or.inl ⟨by rfl, ?_⟩) hHeld ?_
  rotate_left
  · intro u hSw
    go_simp
    try with_reducible rfl
  try simp only [Act.put, List.setIfInBounds_toArray, List.set_cons_zero, List.set_cons_succ]
  refine wpAnyH_take (i := 26) (oi := { dst := some 80, op := Op.move (Operand.tmp 4), type := 31, pos := "law.go:92", after := #[{ on := 25, ground := Ground.guard }], guard := some (25, true) }) (v := ?_) rfl (by kernel_rfl) (by kernel_rfl) (by kernel_rfl) (fun _ _ _ h => h) (Or.inl ⟨by rfl, ?_⟩) hHeld ?_
  rotate_left
  · intro u hSw
    go_simp
    try with_reducible rfl
  try simp only [Act.put, List.setIfInBounds_toArray, List.set_cons_zero, List.set_cons_succ]
  refine wpAnyH_take (i := 27) (oi := { dst := some 81, op := Op.move (Operand.tmp 5), type := 31, pos := "law.go:92", after := #[{ on := 25, ground := Ground.guard }], guard := some (25, true) }) (v := ?_) rfl (by kernel_rfl) (by kernel_rfl) (by kernel_rfl) (fun _ _ _ h => h) (Or.inl ⟨by rfl, ?_⟩) hHeld ?_
  rotate_left
  · intro u hSw
    go_simp
    try with_reducible rfl
  try simp only [Act.put, List.setIfInBounds_toArray, List.set_cons_zero, List.set_cons_succ]
  refine wpAnyH_take (i := 29) (oi := { dst := some 83, op := Op.move (Operand.tmp 5), type := 31, pos := "law.go:92", after := #[{ on := 25, ground := Ground.guard }], guard := some (25, true) }) (v := ?_) rfl (by kernel_rfl) (by kernel_rfl) (by kernel_rfl) (fun _ _ _ h => h) (Or.inl ⟨by rfl, ?_⟩) hHeld ?_
  rotate_left
  · intro u hSw
    go_simp
    try with_reducible rfl
  try simp only [Act.put, List.setIfInBounds_toArray, List.set_cons_zero, List.set_cons_succ]
  refine wpAnyH_take (i := 32) (oi := { dst := some 86, op := Op.move (Operand.tmp 4), type := 31, pos := "law.go:92", after := #[{ on := 25, ground := Ground.guard }], guard := some (25, true) }) (v := ?_) rfl (by kernel_rfl) (by kernel_rfl) (by kernel_rfl) (fun _ _ _ h => h) (Or.inl ⟨by rfl, ?_⟩) hHeld ?_
  rotate_left
  · intro u hSw
    go_simp
    try with_reducible rfl
  try simp only [Act.put, List.setIfInBounds_toArray, List.set_cons_zero, List.set_cons_succ]
  refine wpAnyH_take (i := 33) (oi := { dst := some 87, op := Op.convert 31 9 (Operand.tmp 86), type := 9, pos := "law.go:92", after := #[{ on := 32, ground := Ground.data }, { on := 25, ground := Ground.guard }], guard := some (25, true) }) (v := ?_) rfl (by kernel_rfl) (by kernel_rfl) (by kernel_rfl) (fun _ _ _ h => h) (Or.inl ⟨by rfl, ?_⟩) hHeld ?_
  rotate_left
  · intro u hSw
    go_simp
    try with_reducible rfl
  try simp only [Act.put, List.setIfInBounds_toArray, List.set_cons_zero, List.set_cons_succ]
  refine wpAnyH_ready (rs := [28]) (by kernel_rfl) (by simp) ?_
  refine AllReadyH.cons (o := { dst := some 82, op := Op.call { callee := Callee.value (Operand.func 22), args := #[Operand.tmp 80, Operand.tmp 81], argTypes := #[31, 31] }, type := 31, pos := "law.go:92", after := #[{ on := 26, ground := Ground.data }, { on := 27, ground := Ground.data }, { on := 25, ground := Ground.chain }, { on := 25, ground := Ground.guard }], guard := some (25, true) }) rfl (fun K hK => ?_) AllReadyH.nil
  go_simp
  refine Calls.mono (sum_C _ _ _ _ _ _ X Y _ _ rfl HL1.out HL2.out HM.out HM.out (rA _ hHeld) (rB _ hHeld)) ?_
  rintro r v6 ⟨_, rfl, h1, h4, h5, h6⟩
  go_wp2_with fail
  refine hK.out _ _ ?_ (fun hHeld => ?_)
  · exact (hHeld.trans (Below.mono h1 (below_size hHeld)))
  clear hK K
  try simp only [Act.put, List.setIfInBounds_toArray, List.set_cons_zero, List.set_cons_succ]
  refine wpAnyH_here hHeld ?_
  replace rA := row_next rA hHeld
  replace rB := row_next rB hHeld
  replace g1 := row_next g1 hHeld
  replace g2 := row_next g2 hHeld
  replace kA := fact_next kA hHeld
  replace kg1 := fact_next kg1 hHeld
  replace kg2 := fact_next kg2 hHeld
  replace hTot := hTot.trans (Below.mono hHeld hTot.size)
  have g3 := row_keep (row8_own h4)
  have kg3 := h6
  clear hHeld h1
  clear h4 h5 h6
  have hHeld : Below v6.heap.size v6 v6 := Below.refl _ _
  refine wpAnyH_ready (rs := [30]) (by kernel_rfl) (by simp) ?_
  refine AllReadyH.cons (o := { dst := some 84, op := Op.call { callee := Callee.value (Operand.func 22), args := #[Operand.tmp 82, Operand.tmp 83], argTypes := #[31, 31] }, type := 31, pos := "law.go:92", after := #[{ on := 28, ground := Ground.data }, { on := 29, ground := Ground.data }, { on := 28, ground := Ground.chain }, { on := 25, ground := Ground.guard }], guard := some (25, true) }) rfl (fun K hK => ?_) AllReadyH.nil
  go_simp
  refine Calls.mono (sum_C _ _ _ _ _ _ (scaled 1 X Y) Y X _ (scaled_back _ _ _ HLYX.out) rfl HL2.out mXY1 HM.out (g3 _ hHeld) (rB _ hHeld)) ?_
  rintro r v7 ⟨_, rfl, h1, h4, h5, h6⟩
  go_wp2_with fail
  refine hK.out _ _ ?_ (fun hHeld => ?_)
  · exact (hHeld.trans (Below.mono h1 (below_size hHeld)))
  clear hK K
  try simp only [Act.put, List.setIfInBounds_toArray, List.set_cons_zero, List.set_cons_succ]
  refine wpAnyH_here hHeld ?_
  replace rA := row_next rA hHeld
  replace rB := row_next rB hHeld
  replace g1 := row_next g1 hHeld
  replace g2 := row_next g2 hHeld
  replace g3 := row_next g3 hHeld
  replace kA := fact_next kA hHeld
  replace kg1 := fact_next kg1 hHeld
  replace kg2 := fact_next kg2 hHeld
  replace kg3 := fact_next kg3 hHeld
  replace hTot := hTot.trans (Below.mono hHeld hTot.size)
  have g4 := row_keep (row8_own h4)
  have kg4 := h6
  clear hHeld h1
  clear h4 h5 h6
  have hHeld : Below v7.heap.size v7 v7 := Below.refl _ _
  refine wpAnyH_take (i := 31) (oi := { dst := some 85, op := Op.convert 31 9 (Operand.tmp 84), type := 9, pos := "law.go:92", after := #[{ on := 30, ground := Ground.data }, { on := 25, ground := Ground.guard }], guard := some (25, true) }) (v := ?_) rfl (by kernel_rfl) (by kernel_rfl) (by kernel_rfl) (fun _ _ _ h => h) (Or.inl ⟨by rfl, ?_⟩) hHeld ?_
  rotate_left
  · intro u hSw
    go_simp
    try with_reducible rfl
  try simp only [Act.put, List.setIfInBounds_toArray, List.set_cons_zero, List.set_cons_succ]
  refine wpAnyH_take (i := 34) (oi := { dst := some 88, op := Op.binOp BinOp.eql 9 (Operand.tmp 85) (Operand.tmp 87) 9, type := 4, pos := "law.go:92", after := #[{ on := 31, ground := Ground.data }, { on := 33, ground := Ground.data }, { on := 25, ground := Ground.guard }], guard := some (25, true) }) (v := ?_) rfl (by kernel_rfl) (by kernel_rfl) (by kernel_rfl) (fun _ _ _ h => h) (Or.inl ⟨by rfl, ?_⟩) hHeld ?_
  rotate_left
  · intro u hSw
    go_simp
    try with_reducible rfl
  try simp only [Act.put, List.setIfInBounds_toArray, List.set_cons_zero, List.set_cons_succ]
  refine wpAnyH_take (i := 35) (oi := { dst := some 89, op := Op.pick (Operand.tmp 79) (Operand.tmp 88) (Operand.const (Value.bool false)), type := 4, pos := "law.go:92", after := #[{ on := 25, ground := Ground.data }, { on := 34, ground := Ground.data }], guard := none }) (v := ?_) rfl (by kernel_rfl) (by kernel_rfl) (by kernel_rfl) (fun _ _ _ h => h) (Or.inl ⟨by rfl, ?_⟩) hHeld ?_
  rotate_left
  · intro u hSw
    go_simp
    try with_reducible rfl
  try simp only [Act.put, List.setIfInBounds_toArray, List.set_cons_zero, List.set_cons_succ]
  refine wpAnyH_take (i := 36) (oi := { dst := some 2, op := Op.assign (Operand.tmp 89), type := 4, pos := "law.go:92", after := #[{ on := 35, ground := Ground.data }, { on := 30, ground := Ground.chain }, { on := 0, ground := Ground.phase }, { on := 1, ground := Ground.phase }, { on := 2, ground := Ground.phase }, { on := 3, ground := Ground.phase }, { on := 4, ground := Ground.phase }, { on := 5, ground := Ground.phase }, { on := 6, ground := Ground.phase }, { on := 7, ground := Ground.phase }, { on := 8, ground := Ground.phase }, { on := 9, ground := Ground.phase }, { on := 10, ground := Ground.phase }, { on := 11, ground := Ground.phase }, { on := 12, ground := Ground.phase }, { on := 13, ground := Ground.phase }, { on := 14, ground := Ground.phase }, { on := 15, ground := Ground.phase }, { on := 16, ground := Ground.phase }, { on := 17, ground := Ground.phase }, { on := 18, ground := Ground.phase }, { on := 19, ground := Ground.phase }, { on := 20, ground := Ground.phase }, { on := 21, ground := Ground.phase }, { on := 22, ground := Ground.phase }, { on := 23, ground := Ground.phase }, { on := 24, ground := Ground.phase }, { on := 25, ground := Ground.phase }, { on := 26, ground := Ground.phase }, { on := 27, ground := Ground.phase }, { on := 28, ground := Ground.phase }, { on := 29, ground := Ground.phase }, { on := 30, ground := Ground.phase }, { on := 31, ground := Ground.phase }, { on := 32, ground := Ground.phase }, { on := 33, ground := Ground.phase }, { on := 34, ground := Ground.phase }, { on := 35, ground := Ground.phase }], guard := none }) (v := ?_) rfl (by kernel_rfl) (by kernel_rfl) (by kernel_rfl) (fun _ _ _ h => h) (Or.inl ⟨by rfl, ?_⟩) hHeld ?_
  rotate_left
  · intro u hSw
    go_simp
    try with_reducible rfl
  try simp only [Act.put, List.setIfInBounds_toArray, List.set_cons_zero, List.set_cons_succ]
  refine wpAnyH_done (by kernel_rfl) ?_ _
  refine NoPanic.normal ?_
  go_wp2
  go_ret
  exact ⟨rfl, len_next HB1.out hTot⟩
set_option maxHeartbeats 8000000 in
theorem bilinear_D (a b d : Option Addr) (la ca lb cb ld cd : Nat) (xs ys zs : List F) (c : F) (w : World)
    (ka : la ≤ ca) (kb : lb ≤ cb) (kd : ld ≤ cd) (o1 : lb < la) (o2 : ld < lb) (e1 : la = xs.length) (e2 : lb = ys.length) (e3 : ld = zs.length)
    (ha : la ≤ 140737488351232) (hb : lb ≤ 140737488351232) (hd : ld ≤ 140737488351232)
    (hx : Row8 w a xs) (hy : Row8 w b ys) (hz : Row8 w d zs) :
    Calls Try.prog 7 #[.agg #[.slice a la ca, .slice b lb cb, .slice d ld cd, .int .u8 c.toNat]] w fun e w' => e = .returned (.bool true) ∧ Below w.heap.size w w' := by
  have HX : Hid _ := row_take ld hx
  have HY : Hid _ := row_take ld hy
  have HZ : Hid _ := row_take ld hz
  have HL1 : Hid (ld = (xs.take ld).length) := by show _ = _; rw [List.length_take]; omega
  have HL2 : Hid (ld = (ys.take ld).length) := by show _ = _; rw [List.length_take]; omega
  have HL3 : Hid (ld = (zs.take ld).length) := by show _ = _; rw [List.length_take]; omega
  have HM : Hid (ld ≤ 140737488355328) := by show _ ≤ _; omega
  generalize xs.take ld = X at HX HL1
  generalize ys.take ld = Y at HY HL2
  generalize zs.take ld = Z at HZ HL3
  have mX : X.length ≤ 140737488351232 := by have := HL1.out; omega
  have mY : Y.length ≤ 140737488351232 := by have := HL2.out; omega
  have mZ : Z.length ≤ 140737488351232 := by have := HL3.out; omega
  have mXY : (scaled c X Y).length ≤ 140737488355328 := by rw [scaled_len]; omega
  have mXY1 : (scaled 1 X Y).length ≤ 140737488355328 := by rw [scaled_len]; omega
  have HLYX : Hid (Y.length = X.length) := HL2.out.symm.trans HL1.out
  have HLZX : Hid (Z.length = X.length) := HL3.out.symm.trans HL1.out
  clear hx hy hz e1 e2 e3
  have q0 : ld ≤ cb := by omega
  have q1 : ld ≤ cd := by omega
  have q2 : ld ≤ ca := by omega
  have p0 : (0 : Int) ≤ (ld : Int) := by omega
  go_enter Try.func7, Try.ntmps7
  go_wp2_with fail
  refine Calls.mono (alive_ok _) ?_
  rintro r w1 ⟨rfl, hb1⟩
  have hbox := cells4 hb1
  have c0 := box_cell hbox 0 _ rfl
  have c1 := box_cell hbox 1 _ rfl
  have c2 := box_cell hbox 2 _ rfl
  have c3 := box_cell hbox 3 _ rfl
  have hB1 : Below w.heap.size w w1 := ((Below.refl _ _).alloc (Nat.le_refl _) _).trans (hb1.mono (by simp))
  have rA := row_keep (row8_below HX.out hB1)
  have rB := row_keep (row8_below HY.out hB1)
  have rD := row_keep (row8_below HZ.out hB1)
  have kA := conv_keep (ca := ld) HL1.out rA
  have HB1 : Hid _ := hB1
  clear hb1 hbox hB1 HX HY HZ
  have hR : Below w1.heap.size w1 w1 := Below.refl _ _
  go_wp2
  go_region_held3 (fun w' => Below w1.heap.size w1 w') (first | assumption | (refine Below.drew ?_; assumption)) (fail)
  clear c0 c1 c2 c3 q0 q1 q2 hR
  go_wp2_with (first | (go_at_call 24; refine' (addScaled_C _ _ _ _ _ _ _ _ _ _ _ ?hz ?hla ?hlb ?ha ?hb ?hx ?hy).mono ?_; (case hx => (first | exact rA _ ‹_› | exact rB _ ‹_› | exact rD _ ‹_› | exact row8_own ‹_› | exact row8_below (row8_own ‹_›) ‹_›)); (case hy => (first | exact rA _ ‹_› | exact rB _ ‹_› | exact rD _ ‹_› | exact row8_own ‹_› | exact row8_below (row8_own ‹_›) ‹_›)); (case hla => (first | rfl | exact HL1.out | exact HL2.out | exact HL3.out)); (case hlb => (first | rfl | exact HL1.out | exact HL2.out | exact HL3.out)); (case hz => rfl); (case ha => (first | exact HM.out | ((try simp only [scaled_len]); omega))); (case hb => (first | exact HM.out | ((try simp only [scaled_len]); omega))); rintro r w' ⟨g, rfl, h1, h4, h5, h6⟩; have hT : Below w1.heap.size w1 w' := Below.trans ‹Below w1.heap.size w1 _› (Below.mono h1 (below_size ‹Below w1.heap.size w1 _›)); skip) | (go_at_call 25; refine' (dot_B _ _ _ _ _ _ _ _ (_) _ ?hv ?hla ?hlb ?ha ?hb ?hx ?hy).mono ?_; (case hx => (first | exact rA _ ‹_› | exact rB _ ‹_› | exact rD _ ‹_› | exact row8_own ‹_› | exact row8_below (row8_own ‹_›) ‹_›)); (case hy => (first | exact rA _ ‹_› | exact rB _ ‹_› | exact rD _ ‹_› | exact row8_own ‹_› | exact row8_below (row8_own ‹_›) ‹_›)); (case hla => (first | rfl | exact HL1.out | exact HL2.out | exact HL3.out)); (case hlb => (first | rfl | exact HL1.out | exact HL2.out | exact HL3.out)); (case hv => (first | exact dot_scaled _ _ _ _ HLZX.out | rfl)); (case ha => (first | exact HM.out | ((try simp only [scaled_len]); omega))); (case hb => (first | exact HM.out | ((try simp only [scaled_len]); omega))); rintro r w' ⟨rfl, h1⟩; have hT : Below w1.heap.size w1 w' := Below.trans ‹Below w1.heap.size w1 _› (Below.mono h1 (below_size ‹Below w1.heap.size w1 _›)); skip) | (go_at_call 17; refine (mul_F _ _ _).mono ?_; rintro r w' ⟨rfl, rfl⟩) | (go_at_call 16; refine (add_F _ _ _).mono ?_; rintro r w' ⟨rfl, rfl⟩))
  have hT0 := hT
  refine wp_region_noPanic ?_
  refine wp_region_held_drew (S := fun w' => Below w1.heap.size w1 w') (by kernel_rfl) ?_ (fun hHeld => ?_)
  · exact Below.drew hT
  have hTot : Below w1.heap.size w1 w1 := Below.refl _ _
  refine wpAnyH_take (i := 0) (oi := { dst := some 54, op := Op.move (Operand.tmp 8), type := 5, pos := "law.go:92", after := #[], guard := none }) (v := ?_) rfl (by kernel_rfl) (by kernel_rfl) (by kernel_rfl) (fun _ _ _ h => h) (Or.inl ⟨by rfl, ?_⟩) hHeld ?_
  rotate_left
  · intro u hSw
    go_simp
    try with_reducible rfl
  try simp only [Act.put, List.setIfInBounds_toArray, List.set_cons_zero, List.set_cons_succ]
  refine wpAnyH_take (i := 1) (oi := { dst := some 55, op := Op.move (Operand.tmp 9), type := 5, pos := "law.go:92", after := #[], guard := none }) (v := ?_) rfl (by kernel_rfl) (by kernel_rfl) (by kernel_rfl) (fun _ _ _ h => h) (Or.inl ⟨by rfl, ?_⟩) hHeld ?_
  rotate_left
  · intro u hSw
    go_simp
    try with_reducible rfl
  try simp only [Act.put, List.setIfInBounds_toArray, List.set_cons_zero, List.set_cons_succ]
  refine wpAnyH_take (i := 2) (oi := { dst := some 56, op := Op.binOp BinOp.eql 5 (Operand.tmp 54) (Operand.tmp 55) 5, type := 4, pos := "law.go:92", after := #[{ on := 0, ground := Ground.data }, { on := 1, ground := Ground.data }], guard := none }) (v := ?_) rfl (by kernel_rfl) (by kernel_rfl) (by kernel_rfl) (fun _ _ _ h => h) (Or.inl ⟨by rfl, ?_⟩) hHeld ?_
  rotate_left
  · intro u hSw
    go_simp
    try with_reducible rfl
  try simp only [Act.put, List.setIfInBounds_toArray, List.set_cons_zero, List.set_cons_succ]
  refine wpAnyH_take (i := 3) (oi := { dst := some 57, op := Op.move (Operand.tmp 56), type := 4, pos := "law.go:92", after := #[{ on := 2, ground := Ground.data }], guard := none }) (v := ?_) rfl (by kernel_rfl) (by kernel_rfl) (by kernel_rfl) (fun _ _ _ h => h) (Or.inl ⟨by rfl, ?_⟩) hHeld ?_
  rotate_left
  · intro u hSw
    go_simp
    try with_reducible rfl
  try simp only [Act.put, List.setIfInBounds_toArray, List.set_cons_zero, List.set_cons_succ]
  refine wpAnyH_take (i := 4) (oi := { dst := some 58, op := Op.move (Operand.tmp 4), type := 31, pos := "law.go:92", after := #[{ on := 3, ground := Ground.guard }], guard := some (3, true) }) (v := ?_) rfl (by kernel_rfl) (by kernel_rfl) (by kernel_rfl) (fun _ _ _ h => h) (Or.inl ⟨by rfl, ?_⟩) hHeld ?_
  rotate_left
  · intro u hSw
    go_simp
    try with_reducible rfl
  try simp only [Act.put, List.setIfInBounds_toArray, List.set_cons_zero, List.set_cons_succ]
  refine wpAnyH_take (i := 5) (oi := { dst := some 59, op := Op.move (Operand.tmp 5), type := 31, pos := "law.go:92", after := #[{ on := 3, ground := Ground.guard }], guard := some (3, true) }) (v := ?_) rfl (by kernel_rfl) (by kernel_rfl) (by kernel_rfl) (fun _ _ _ h => h) (Or.inl ⟨by rfl, ?_⟩) hHeld ?_
  rotate_left
  · intro u hSw
    go_simp
    try with_reducible rfl
  try simp only [Act.put, List.setIfInBounds_toArray, List.set_cons_zero, List.set_cons_succ]
  refine wpAnyH_take (i := 7) (oi := { dst := some 61, op := Op.move (Operand.tmp 5), type := 31, pos := "law.go:92", after := #[{ on := 3, ground := Ground.guard }], guard := some (3, true) }) (v := ?_) rfl (by kernel_rfl) (by kernel_rfl) (by kernel_rfl) (fun _ _ _ h => h) (Or.inl ⟨by rfl, ?_⟩) hHeld ?_
  rotate_left
  · intro u hSw
    go_simp
    try with_reducible rfl
  try simp only [Act.put, List.setIfInBounds_toArray, List.set_cons_zero, List.set_cons_succ]
  refine wpAnyH_take (i := 8) (oi := { dst := some 62, op := Op.move (Operand.tmp 4), type := 31, pos := "law.go:92", after := #[{ on := 3, ground := Ground.guard }], guard := some (3, true) }) (v := ?_) rfl (by kernel_rfl) (by kernel_rfl) (by kernel_rfl) (fun _ _ _ h => h) (Or.inl ⟨by rfl, ?_⟩) hHeld ?_
  rotate_left
  · intro u hSw
    go_simp
    try with_reducible rfl
  try simp only [Act.put, List.setIfInBounds_toArray, List.set_cons_zero, List.set_cons_succ]
  refine wpAnyH_ready (rs := [6]) (by kernel_rfl) (by simp) ?_
  refine AllReadyH.cons (o := { dst := some 60, op := Op.call { callee := Callee.value (Operand.func 25), args := #[Operand.tmp 58, Operand.tmp 59], argTypes := #[31, 31] }, type := 5, pos := "law.go:92", after := #[{ on := 4, ground := Ground.data }, { on := 5, ground := Ground.data }, { on := 3, ground := Ground.chain }, { on := 3, ground := Ground.guard }], guard := some (3, true) }) rfl (fun K hK => ?_) AllReadyH.nil
  go_simp
  refine Calls.mono (dot_B _ _ _ _ _ _ X Y (dot X Y) _ rfl HL1.out HL2.out HM.out HM.out (rA _ hHeld) (rB _ hHeld)) ?_
  rintro r v2 ⟨rfl, h1⟩
  go_wp2_with fail
  refine hK.out _ _ ?_ (fun hHeld => ?_)
  · exact (hHeld.trans (Below.mono h1 (below_size hHeld)))
  clear hK K
  try simp only [Act.put, List.setIfInBounds_toArray, List.set_cons_zero, List.set_cons_succ]
  refine wpAnyH_here hHeld ?_
  replace rA := row_next rA hHeld
  replace rB := row_next rB hHeld
  replace kA := fact_next kA hHeld
  replace hTot := hTot.trans (Below.mono hHeld hTot.size)
  clear hHeld h1
  have hHeld : Below v2.heap.size v2 v2 := Below.refl _ _
  refine wpAnyH_ready (rs := [9]) (by kernel_rfl) (by simp) ?_
  refine AllReadyH.cons (o := { dst := some 63, op := Op.call { callee := Callee.value (Operand.func 25), args := #[Operand.tmp 61, Operand.tmp 62], argTypes := #[31, 31] }, type := 5, pos := "law.go:92", after := #[{ on := 7, ground := Ground.data }, { on := 8, ground := Ground.data }, { on := 6, ground := Ground.chain }, { on := 3, ground := Ground.guard }], guard := some (3, true) }) rfl (fun K hK => ?_) AllReadyH.nil
  go_simp
  refine Calls.mono (dot_B _ _ _ _ _ _ Y X (dot X Y) _ (dot_eq_sum _ _) HL2.out HL1.out HM.out HM.out (rB _ hHeld) (rA _ hHeld)) ?_
  rintro r v3 ⟨rfl, h1⟩
  go_wp2_with fail
  refine hK.out _ _ ?_ (fun hHeld => ?_)
  · exact (hHeld.trans (Below.mono h1 (below_size hHeld)))
  clear hK K
  try simp only [Act.put, List.setIfInBounds_toArray, List.set_cons_zero, List.set_cons_succ]
  refine wpAnyH_here hHeld ?_
  replace rA := row_next rA hHeld
  replace rB := row_next rB hHeld
  replace kA := fact_next kA hHeld
  replace hTot := hTot.trans (Below.mono hHeld hTot.size)
  clear hHeld h1
  have hHeld : Below v3.heap.size v3 v3 := Below.refl _ _
  refine wpAnyH_take (i := 10) (oi := { dst := some 64, op := Op.binOp BinOp.eql 5 (Operand.tmp 60) (Operand.tmp 63) 5, type := 4, pos := "law.go:92", after := #[{ on := 6, ground := Ground.data }, { on := 9, ground := Ground.data }, { on := 3, ground := Ground.guard }], guard := some (3, true) }) (v := ?_) rfl (by kernel_rfl) (by kernel_rfl) (by kernel_rfl) (fun _ _ _ h => h) (Or.inl ⟨by rfl, ?_⟩) hHeld ?_
  rotate_left
  · intro u hSw
    go_simp
    try with_reducible rfl
  try simp only [Act.put, List.setIfInBounds_toArray, List.set_cons_zero, List.set_cons_succ]
  refine wpAnyH_take (i := 11) (oi := { dst := some 65, op := Op.pick (Operand.tmp 57) (Operand.tmp 64) (Operand.const (Value.bool false)), type := 4, pos := "law.go:92", after := #[{ on := 3, ground := Ground.data }, { on := 10, ground := Ground.data }], guard := none }) (v := ?_) rfl (by kernel_rfl) (by kernel_rfl) (by kernel_rfl) (fun _ _ _ h => h) (Or.inl ⟨by rfl, ?_⟩) hHeld ?_
  rotate_left
  · intro u hSw
    go_simp
    try with_reducible rfl
  try simp only [Act.put, List.setIfInBounds_toArray, List.set_cons_zero, List.set_cons_succ]
  refine wpAnyH_take (i := 12) (oi := { dst := some 66, op := Op.move (Operand.tmp 65), type := 4, pos := "law.go:92", after := #[{ on := 11, ground := Ground.data }, { on := 9, ground := Ground.chain }], guard := none }) (v := ?_) rfl (by kernel_rfl) (by kernel_rfl) (by kernel_rfl) (fun _ _ _ h => h) (Or.inl ⟨by rfl, ?_⟩) hHeld ?_
  rotate_left
  · intro u hSw
    go_simp
    try with_reducible rfl
  try simp only [Act.put, List.setIfInBounds_toArray, List.set_cons_zero, List.set_cons_succ]
  refine wpAnyH_take (i := 13) (oi := { dst := some 67, op := Op.move (Operand.tmp 4), type := 31, pos := "law.go:92", after := #[{ on := 12, ground := Ground.guard }], guard := some (12, true) }) (v := ?_) rfl (by kernel_rfl) (by kernel_rfl) (by kernel_rfl) (fun _ _ _ h => h) (Or.inl ⟨by rfl, ?_⟩) hHeld ?_
  rotate_left
  · intro u hSw
    go_simp
    try with_reducible rfl
  try simp only [Act.put, List.setIfInBounds_toArray, List.set_cons_zero, List.set_cons_succ]
  refine wpAnyH_take (i := 14) (oi := { dst := some 68, op := Op.move (Operand.tmp 7), type := 5, pos := "law.go:92", after := #[{ on := 12, ground := Ground.guard }], guard := some (12, true) }) (v := ?_) rfl (by kernel_rfl) (by kernel_rfl) (by kernel_rfl) (fun _ _ _ h => h) (Or.inl ⟨by rfl, ?_⟩) hHeld ?_
  rotate_left
  · intro u hSw
    go_simp
    try with_reducible rfl
  try simp only [Act.put, List.setIfInBounds_toArray, List.set_cons_zero, List.set_cons_succ]
  refine wpAnyH_take (i := 15) (oi := { dst := some 69, op := Op.move (Operand.tmp 5), type := 31, pos := "law.go:92", after := #[{ on := 12, ground := Ground.guard }], guard := some (12, true) }) (v := ?_) rfl (by kernel_rfl) (by kernel_rfl) (by kernel_rfl) (fun _ _ _ h => h) (Or.inl ⟨by rfl, ?_⟩) hHeld ?_
  rotate_left
  · intro u hSw
    go_simp
    try with_reducible rfl
  try simp only [Act.put, List.setIfInBounds_toArray, List.set_cons_zero, List.set_cons_succ]
  refine wpAnyH_take (i := 17) (oi := { dst := some 71, op := Op.move (Operand.tmp 7), type := 5, pos := "law.go:92", after := #[{ on := 12, ground := Ground.guard }], guard := some (12, true) }) (v := ?_) rfl (by kernel_rfl) (by kernel_rfl) (by kernel_rfl) (fun _ _ _ h => h) (Or.inl ⟨by rfl, ?_⟩) hHeld ?_
  rotate_left
  · intro u hSw
    go_simp
    try with_reducible rfl
  try simp only [Act.put, List.setIfInBounds_toArray, List.set_cons_zero, List.set_cons_succ]
  refine wpAnyH_take (i := 18) (oi := { dst := some 72, op := Op.move (Operand.tmp 5), type := 31, pos := "law.go:92", after := #[{ on := 12, ground := Ground.guard }], guard := some (12, true) }) (v := ?_) rfl (by kernel_rfl) (by kernel_rfl) (by kernel_rfl) (fun _ _ _ h => h) (Or.inl ⟨by rfl, ?_⟩) hHeld ?_
  rotate_left
  · intro u hSw
    go_simp
    try with_reducible rfl
  try simp only [Act.put, List.setIfInBounds_toArray, List.set_cons_zero, List.set_cons_succ]
  refine wpAnyH_take (i := 21) (oi := { dst := some 75, op := Op.move (Operand.tmp 4), type := 31, pos := "law.go:92", after := #[{ on := 12, ground := Ground.guard }], guard := some (12, true) }) (v := ?_) rfl (by kernel_rfl) (by kernel_rfl) (by kernel_rfl) (fun _ _ _ h => h) (Or.inl ⟨by rfl, ?_⟩) hHeld ?_
  rotate_left
  · intro u hSw
    go_simp
    try with_reducible rfl
  try simp only [Act.put, List.setIfInBounds_toArray, List.set_cons_zero, List.set_cons_succ]
  refine wpAnyH_take (i := 22) (oi := { dst := some 76, op := Op.convert 31 9 (Operand.tmp 75), type := 9, pos := "law.go:92", after := #[{ on := 21, ground := Ground.data }, { on := 12, ground := Ground.guard }], guard := some (12, true) }) (v := ?_) rfl (by kernel_rfl) (by kernel_rfl) (by kernel_rfl) (fun _ _ _ h => h) (Or.inl ⟨by rfl, ?_⟩) hHeld ?_
  rotate_left
  · intro u hSw
    go_simp
    try with_reducible rfl
  try simp only [Act.put, List.setIfInBounds_toArray, List.set_cons_zero, List.set_cons_succ]
  refine wpAnyH_ready (rs := [16]) (by kernel_rfl) (by simp) ?_
  refine AllReadyH.cons (o := { dst := some 70, op := Op.call { callee := Callee.value (Operand.func 24), args := #[Operand.tmp 67, Operand.tmp 68, Operand.tmp 69], argTypes := #[31, 5, 31] }, type := 31, pos := "law.go:92", after := #[{ on := 13, ground := Ground.data }, { on := 14, ground := Ground.data }, { on := 15, ground := Ground.data }, { on := 12, ground := Ground.chain }, { on := 12, ground := Ground.guard }], guard := some (12, true) }) rfl (fun K hK => ?_) AllReadyH.nil
  go_simp
  refine Calls.mono (addScaled_C c _ _ _ _ _ _ X Y _ _ rfl HL1.out HL2.out HM.out HM.out (rA _ hHeld) (rB _ hHeld)) ?_
  rintro r v4 ⟨_, rfl, h1, h4, h5, h6⟩
  go_wp2_with fail
  refine hK.out _ _ ?_ (fun hHeld => ?_)
  · exact (hHeld.trans (Below.mono h1 (below_size hHeld)))
  clear hK K
  try simp only [Act.put, List.setIfInBounds_toArray, List.set_cons_zero, List.set_cons_succ]
  refine wpAnyH_here hHeld ?_
  replace rA := row_next rA hHeld
  replace rB := row_next rB hHeld
  replace kA := fact_next kA hHeld
  replace hTot := hTot.trans (Below.mono hHeld hTot.size)
  have g1 := row_keep (row8_own h4)
  have kg1 := h6
  clear hHeld h1
  clear h4 h5 h6
  have hHeld : Below v4.heap.size v4 v4 := Below.refl _ _
  refine wpAnyH_ready (rs := [19]) (by kernel_rfl) (by simp) ?_
  refine AllReadyH.cons (o := { dst := some 73, op := Op.call { callee := Callee.value (Operand.func 24), args := #[Operand.tmp 70, Operand.tmp 71, Operand.tmp 72], argTypes := #[31, 5, 31] }, type := 31, pos := "law.go:92", after := #[{ on := 16, ground := Ground.data }, { on := 17, ground := Ground.data }, { on := 18, ground := Ground.data }, { on := 16, ground := Ground.chain }, { on := 12, ground := Ground.guard }], guard := some (12, true) }) rfl (fun K hK => ?_) AllReadyH.nil
  go_simp
  refine Calls.mono (addScaled_C c _ _ _ _ _ _ (scaled c X Y) Y X _ (scaled_back _ _ _ HLYX.out) rfl HL2.out mXY HM.out (g1 _ hHeld) (rB _ hHeld)) ?_
  rintro r v5 ⟨_, rfl, h1, h4, h5, h6⟩
  go_wp2_with fail
  refine hK.out _ _ ?_ (fun hHeld => ?_)
  · exact (hHeld.trans (Below.mono h1 (below_size hHeld)))
  clear hK K
  try simp only [Act.put, List.setIfInBounds_toArray, List.set_cons_zero, List.set_cons_succ]
  refine wpAnyH_here hHeld ?_
  replace rA := row_next rA hHeld
  replace rB := row_next rB hHeld
  replace g1 := row_next g1 hHeld
  replace kA := fact_next kA hHeld
  replace kg1 := fact_next kg1 hHeld
  replace hTot := hTot.trans (Below.mono hHeld hTot.size)
  have g2 := row_keep (row8_own h4)
  have kg2 := h6
  clear hHeld h1
  clear h4 h5 h6
  have hHeld : Below v5.heap.size v5 v5 := Below.refl _ _
  refine wpAnyH_take (i := 20) (oi := { dst := some 74, op := Op.convert 31 9 (Operand.tmp 73), type := 9, pos := "law.go:92", after := #[{ on := 19, ground := Ground.data }, { on := 12, ground := Ground.guard }], guard := some (12, true) }) (v := ?_) rfl (by kernel_rfl) (by kernel_rfl) (by kernel_rfl) (fun _ _ _ h => h) (Or.inl ⟨by rfl, ?_⟩) hHeld ?_
  rotate_left
  · intro u hSw
    go_simp
    try with_reducible rfl
  try simp only [Act.put, List.setIfInBounds_toArray, List.set_cons_zero, List.set_cons_succ]
  refine wpAnyH_take (i := 23) (oi := { dst := some 77, op := Op.binOp BinOp.eql 9 (Operand.tmp 74) (Operand.tmp 76) 9, type := 4, pos := "law.go:92", after := #[{ on := 20, ground := Ground.data }, { on := 22, ground := Ground.data }, { on := 12, ground := Ground.guard }], guard := some (12, true) }) (v := ?_) rfl (by kernel_rfl) (by kernel_rfl) (by kernel_rfl) (fun _ _ _ h => h) (Or.inl ⟨by rfl, ?_⟩) hHeld ?_
  rotate_left
  · intro u hSw
    go_simp
    try with_reducible rfl
  try simp only [Act.put, List.setIfInBounds_toArray, List.set_cons_zero, List.set_cons_succ]
  refine wpAnyH_take (i := 24) (oi := { dst := some 78, op := Op.pick (Operand.tmp 66) (Operand.tmp 77) (Operand.const (Value.bool false)), type := 4, pos := "law.go:92", after := #[{ on := 12, ground := Ground.data }, { on := 23, ground := Ground.data }], guard := none }) (v := ?_) rfl (by kernel_rfl) (by kernel_rfl) (by kernel_rfl) (fun _ _ _ h => h) (Or.inl ⟨by rfl, ?_⟩) hHeld ?_
  rotate_left
  · intro u hSw
    go_simp
    try with_reducible rfl
  try simp only [Act.put, List.setIfInBounds_toArray, List.set_cons_zero, List.set_cons_succ]
  refine wpAnyH_take (i := 25) (oi := { dst := some 79, op := Op.move (Operand.tmp 78), type := 4, pos := "law.go:92", after := #[{ on := 24, ground := Ground.data }, { on := 19, ground := Ground.chain }], guard := none }) (v := ?_) rfl (by kernel_rfl) (by kernel_rfl) (by kernel_rfl) (fun _ _ _ h => h) (Or.inl ⟨by rfl, ?_⟩) hHeld ?_
  rotate_left
  · intro u hSw
    go_simp
    try with_reducible rfl
  try simp only [Act.put, List.setIfInBounds_toArray, List.set_cons_zero, List.set_cons_succ]
  refine wpAnyH_take (i := 26) (oi := { dst := some 80, op := Op.move (Operand.tmp 4), type := 31, pos := "law.go:92", after := #[{ on := 25, ground := Ground.guard }], guard := some (25, true) }) (v := ?_) rfl (by kernel_rfl) (by kernel_rfl) (by kernel_rfl) (fun _ _ _ h => h) (Or.inl ⟨by rfl, ?_⟩) hHeld ?_
  rotate_left
  · intro u hSw
    go_simp
    try with_reducible rfl
  try simp only [Act.put, List.setIfInBounds_toArray, List.set_cons_zero, List.set_cons_succ]
  refine wpAnyH_take (i := 27) (oi := { dst := some 81, op := Op.move (Operand.tmp 5), type := 31, pos := "law.go:92", after := #[{ on := 25, ground := Ground.guard }], guard := some (25, true) }) (v := ?_) rfl (by kernel_rfl) (by kernel_rfl) (by kernel_rfl) (fun _ _ _ h => h) (Or.inl ⟨by rfl, ?_⟩) hHeld ?_
  rotate_left
  · intro u hSw
    go_simp
    try with_reducible rfl
  try simp only [Act.put, List.setIfInBounds_toArray, List.set_cons_zero, List.set_cons_succ]
  refine wpAnyH_take (i := 29) (oi := { dst := some 83, op := Op.move (Operand.tmp 5), type := 31, pos := "law.go:92", after := #[{ on := 25, ground := Ground.guard }], guard := some (25, true) }) (v := ?_) rfl (by kernel_rfl) (by kernel_rfl) (by kernel_rfl) (fun _ _ _ h => h) (Or.inl ⟨by rfl, ?_⟩) hHeld ?_
  rotate_left
  · intro u hSw
    go_simp
    try with_reducible rfl
  try simp only [Act.put, List.setIfInBounds_toArray, List.set_cons_zero, List.set_cons_succ]
  refine wpAnyH_take (i := 32) (oi := { dst := some 86, op := Op.move (Operand.tmp 4), type := 31, pos := "law.go:92", after := #[{ on := 25, ground := Ground.guard }], guard := some (25, true) }) (v := ?_) rfl (by kernel_rfl) (by kernel_rfl) (by kernel_rfl) (fun _ _ _ h => h) (Or.inl ⟨by rfl, ?_⟩) hHeld ?_
  rotate_left
  · intro u hSw
    go_simp
    try with_reducible rfl
  try simp only [Act.put, List.setIfInBounds_toArray, List.set_cons_zero, List.set_cons_succ]
  refine wpAnyH_take (i := 33) (oi := { dst := some 87, op := Op.convert 31 9 (Operand.tmp 86), type := 9, pos := "law.go:92", after := #[{ on := 32, ground := Ground.data }, { on := 25, ground := Ground.guard }], guard := some (25, true) }) (v := ?_) rfl (by kernel_rfl) (by kernel_rfl) (by kernel_rfl) (fun _ _ _ h => h) (Or.inl ⟨by rfl, ?_⟩) hHeld ?_
  rotate_left
  · intro u hSw
    go_simp
    try with_reducible rfl
  try simp only [Act.put, List.setIfInBounds_toArray, List.set_cons_zero, List.set_cons_succ]
  refine wpAnyH_ready (rs := [28]) (by kernel_rfl) (by simp) ?_
  refine AllReadyH.cons (o := { dst := some 82, op := Op.call { callee := Callee.value (Operand.func 22), args := #[Operand.tmp 80, Operand.tmp 81], argTypes := #[31, 31] }, type := 31, pos := "law.go:92", after := #[{ on := 26, ground := Ground.data }, { on := 27, ground := Ground.data }, { on := 25, ground := Ground.chain }, { on := 25, ground := Ground.guard }], guard := some (25, true) }) rfl (fun K hK => ?_) AllReadyH.nil
  go_simp
  refine Calls.mono (sum_C _ _ _ _ _ _ X Y _ _ rfl HL1.out HL2.out HM.out HM.out (rA _ hHeld) (rB _ hHeld)) ?_
  rintro r v6 ⟨_, rfl, h1, h4, h5, h6⟩
  go_wp2_with fail
  refine hK.out _ _ ?_ (fun hHeld => ?_)
  · exact (hHeld.trans (Below.mono h1 (below_size hHeld)))
  clear hK K
  try simp only [Act.put, List.setIfInBounds_toArray, List.set_cons_zero, List.set_cons_succ]
  refine wpAnyH_here hHeld ?_
  replace rA := row_next rA hHeld
  replace rB := row_next rB hHeld
  replace g1 := row_next g1 hHeld
  replace g2 := row_next g2 hHeld
  replace kA := fact_next kA hHeld
  replace kg1 := fact_next kg1 hHeld
  replace kg2 := fact_next kg2 hHeld
  replace hTot := hTot.trans (Below.mono hHeld hTot.size)
  have g3 := row_keep (row8_own h4)
  have kg3 := h6
  clear hHeld h1
  clear h4 h5 h6
  have hHeld : Below v6.heap.size v6 v6 := Below.refl _ _
  refine wpAnyH_ready (rs := [30]) (by kernel_rfl) (by simp) ?_
  refine AllReadyH.cons (o := { dst := some 84, op := Op.call { callee := Callee.value (Operand.func 22), args := #[Operand.tmp 82, Operand.tmp 83], argTypes := #[31, 31] }, type := 31, pos := "law.go:92", after := #[{ on := 28, ground := Ground.data }, { on := 29, ground := Ground.data }, { on := 28, ground := Ground.chain }, { on := 25, ground := Ground.guard }], guard := some (25, true) }) rfl (fun K hK => ?_) AllReadyH.nil
  go_simp
  refine Calls.mono (sum_C _ _ _ _ _ _ (scaled 1 X Y) Y X _ (scaled_back _ _ _ HLYX.out) rfl HL2.out mXY1 HM.out (g3 _ hHeld) (rB _ hHeld)) ?_
  rintro r v7 ⟨_, rfl, h1, h4, h5, h6⟩
  go_wp2_with fail
  refine hK.out _ _ ?_ (fun hHeld => ?_)
  · exact (hHeld.trans (Below.mono h1 (below_size hHeld)))
  clear hK K
  try simp only [Act.put, List.setIfInBounds_toArray, List.set_cons_zero, List.set_cons_succ]
  refine wpAnyH_here hHeld ?_
  replace rA := row_next rA hHeld
  replace rB := row_next rB hHeld
  replace g1 := row_next g1 hHeld
  replace g2 := row_next g2 hHeld
  replace g3 := row_next g3 hHeld
  replace kA := fact_next kA hHeld
  replace kg1 := fact_next kg1 hHeld
  replace kg2 := fact_next kg2 hHeld
  replace kg3 := fact_next kg3 hHeld
  replace hTot := hTot.trans (Below.mono hHeld hTot.size)
  have g4 := row_keep (row8_own h4)
  have kg4 := h6
  clear hHeld h1
  clear h4 h5 h6
  have hHeld : Below v7.heap.size v7 v7 := Below.refl _ _
  refine wpAnyH_take (i := 31) (oi := { dst := some 85, op := Op.convert 31 9 (Operand.tmp 84), type := 9, pos := "law.go:92", after := #[{ on := 30, ground := Ground.data }, { on := 25, ground := Ground.guard }], guard := some (25, true) }) (v := ?_) rfl (by kernel_rfl) (by kernel_rfl) (by kernel_rfl) (fun _ _ _ h => h) (Or.inl ⟨by rfl, ?_⟩) hHeld ?_
  rotate_left
  · intro u hSw
    go_simp
    try with_reducible rfl
  try simp only [Act.put, List.setIfInBounds_toArray, List.set_cons_zero, List.set_cons_succ]
  refine wpAnyH_take (i := 34) (oi := { dst := some 88, op := Op.binOp BinOp.eql 9 (Operand.tmp 85) (Operand.tmp 87) 9, type := 4, pos := "law.go:92", after := #[{ on := 31, ground := Ground.data }, { on := 33, ground := Ground.data }, { on := 25, ground := Ground.guard }], guard := some (25, true) }) (v := ?_) rfl (by kernel_rfl) (by kernel_rfl) (by kernel_rfl) (fun _ _ _ h => h) (Or.inl ⟨by rfl, ?_⟩) hHeld ?_
  rotate_left
  · intro u hSw
    go_simp
    try with_reducible rfl
  try simp only [Act.put, List.setIfInBounds_toArray, List.set_cons_zero, List.set_cons_succ]
  refine wpAnyH_take (i := 35) (oi := { dst := some 89, op := Op.pick (Operand.tmp 79) (Operand.tmp 88) (Operand.const (Value.bool false)), type := 4, pos := "law.go:92", after := #[{ on := 25, ground := Ground.data }, { on := 34, ground := Ground.data }], guard := none }) (v := ?_) rfl (by kernel_rfl) (by kernel_rfl) (by kernel_rfl) (fun _ _ _ h => h) (Or.inl ⟨by rfl, ?_⟩) hHeld ?_
  rotate_left
  · intro u hSw
    go_simp
    try with_reducible rfl
  try simp only [Act.put, List.setIfInBounds_toArray, List.set_cons_zero, List.set_cons_succ]
  refine wpAnyH_take (i := 36) (oi := { dst := some 2, op := Op.assign (Operand.tmp 89), type := 4, pos := "law.go:92", after := #[{ on := 35, ground := Ground.data }, { on := 30, ground := Ground.chain }, { on := 0, ground := Ground.phase }, { on := 1, ground := Ground.phase }, { on := 2, ground := Ground.phase }, { on := 3, ground := Ground.phase }, { on := 4, ground := Ground.phase }, { on := 5, ground := Ground.phase }, { on := 6, ground := Ground.phase }, { on := 7, ground := Ground.phase }, { on := 8, ground := Ground.phase }, { on := 9, ground := Ground.phase }, { on := 10, ground := Ground.phase }, { on := 11, ground := Ground.phase }, { on := 12, ground := Ground.phase }, { on := 13, ground := Ground.phase }, { on := 14, ground := Ground.phase }, { on := 15, ground := Ground.phase }, { on := 16, ground := Ground.phase }, { on := 17, ground := Ground.phase }, { on := 18, ground := Ground.phase }, { on := 19, ground := Ground.phase }, { on := 20, ground := Ground.phase }, { on := 21, ground := Ground.phase }, { on := 22, ground := Ground.phase }, { on := 23, ground := Ground.phase }, { on := 24, ground := Ground.phase }, { on := 25, ground := Ground.phase }, { on := 26, ground := Ground.phase }, { on := 27, ground := Ground.phase }, { on := 28, ground := Ground.phase }, { on := 29, ground := Ground.phase }, { on := 30, ground := Ground.phase }, { on := 31, ground := Ground.phase }, { on := 32, ground := Ground.phase }, { on := 33, ground := Ground.phase }, { on := 34, ground := Ground.phase }, { on := 35, ground := Ground.phase }], guard := none }) (v := ?_) rfl (by kernel_rfl) (by kernel_rfl) (by kernel_rfl) (fun _ _ _ h => h) (Or.inl ⟨by rfl, ?_⟩) hHeld ?_
  rotate_left
  · intro u hSw
    go_simp
    try with_reducible rfl
  try simp only [Act.put, List.setIfInBounds_toArray, List.set_cons_zero, List.set_cons_succ]
  refine wpAnyH_done (by kernel_rfl) ?_ _
  refine NoPanic.normal ?_
  go_wp2
  go_ret
  exact ⟨rfl, len_next HB1.out hTot⟩
theorem bilinear_walk (a b d : Option Addr) (ca cb cd : Nat) (xs ys zs : List F) (c : F) (w : World)
    (ka : xs.length ≤ ca) (kb : ys.length ≤ cb) (kd : zs.length ≤ cd) (ha : xs.length ≤ 140737488351232) (hb : ys.length ≤ 140737488351232) (hd : zs.length ≤ 140737488351232)
    (hx : Row8 w a xs) (hy : Row8 w b ys) (hz : Row8 w d zs) :
    Calls Try.prog 7 #[.agg #[.slice a xs.length ca, .slice b ys.length cb, .slice d zs.length cd, .int .u8 c.toNat]] w fun e w' => e = .returned (.bool true) ∧ Below w.heap.size w w' := by
  rcases Nat.lt_or_ge ys.length xs.length with o | o
  · rcases Nat.lt_or_ge zs.length ys.length with p | p
    · exact bilinear_D a b d _ ca _ cb _ cd xs ys zs c w ka kb kd o p rfl rfl rfl ha hb hd hx hy hz
    · exact bilinear_B a b d _ ca _ cb _ cd xs ys zs c w ka kb kd o p rfl rfl rfl ha hb hd hx hy hz
  · rcases Nat.lt_or_ge zs.length xs.length with p | p
    · exact bilinear_C a b d _ ca _ cb _ cd xs ys zs c w ka kb kd o p rfl rfl rfl ha hb hd hx hy hz
    · exact bilinear_A a b d _ ca _ cb _ cd xs ys zs c w ka kb kd o p rfl rfl rfl ha hb hd hx hy hz
end Go.Proofs.Ytmepggihgbjfiaa
