/- The walk of the statement GfLists: it returns true of all lists and elements. -/
import Derived.Test.YtmepggihgbjfiaaGfStr
import Derived.Test.YtmepggihgbjfiaaGfAlive
import Derived.Test.YtmepggihgbjfiaaGfRefAdd
import Derived.Test.YtmepggihgbjfiaaNumApart
import Derived.Test.YtmepggihgbjfiaaGfBilinearW
namespace Go.Proofs.Ytmepggihgbjfiaa
open Go.RowKit Gf
set_option linter.unusedVariables false
theorem heap_keep {w : World} {g : Nat} {o : Obj} (h : w.heap[g]? = some o) : ∀ w', Below w.heap.size w w' → w'.heap[g]? = some o := fun w' hb => (hb.block g (Array.getElem?_eq_some_iff.1 h).1).trans h
theorem lt_of_heap {w : World} {g : Nat} {o : Obj} (h : w.heap[g]? = some o) : g < w.heap.size := (Array.getElem?_eq_some_iff.1 h).1
theorem bytes_B (a : Option Addr) (la ca : Nat) (xs : List F) (w : World) (hla : la = xs.length) (ha : la ≤ 140737488351232) (hx : Row8 w a xs) (hnil : a = none → ca = 0) :
    Calls Try.prog 21 #[.slice a la ca] w fun e w' => ∃ g, e = .returned (.slice (some ⟨g, 0, none⟩) la (la + 6)) ∧ Below w.heap.size w w' ∧ w'.heap[g]? = some (.cells (vfs (xs ++ marks)) 5 (0, 0)) ∧ w.heap.size ≤ g :=
  (bytes_F a la ca xs w hla ha hx hnil).mono fun e w' ⟨g, h1, h2, h3, h4⟩ => ⟨g, h1, h3, h4, h2⟩
theorem addScaled_D (x : F) (a b : Option Addr) (la ca lb cb : Nat) (xs ys : List F) (W : World) (hla : la = xs.length) (hlb : lb = ys.length) (ha : la ≤ 140737488351232) (hb : lb ≤ 140737488351232)
    (hx : Row8 W a xs) (hy : Row8 W b ys) :
    Calls Try.prog 24 #[.slice a la ca, .int .u8 x.toNat, .slice b lb cb] W fun e w' => ∃ g, e = .returned (.slice (some ⟨g, 0, none⟩) (scaled x xs ys).length (scaled x xs ys).length) ∧
      Below W.heap.size W w' ∧ w'.heap[g]? = some (.cells (vfs (scaled x xs ys)) 5 (0, 0)) ∧ W.heap.size ≤ g :=
  (addScaled_B x a b la ca lb cb xs ys _ W.heap.size W W (Below.refl _ _) (Nat.le_refl _) rfl hla hlb (by omega) (by omega) hx hy).mono fun e w' ⟨g, he, h0, h1, _, h3⟩ => ⟨g, he, h1, h3, h0⟩
theorem sum_D (a b : Option Addr) (la ca lb cb : Nat) (xs ys : List F) (W : World) (hla : la = xs.length) (hlb : lb = ys.length) (ha : la ≤ 140737488351232) (hb : lb ≤ 140737488351232)
    (hx : Row8 W a xs) (hy : Row8 W b ys) :
    Calls Try.prog 22 #[.slice a la ca, .slice b lb cb] W fun e w' => ∃ g, e = .returned (.slice (some ⟨g, 0, none⟩) (scaled 1 xs ys).length (scaled 1 xs ys).length) ∧
      Below W.heap.size W w' ∧ w'.heap[g]? = some (.cells (vfs (scaled 1 xs ys)) 5 (0, 0)) ∧ W.heap.size ≤ g :=
  (sum_B a b la ca lb cb xs ys _ W.heap.size W W (Below.refl _ _) (Nat.le_refl _) rfl hla hlb (by omega) (by omega) hx hy).mono fun e w' ⟨g, he, h0, h1, _, h3⟩ => ⟨g, he, h1, h3, h0⟩
theorem scale_D (x : F) (b : Option Addr) (lb cb : Nat) (ys : List F) (W : World) (hlb : lb = ys.length) (hb : lb ≤ 140737488351232)
    (hy : Row8 W b ys) :
    Calls Try.prog 23 #[.int .u8 x.toNat, .slice b lb cb] W fun e w' => ∃ g, e = .returned (.slice (some ⟨g, 0, none⟩) (scaled x [] ys).length (scaled x [] ys).length) ∧
      Below W.heap.size W w' ∧ w'.heap[g]? = some (.cells (vfs (scaled x [] ys)) 5 (0, 0)) ∧ W.heap.size ≤ g :=
  (scale_B x b lb cb ys _ W.heap.size W W (Below.refl _ _) (Nat.le_refl _) rfl hlb (by omega) hy).mono fun e w' ⟨g, he, h0, h1, _, h3⟩ => ⟨g, he, h1, h3, h0⟩
theorem rscaled_D (x : F) (a b : Option Addr) (la ca lb cb : Nat) (xs ys : List F) (W : World) (hla : la = xs.length) (hlb : lb = ys.length) (ha : la ≤ 140737488351232) (hb : lb ≤ 140737488351232)
    (hx : Row8 W a xs) (hy : Row8 W b ys) :
    Calls Try.prog 27 #[.slice a la ca, .int .u8 x.toNat, .slice b lb cb] W fun e w' => ∃ g cap, e = .returned (.slice (some ⟨g, 0, none⟩) (scaled x xs ys).length cap) ∧
      Below W.heap.size W w' ∧ ∀ w'', Below w'.heap.size w' w'' → (convert 31 9 (.slice (some ⟨g, 0, none⟩) (scaled x xs ys).length cap)).run Try.prog w'' = .ok (.string (str8 (scaled x xs ys))) w'' :=
  (rscaled_F x a b la ca lb cb xs ys W hla hlb ha hb hx hy).mono fun e w' ⟨g, cap, he, _, h1, h2⟩ => ⟨g, cap, he, h1, conv_keep rfl (row_keep (row8_has h2))⟩
set_option maxHeartbeats 8000000 in
theorem lists_walk (a b : Option Addr) (la ca lb cb : Nat) (xs ys : List F) (c : F) (w : World) (e1 : la = xs.length) (e2 : lb = ys.length)
    (ka : la ≤ ca) (kb : lb ≤ cb) (ha : la ≤ 140737488351232) (hb : lb ≤ 140737488351232) (hx : Row8 w a xs) (hy : Row8 w b ys) (na : a = none → ca = 0) (nb : b = none → cb = 0) :
    Calls Try.prog 4 #[.slice a la ca, .slice b lb cb, .int .u8 c.toNat] w fun e w' => e = .returned (.bool true) ∧ Below w.heap.size w w' := by
  have HX : Hid _ := hx
  have HY : Hid _ := hy
  have E1 : Hid _ := e1
  have E2 : Hid _ := e2
  have NA : Hid _ := na
  have NB : Hid _ := nb
  clear hx hy e1 e2 na nb
  go_enter Try.func4, Try.ntmps4
  go_wp2_with fail
  refine Calls.mono (alive_ok _) ?_
  rintro r w1 ⟨rfl, hT⟩
  have hB0 := hT
  have rA := row_next (row_keep HX.out) hT
  have rB := row_next (row_keep HY.out) hT
  have hR : Below w1.heap.size w1 w1 := Below.refl _ _
  go_wp2_with fail
  refine Calls.mono (bytes_B _ _ _ xs _ E1.out ha (rA _ hR) NA.out) ?_
  rintro r w2 ⟨gx, rfl, h1, h2, h3⟩
  replace rA := fact_next rA h1
  replace rB := fact_next rB h1
  replace hT := len_next hT h1
  have px := heap_keep h2
  have rx := row_keep (row8_front h2)
  have lx : w1.heap.size ≤ gx ∧ gx < w2.heap.size := ⟨h3, lt_of_heap h2⟩
  clear h2 h3
  clear h1 hR
  have hR : Below w2.heap.size w2 w2 := Below.refl _ _
  go_wp2_with fail
  refine Calls.mono (bytes_B _ _ _ ys _ E2.out hb (rB _ hR) NB.out) ?_
  rintro r w3 ⟨gy, rfl, h1, h2, h3⟩
  replace rA := fact_next rA h1
  replace rB := fact_next rB h1
  replace px := fact_next px h1
  replace rx := fact_next rx h1
  replace hT := len_next hT h1
  have py := heap_keep h2
  have ry := row_keep (row8_front h2)
  have ly : w2.heap.size ≤ gy ∧ gy < w3.heap.size := ⟨h3, lt_of_heap h2⟩
  clear h2 h3
  clear h1 hR
  have hR : Below w3.heap.size w3 w3 := Below.refl _ _
  go_wp2_with fail
  refine Calls.mono (sum_D _ _ _ _ _ _ xs ys _ E1.out E2.out ha hb (rx _ hR) (ry _ hR)) ?_
  rintro r w4 ⟨gs, rfl, h1, h2, h3⟩
  replace rA := fact_next rA h1
  replace rB := fact_next rB h1
  replace px := fact_next px h1
  replace rx := fact_next rx h1
  replace py := fact_next py h1
  replace ry := fact_next ry h1
  replace hT := len_next hT h1
  have ps := heap_keep h2
  have rs := row_keep (row8_own h2)
  have ls : w3.heap.size ≤ gs ∧ gs < w4.heap.size := ⟨h3, lt_of_heap h2⟩
  clear h2 h3
  clear h1 hR
  have hR : Below w4.heap.size w4 w4 := Below.refl _ _
  go_wp2_with fail
  refine Calls.mono (scale_D c _ _ _ ys _ E2.out hb (ry _ hR)) ?_
  rintro r w5 ⟨gt, rfl, h1, h2, h3⟩
  replace rA := fact_next rA h1
  replace rB := fact_next rB h1
  replace px := fact_next px h1
  replace rx := fact_next rx h1
  replace py := fact_next py h1
  replace ry := fact_next ry h1
  replace ps := fact_next ps h1
  replace rs := fact_next rs h1
  replace hT := len_next hT h1
  have pt := heap_keep h2
  have rt := row_keep (row8_own h2)
  have lt : w4.heap.size ≤ gt ∧ gt < w5.heap.size := ⟨h3, lt_of_heap h2⟩
  clear h2 h3
  clear h1 hR
  have hR : Below w5.heap.size w5 w5 := Below.refl _ _
  go_wp2_with fail
  refine Calls.mono (addScaled_D c _ _ _ _ _ _ xs ys _ E1.out E2.out ha hb (rx _ hR) (ry _ hR)) ?_
  rintro r w6 ⟨gu, rfl, h1, h2, h3⟩
  replace rA := fact_next rA h1
  replace rB := fact_next rB h1
  replace px := fact_next px h1
  replace rx := fact_next rx h1
  replace py := fact_next py h1
  replace ry := fact_next ry h1
  replace ps := fact_next ps h1
  replace rs := fact_next rs h1
  replace pt := fact_next pt h1
  replace rt := fact_next rt h1
  replace hT := len_next hT h1
  have pu := heap_keep h2
  have ru := row_keep (row8_own h2)
  have lu : w5.heap.size ≤ gu ∧ gu < w6.heap.size := ⟨h3, lt_of_heap h2⟩
  clear h2 h3
  clear h1 hR
  have hR : Below w6.heap.size w6 w6 := Below.refl _ _
  have ks := conv_keep (ca := (scaled 1 xs ys).length) rfl rs
  have kt := conv_keep (ca := (scaled c [] ys).length) rfl rt
  have ku := conv_keep (ca := (scaled c xs ys).length) rfl ru
  go_wp2
  refine wp_region_noPanic ?_
  refine wp_region_held_drew (S := fun u => Below w6.heap.size w6 u) (by kernel_rfl) ?_ (fun hHeld => ?_)
  · exact Below.drew hR
  refine wpAnyH_take (i := 0) (oi := { dst := some 28, op := Op.move (Operand.tmp 7), type := 31, pos := "law.go:39", after := #[], guard := none }) (v := ?_) rfl (by kernel_rfl) (by kernel_rfl) (by kernel_rfl) (fun _ _ _ h => h) (Or.inl ⟨by rfl, ?_⟩) hHeld ?_
  rotate_left
  · intro u hSw
    go_simp
    try with_reducible rfl
  try simp only [Act.put, List.setIfInBounds_toArray, List.set_cons_zero, List.set_cons_succ]
  refine wpAnyH_take (i := 1) (oi := { dst := some 29, op := Op.move (Operand.tmp 8), type := 31, pos := "law.go:39", after := #[], guard := none }) (v := ?_) rfl (by kernel_rfl) (by kernel_rfl) (by kernel_rfl) (fun _ _ _ h => h) (Or.inl ⟨by rfl, ?_⟩) hHeld ?_
  rotate_left
  · intro u hSw
    go_simp
    try with_reducible rfl
  try simp only [Act.put, List.setIfInBounds_toArray, List.set_cons_zero, List.set_cons_succ]
  refine wpAnyH_take (i := 3) (oi := { dst := some 31, op := Op.move (Operand.tmp 0), type := 31, pos := "law.go:39", after := #[], guard := none }) (v := ?_) rfl (by kernel_rfl) (by kernel_rfl) (by kernel_rfl) (fun _ _ _ h => h) (Or.inl ⟨by rfl, ?_⟩) hHeld ?_
  rotate_left
  · intro u hSw
    go_simp
    try with_reducible rfl
  try simp only [Act.put, List.setIfInBounds_toArray, List.set_cons_zero, List.set_cons_succ]
  refine wpAnyH_take (i := 4) (oi := { dst := some 32, op := Op.move (Operand.tmp 1), type := 31, pos := "law.go:39", after := #[], guard := none }) (v := ?_) rfl (by kernel_rfl) (by kernel_rfl) (by kernel_rfl) (fun _ _ _ h => h) (Or.inl ⟨by rfl, ?_⟩) hHeld ?_
  rotate_left
  · intro u hSw
    go_simp
    try with_reducible rfl
  try simp only [Act.put, List.setIfInBounds_toArray, List.set_cons_zero, List.set_cons_succ]
  refine wpAnyH_ready (rs := [2]) (by kernel_rfl) (by simp) ?_
  refine AllReadyH.cons (o := { dst := some 30, op := Op.call { callee := Callee.value (Operand.func 25), args := #[Operand.tmp 28, Operand.tmp 29], argTypes := #[31, 31] }, type := 5, pos := "law.go:39", after := #[{ on := 0, ground := Ground.data }, { on := 1, ground := Ground.data }], guard := none }) rfl (fun K hK => ?_) AllReadyH.nil
  go_simp
  refine Calls.mono (dot_B _ _ _ _ _ _ xs ys (dot xs ys) _ rfl E1.out E2.out (by omega) (by omega) (rx _ hHeld) (ry _ hHeld)) ?_
  rintro r w7 ⟨rfl, h1⟩
  go_wp2_with fail
  refine hK.out _ _ ?_ (fun hHeld => ?_)
  · exact (hHeld.trans (Below.mono h1 (below_size hHeld)))
  clear hK K
  try simp only [Act.put, List.setIfInBounds_toArray, List.set_cons_zero, List.set_cons_succ]
  refine wpAnyH_here hHeld ?_
  replace rA := fact_next rA hHeld
  replace rB := fact_next rB hHeld
  replace px := fact_next px hHeld
  replace rx := fact_next rx hHeld
  replace py := fact_next py hHeld
  replace ry := fact_next ry hHeld
  replace ps := fact_next ps hHeld
  replace rs := fact_next rs hHeld
  replace pt := fact_next pt hHeld
  replace rt := fact_next rt hHeld
  replace pu := fact_next pu hHeld
  replace ru := fact_next ru hHeld
  replace ks := fact_next ks hHeld
  replace kt := fact_next kt hHeld
  replace ku := fact_next ku hHeld
  replace hT := len_next hT hHeld
  clear hHeld h1
  have hHeld : Below w7.heap.size w7 w7 := Below.refl _ _
  refine wpAnyH_ready (rs := [5]) (by kernel_rfl) (by simp) ?_
  refine AllReadyH.cons (o := { dst := some 33, op := Op.call { callee := Callee.value (Operand.func 26), args := #[Operand.tmp 31, Operand.tmp 32], argTypes := #[31, 31] }, type := 5, pos := "law.go:39", after := #[{ on := 3, ground := Ground.data }, { on := 4, ground := Ground.data }, { on := 2, ground := Ground.chain }], guard := none }) rfl (fun K hK => ?_) AllReadyH.nil
  go_simp
  refine Calls.mono (rdot_B _ _ _ _ _ _ xs ys (dot xs ys) _ rfl E1.out E2.out (by omega) (by omega) (rA _ hHeld) (rB _ hHeld)) ?_
  rintro r w8 ⟨rfl, h1⟩
  go_wp2_with fail
  refine hK.out _ _ ?_ (fun hHeld => ?_)
  · exact (hHeld.trans (Below.mono h1 (below_size hHeld)))
  clear hK K
  try simp only [Act.put, List.setIfInBounds_toArray, List.set_cons_zero, List.set_cons_succ]
  refine wpAnyH_here hHeld ?_
  replace rA := fact_next rA hHeld
  replace rB := fact_next rB hHeld
  replace px := fact_next px hHeld
  replace rx := fact_next rx hHeld
  replace py := fact_next py hHeld
  replace ry := fact_next ry hHeld
  replace ps := fact_next ps hHeld
  replace rs := fact_next rs hHeld
  replace pt := fact_next pt hHeld
  replace rt := fact_next rt hHeld
  replace pu := fact_next pu hHeld
  replace ru := fact_next ru hHeld
  replace ks := fact_next ks hHeld
  replace kt := fact_next kt hHeld
  replace ku := fact_next ku hHeld
  replace hT := len_next hT hHeld
  clear hHeld h1
  have hHeld : Below w8.heap.size w8 w8 := Below.refl _ _
  refine wpAnyH_take (i := 6) (oi := { dst := some 34, op := Op.binOp BinOp.neq 5 (Operand.tmp 30) (Operand.tmp 33) 5, type := 4, pos := "law.go:39", after := #[{ on := 2, ground := Ground.data }, { on := 5, ground := Ground.data }], guard := none }) (v := ?_) rfl (by kernel_rfl) (by kernel_rfl) (by kernel_rfl) (fun _ _ _ h => h) (Or.inl ⟨by rfl, ?_⟩) hHeld ?_
  rotate_left
  · intro u hSw
    go_simp
    try with_reducible rfl
  try simp only [Act.put, List.setIfInBounds_toArray, List.set_cons_zero, List.set_cons_succ]
  refine wpAnyH_take (i := 7) (oi := { dst := some 35, op := Op.move (Operand.tmp 34), type := 4, pos := "law.go:39", after := #[{ on := 6, ground := Ground.data }, { on := 5, ground := Ground.chain }], guard := none }) (v := ?_) rfl (by kernel_rfl) (by kernel_rfl) (by kernel_rfl) (fun _ _ _ h => h) (Or.inl ⟨by rfl, ?_⟩) hHeld ?_
  rotate_left
  · intro u hSw
    go_simp
    try with_reducible rfl
  try simp only [Act.put, List.setIfInBounds_toArray, List.set_cons_zero, List.set_cons_succ]
  refine wpAnyH_take (i := 8) (oi := { dst := some 36, op := Op.move (Operand.tmp 9), type := 31, pos := "law.go:39", after := #[{ on := 7, ground := Ground.guard }], guard := some (7, false) }) (v := ?_) rfl (by kernel_rfl) (by kernel_rfl) (by kernel_rfl) (fun _ _ _ h => h) (Or.inl ⟨by rfl, ?_⟩) hHeld ?_
  rotate_left
  · intro u hSw
    go_simp
    try with_reducible rfl
  try simp only [Act.put, List.setIfInBounds_toArray, List.set_cons_zero, List.set_cons_succ]
  refine wpAnyH_take (i := 9) (oi := { dst := some 37, op := Op.convert 31 9 (Operand.tmp 36), type := 9, pos := "law.go:39", after := #[{ on := 8, ground := Ground.data }, { on := 7, ground := Ground.guard }], guard := some (7, false) }) (v := ?_) rfl (by kernel_rfl) (by kernel_rfl) (by kernel_rfl) (fun _ _ _ h => h) (Or.inl ⟨by rfl, ?_⟩) hHeld ?_
  rotate_left
  · intro u hSw
    go_simp
    try with_reducible rfl
  try simp only [Act.put, List.setIfInBounds_toArray, List.set_cons_zero, List.set_cons_succ]
  refine wpAnyH_take (i := 10) (oi := { dst := some 38, op := Op.move (Operand.tmp 0), type := 31, pos := "law.go:39", after := #[{ on := 7, ground := Ground.guard }], guard := some (7, false) }) (v := ?_) rfl (by kernel_rfl) (by kernel_rfl) (by kernel_rfl) (fun _ _ _ h => h) (Or.inl ⟨by rfl, ?_⟩) hHeld ?_
  rotate_left
  · intro u hSw
    go_simp
    try with_reducible rfl
  try simp only [Act.put, List.setIfInBounds_toArray, List.set_cons_zero, List.set_cons_succ]
  refine wpAnyH_take (i := 11) (oi := { dst := some 39, op := Op.move (Operand.tmp 1), type := 31, pos := "law.go:39", after := #[{ on := 7, ground := Ground.guard }], guard := some (7, false) }) (v := ?_) rfl (by kernel_rfl) (by kernel_rfl) (by kernel_rfl) (fun _ _ _ h => h) (Or.inl ⟨by rfl, ?_⟩) hHeld ?_
  rotate_left
  · intro u hSw
    go_simp
    try with_reducible rfl
  try simp only [Act.put, List.setIfInBounds_toArray, List.set_cons_zero, List.set_cons_succ]
  refine wpAnyH_ready (rs := [12]) (by kernel_rfl) (by simp) ?_
  refine AllReadyH.cons (o := { dst := some 40, op := Op.call { callee := Callee.value (Operand.func 27), args := #[Operand.tmp 38, Operand.const (Value.int IntKind.u8 1), Operand.tmp 39], argTypes := #[31, 5, 31] }, type := 31, pos := "law.go:39", after := #[{ on := 10, ground := Ground.data }, { on := 11, ground := Ground.data }, { on := 7, ground := Ground.chain }, { on := 7, ground := Ground.guard }], guard := some (7, false) }) rfl (fun K hK => ?_) AllReadyH.nil
  go_simp
  refine Calls.mono (rscaled_D 1 _ _ _ _ _ _ xs ys _ E1.out E2.out ha hb (rA _ hHeld) (rB _ hHeld)) ?_
  rintro r w9 ⟨_, _, rfl, h1, q3⟩
  go_wp2_with fail
  refine hK.out _ _ ?_ (fun hHeld => ?_)
  · exact (hHeld.trans (Below.mono h1 (below_size hHeld)))
  clear hK K
  try simp only [Act.put, List.setIfInBounds_toArray, List.set_cons_zero, List.set_cons_succ]
  refine wpAnyH_here hHeld ?_
  replace rA := fact_next rA hHeld
  replace rB := fact_next rB hHeld
  replace px := fact_next px hHeld
  replace rx := fact_next rx hHeld
  replace py := fact_next py hHeld
  replace ry := fact_next ry hHeld
  replace ps := fact_next ps hHeld
  replace rs := fact_next rs hHeld
  replace pt := fact_next pt hHeld
  replace rt := fact_next rt hHeld
  replace pu := fact_next pu hHeld
  replace ru := fact_next ru hHeld
  replace ks := fact_next ks hHeld
  replace kt := fact_next kt hHeld
  replace ku := fact_next ku hHeld
  replace hT := len_next hT hHeld
  clear hHeld h1
  have hHeld : Below w9.heap.size w9 w9 := Below.refl _ _
  refine wpAnyH_take (i := 13) (oi := { dst := some 41, op := Op.convert 31 9 (Operand.tmp 40), type := 9, pos := "law.go:39", after := #[{ on := 12, ground := Ground.data }, { on := 7, ground := Ground.guard }], guard := some (7, false) }) (v := ?_) rfl (by kernel_rfl) (by kernel_rfl) (by kernel_rfl) (fun _ _ _ h => h) (Or.inl ⟨by rfl, ?_⟩) hHeld ?_
  rotate_left
  · intro u hSw
    go_simp
    try with_reducible rfl
  try simp only [Act.put, List.setIfInBounds_toArray, List.set_cons_zero, List.set_cons_succ]
  refine wpAnyH_take (i := 14) (oi := { dst := some 42, op := Op.binOp BinOp.neq 9 (Operand.tmp 37) (Operand.tmp 41) 9, type := 4, pos := "law.go:39", after := #[{ on := 9, ground := Ground.data }, { on := 13, ground := Ground.data }, { on := 7, ground := Ground.guard }], guard := some (7, false) }) (v := ?_) rfl (by kernel_rfl) (by kernel_rfl) (by kernel_rfl) (fun _ _ _ h => h) (Or.inl ⟨by rfl, ?_⟩) hHeld ?_
  rotate_left
  · intro u hSw
    go_simp
    try with_reducible rfl
  try simp only [Act.put, List.setIfInBounds_toArray, List.set_cons_zero, List.set_cons_succ]
  refine wpAnyH_take (i := 15) (oi := { dst := some 43, op := Op.pick (Operand.tmp 35) (Operand.const (Value.bool true)) (Operand.tmp 42), type := 4, pos := "law.go:39", after := #[{ on := 7, ground := Ground.data }, { on := 14, ground := Ground.data }], guard := none }) (v := ?_) rfl (by kernel_rfl) (by kernel_rfl) (by kernel_rfl) (fun _ _ _ h => h) (Or.inl ⟨by rfl, ?_⟩) hHeld ?_
  rotate_left
  · intro u hSw
    go_simp
    try with_reducible rfl
  try simp only [Act.put, List.setIfInBounds_toArray, List.set_cons_zero, List.set_cons_succ]
  refine wpAnyH_take (i := 16) (oi := { dst := some 44, op := Op.move (Operand.tmp 43), type := 4, pos := "law.go:39", after := #[{ on := 15, ground := Ground.data }, { on := 12, ground := Ground.chain }], guard := none }) (v := ?_) rfl (by kernel_rfl) (by kernel_rfl) (by kernel_rfl) (fun _ _ _ h => h) (Or.inl ⟨by rfl, ?_⟩) hHeld ?_
  rotate_left
  · intro u hSw
    go_simp
    try with_reducible rfl
  try simp only [Act.put, List.setIfInBounds_toArray, List.set_cons_zero, List.set_cons_succ]
  refine wpAnyH_take (i := 17) (oi := { dst := some 45, op := Op.move (Operand.tmp 10), type := 31, pos := "law.go:39", after := #[{ on := 16, ground := Ground.guard }], guard := some (16, false) }) (v := ?_) rfl (by kernel_rfl) (by kernel_rfl) (by kernel_rfl) (fun _ _ _ h => h) (Or.inl ⟨by rfl, ?_⟩) hHeld ?_
  rotate_left
  · intro u hSw
    go_simp
    try with_reducible rfl
  try simp only [Act.put, List.setIfInBounds_toArray, List.set_cons_zero, List.set_cons_succ]
  refine wpAnyH_take (i := 18) (oi := { dst := some 46, op := Op.convert 31 9 (Operand.tmp 45), type := 9, pos := "law.go:39", after := #[{ on := 17, ground := Ground.data }, { on := 16, ground := Ground.guard }], guard := some (16, false) }) (v := ?_) rfl (by kernel_rfl) (by kernel_rfl) (by kernel_rfl) (fun _ _ _ h => h) (Or.inl ⟨by rfl, ?_⟩) hHeld ?_
  rotate_left
  · intro u hSw
    go_simp
    try with_reducible rfl
  try simp only [Act.put, List.setIfInBounds_toArray, List.set_cons_zero, List.set_cons_succ]
  refine wpAnyH_take (i := 19) (oi := { dst := some 47, op := Op.move (Operand.tmp 2), type := 5, pos := "law.go:39", after := #[{ on := 16, ground := Ground.guard }], guard := some (16, false) }) (v := ?_) rfl (by kernel_rfl) (by kernel_rfl) (by kernel_rfl) (fun _ _ _ h => h) (Or.inl ⟨by rfl, ?_⟩) hHeld ?_
  rotate_left
  · intro u hSw
    go_simp
    try with_reducible rfl
  try simp only [Act.put, List.setIfInBounds_toArray, List.set_cons_zero, List.set_cons_succ]
  refine wpAnyH_take (i := 20) (oi := { dst := some 48, op := Op.move (Operand.tmp 1), type := 31, pos := "law.go:39", after := #[{ on := 16, ground := Ground.guard }], guard := some (16, false) }) (v := ?_) rfl (by kernel_rfl) (by kernel_rfl) (by kernel_rfl) (fun _ _ _ h => h) (Or.inl ⟨by rfl, ?_⟩) hHeld ?_
  rotate_left
  · intro u hSw
    go_simp
    try with_reducible rfl
  try simp only [Act.put, List.setIfInBounds_toArray, List.set_cons_zero, List.set_cons_succ]
  refine wpAnyH_ready (rs := [21]) (by kernel_rfl) (by simp) ?_
  refine AllReadyH.cons (o := { dst := some 49, op := Op.call { callee := Callee.value (Operand.func 27), args := #[Operand.const (Value.slice none 0 0), Operand.tmp 47, Operand.tmp 48], argTypes := #[31, 5, 31] }, type := 31, pos := "law.go:39", after := #[{ on := 19, ground := Ground.data }, { on := 20, ground := Ground.data }, { on := 16, ground := Ground.chain }, { on := 16, ground := Ground.guard }], guard := some (16, false) }) rfl (fun K hK => ?_) AllReadyH.nil
  go_simp
  refine Calls.mono (rscaled_D c _ _ _ _ _ _ [] ys _ rfl E2.out (by omega) hb (.inl rfl) (rB _ hHeld)) ?_
  rintro r w10 ⟨_, _, rfl, h1, q4⟩
  go_wp2_with fail
  refine hK.out _ _ ?_ (fun hHeld => ?_)
  · exact (hHeld.trans (Below.mono h1 (below_size hHeld)))
  clear hK K
  try simp only [Act.put, List.setIfInBounds_toArray, List.set_cons_zero, List.set_cons_succ]
  refine wpAnyH_here hHeld ?_
  replace rA := fact_next rA hHeld
  replace rB := fact_next rB hHeld
  replace px := fact_next px hHeld
  replace rx := fact_next rx hHeld
  replace py := fact_next py hHeld
  replace ry := fact_next ry hHeld
  replace ps := fact_next ps hHeld
  replace rs := fact_next rs hHeld
  replace pt := fact_next pt hHeld
  replace rt := fact_next rt hHeld
  replace pu := fact_next pu hHeld
  replace ru := fact_next ru hHeld
  replace ks := fact_next ks hHeld
  replace kt := fact_next kt hHeld
  replace ku := fact_next ku hHeld
  replace hT := len_next hT hHeld
  clear hHeld h1
  have hHeld : Below w10.heap.size w10 w10 := Below.refl _ _
  refine wpAnyH_take (i := 22) (oi := { dst := some 50, op := Op.convert 31 9 (Operand.tmp 49), type := 9, pos := "law.go:39", after := #[{ on := 21, ground := Ground.data }, { on := 16, ground := Ground.guard }], guard := some (16, false) }) (v := ?_) rfl (by kernel_rfl) (by kernel_rfl) (by kernel_rfl) (fun _ _ _ h => h) (Or.inl ⟨by rfl, ?_⟩) hHeld ?_
  rotate_left
  · intro u hSw
    go_simp
    try with_reducible rfl
  try simp only [Act.put, List.setIfInBounds_toArray, List.set_cons_zero, List.set_cons_succ]
  refine wpAnyH_take (i := 23) (oi := { dst := some 51, op := Op.binOp BinOp.neq 9 (Operand.tmp 46) (Operand.tmp 50) 9, type := 4, pos := "law.go:39", after := #[{ on := 18, ground := Ground.data }, { on := 22, ground := Ground.data }, { on := 16, ground := Ground.guard }], guard := some (16, false) }) (v := ?_) rfl (by kernel_rfl) (by kernel_rfl) (by kernel_rfl) (fun _ _ _ h => h) (Or.inl ⟨by rfl, ?_⟩) hHeld ?_
  rotate_left
  · intro u hSw
    go_simp
    try with_reducible rfl
  try simp only [Act.put, List.setIfInBounds_toArray, List.set_cons_zero, List.set_cons_succ]
  refine wpAnyH_take (i := 24) (oi := { dst := some 52, op := Op.pick (Operand.tmp 44) (Operand.const (Value.bool true)) (Operand.tmp 51), type := 4, pos := "law.go:39", after := #[{ on := 16, ground := Ground.data }, { on := 23, ground := Ground.data }], guard := none }) (v := ?_) rfl (by kernel_rfl) (by kernel_rfl) (by kernel_rfl) (fun _ _ _ h => h) (Or.inl ⟨by rfl, ?_⟩) hHeld ?_
  rotate_left
  · intro u hSw
    go_simp
    try with_reducible rfl
  try simp only [Act.put, List.setIfInBounds_toArray, List.set_cons_zero, List.set_cons_succ]
  refine wpAnyH_take (i := 25) (oi := { dst := some 53, op := Op.move (Operand.tmp 52), type := 4, pos := "law.go:39", after := #[{ on := 24, ground := Ground.data }, { on := 21, ground := Ground.chain }], guard := none }) (v := ?_) rfl (by kernel_rfl) (by kernel_rfl) (by kernel_rfl) (fun _ _ _ h => h) (Or.inl ⟨by rfl, ?_⟩) hHeld ?_
  rotate_left
  · intro u hSw
    go_simp
    try with_reducible rfl
  try simp only [Act.put, List.setIfInBounds_toArray, List.set_cons_zero, List.set_cons_succ]
  refine wpAnyH_take (i := 26) (oi := { dst := some 54, op := Op.move (Operand.tmp 11), type := 31, pos := "law.go:39", after := #[{ on := 25, ground := Ground.guard }], guard := some (25, false) }) (v := ?_) rfl (by kernel_rfl) (by kernel_rfl) (by kernel_rfl) (fun _ _ _ h => h) (Or.inl ⟨by rfl, ?_⟩) hHeld ?_
  rotate_left
  · intro u hSw
    go_simp
    try with_reducible rfl
  try simp only [Act.put, List.setIfInBounds_toArray, List.set_cons_zero, List.set_cons_succ]
  refine wpAnyH_take (i := 27) (oi := { dst := some 55, op := Op.convert 31 9 (Operand.tmp 54), type := 9, pos := "law.go:39", after := #[{ on := 26, ground := Ground.data }, { on := 25, ground := Ground.guard }], guard := some (25, false) }) (v := ?_) rfl (by kernel_rfl) (by kernel_rfl) (by kernel_rfl) (fun _ _ _ h => h) (Or.inl ⟨by rfl, ?_⟩) hHeld ?_
  rotate_left
  · intro u hSw
    go_simp
    try with_reducible rfl
  try simp only [Act.put, List.setIfInBounds_toArray, List.set_cons_zero, List.set_cons_succ]
  refine wpAnyH_take (i := 28) (oi := { dst := some 56, op := Op.move (Operand.tmp 0), type := 31, pos := "law.go:39", after := #[{ on := 25, ground := Ground.guard }], guard := some (25, false) }) (v := ?_) rfl (by kernel_rfl) (by kernel_rfl) (by kernel_rfl) (fun _ _ _ h => h) (Or.inl ⟨by rfl, ?_⟩) hHeld ?_
  rotate_left
  · intro u hSw
    go_simp
    try with_reducible rfl
  try simp only [Act.put, List.setIfInBounds_toArray, List.set_cons_zero, List.set_cons_succ]
  refine wpAnyH_take (i := 29) (oi := { dst := some 57, op := Op.move (Operand.tmp 2), type := 5, pos := "law.go:39", after := #[{ on := 25, ground := Ground.guard }], guard := some (25, false) }) (v := ?_) rfl (by kernel_rfl) (by kernel_rfl) (by kernel_rfl) (fun _ _ _ h => h) (Or.inl ⟨by rfl, ?_⟩) hHeld ?_
  rotate_left
  · intro u hSw
    go_simp
    try with_reducible rfl
  try simp only [Act.put, List.setIfInBounds_toArray, List.set_cons_zero, List.set_cons_succ]
  refine wpAnyH_take (i := 30) (oi := { dst := some 58, op := Op.move (Operand.tmp 1), type := 31, pos := "law.go:39", after := #[{ on := 25, ground := Ground.guard }], guard := some (25, false) }) (v := ?_) rfl (by kernel_rfl) (by kernel_rfl) (by kernel_rfl) (fun _ _ _ h => h) (Or.inl ⟨by rfl, ?_⟩) hHeld ?_
  rotate_left
  · intro u hSw
    go_simp
    try with_reducible rfl
  try simp only [Act.put, List.setIfInBounds_toArray, List.set_cons_zero, List.set_cons_succ]
  refine wpAnyH_ready (rs := [31]) (by kernel_rfl) (by simp) ?_
  refine AllReadyH.cons (o := { dst := some 59, op := Op.call { callee := Callee.value (Operand.func 27), args := #[Operand.tmp 56, Operand.tmp 57, Operand.tmp 58], argTypes := #[31, 5, 31] }, type := 31, pos := "law.go:39", after := #[{ on := 28, ground := Ground.data }, { on := 29, ground := Ground.data }, { on := 30, ground := Ground.data }, { on := 25, ground := Ground.chain }, { on := 25, ground := Ground.guard }], guard := some (25, false) }) rfl (fun K hK => ?_) AllReadyH.nil
  go_simp
  refine Calls.mono (rscaled_D c _ _ _ _ _ _ xs ys _ E1.out E2.out ha hb (rA _ hHeld) (rB _ hHeld)) ?_
  rintro r w11 ⟨_, _, rfl, h1, q5⟩
  go_wp2_with fail
  refine hK.out _ _ ?_ (fun hHeld => ?_)
  · exact (hHeld.trans (Below.mono h1 (below_size hHeld)))
  clear hK K
  try simp only [Act.put, List.setIfInBounds_toArray, List.set_cons_zero, List.set_cons_succ]
  refine wpAnyH_here hHeld ?_
  replace rA := fact_next rA hHeld
  replace rB := fact_next rB hHeld
  replace px := fact_next px hHeld
  replace rx := fact_next rx hHeld
  replace py := fact_next py hHeld
  replace ry := fact_next ry hHeld
  replace ps := fact_next ps hHeld
  replace rs := fact_next rs hHeld
  replace pt := fact_next pt hHeld
  replace rt := fact_next rt hHeld
  replace pu := fact_next pu hHeld
  replace ru := fact_next ru hHeld
  replace ks := fact_next ks hHeld
  replace kt := fact_next kt hHeld
  replace ku := fact_next ku hHeld
  replace hT := len_next hT hHeld
  clear hHeld h1
  have hHeld : Below w11.heap.size w11 w11 := Below.refl _ _
  refine wpAnyH_take (i := 32) (oi := { dst := some 60, op := Op.convert 31 9 (Operand.tmp 59), type := 9, pos := "law.go:39", after := #[{ on := 31, ground := Ground.data }, { on := 25, ground := Ground.guard }], guard := some (25, false) }) (v := ?_) rfl (by kernel_rfl) (by kernel_rfl) (by kernel_rfl) (fun _ _ _ h => h) (Or.inl ⟨by rfl, ?_⟩) hHeld ?_
  rotate_left
  · intro u hSw
    go_simp
    try with_reducible rfl
  try simp only [Act.put, List.setIfInBounds_toArray, List.set_cons_zero, List.set_cons_succ]
  refine wpAnyH_take (i := 33) (oi := { dst := some 61, op := Op.binOp BinOp.neq 9 (Operand.tmp 55) (Operand.tmp 60) 9, type := 4, pos := "law.go:39", after := #[{ on := 27, ground := Ground.data }, { on := 32, ground := Ground.data }, { on := 25, ground := Ground.guard }], guard := some (25, false) }) (v := ?_) rfl (by kernel_rfl) (by kernel_rfl) (by kernel_rfl) (fun _ _ _ h => h) (Or.inl ⟨by rfl, ?_⟩) hHeld ?_
  rotate_left
  · intro u hSw
    go_simp
    try with_reducible rfl
  try simp only [Act.put, List.setIfInBounds_toArray, List.set_cons_zero, List.set_cons_succ]
  refine wpAnyH_take (i := 34) (oi := { dst := some 62, op := Op.pick (Operand.tmp 53) (Operand.const (Value.bool true)) (Operand.tmp 61), type := 4, pos := "law.go:39", after := #[{ on := 25, ground := Ground.data }, { on := 33, ground := Ground.data }], guard := none }) (v := ?_) rfl (by kernel_rfl) (by kernel_rfl) (by kernel_rfl) (fun _ _ _ h => h) (Or.inl ⟨by rfl, ?_⟩) hHeld ?_
  rotate_left
  · intro u hSw
    go_simp
    try with_reducible rfl
  try simp only [Act.put, List.setIfInBounds_toArray, List.set_cons_zero, List.set_cons_succ]
  refine wpAnyH_done (by kernel_rfl) ?_ _
  refine NoPanic.normal ?_
  have qs := ps _ hHeld
  have qt := pt _ hHeld
  have qu := pu _ hHeld
  have qx := px _ hHeld
  have qy := py _ hHeld
  have ms : (scaled 1 xs ys).length ≤ 140737488351232 := by rw [scaled_len]; have := E1.out; have := E2.out; omega
  have mt : (scaled c [] ys).length ≤ 140737488351232 := by rw [scaled_len]; have := E2.out; simp only [List.length_nil]; omega
  have mu : (scaled c xs ys).length ≤ 140737488351232 := by rw [scaled_len]; have := E1.out; have := E2.out; omega
  have b0 : w.heap.size ≤ gx := by have := hB0.size; omega
  clear rA rB px rx py ry ps rs pt rt pu ru ks kt ku
  go_wp2_with fail
  refine Calls.mono (apart_F gs gt _ _ _ (scaled 1 xs ys) (scaled c [] ys) _ rfl rfl mt (by omega) (has8_full qs (by simp only [maxLen]; omega)) qt) ?_
  rintro r v1 ⟨rfl, n1, f1⟩
  replace hT := grownBy_below hT n1 (by omega) hT.size
  replace qs := (n1.block gs (lt_of_heap qs) (by simp; omega)).trans qs
  replace qu := (n1.block gu (lt_of_heap qu) (by simp; omega)).trans qu
  replace qx := (n1.block gx (lt_of_heap qx) (by simp; omega)).trans qx
  replace qy := (n1.block gy (lt_of_heap qy) (by simp; omega)).trans qy
  go_wp2_with fail
  refine Calls.mono (apart_F gt gu _ _ _ ((scaled c [] ys).map fl) (scaled c xs ys) _ (by simp) rfl mu (by omega) (List.length_map (f := fl) ▸ has8_full f1 (by simp only [List.length_map, maxLen]; omega)) qu) ?_
  rintro r v2 ⟨rfl, n2, f2⟩
  replace hT := grownBy_below hT n2 (by omega) hT.size
  replace qs := (n2.block gs (lt_of_heap qs) (by simp; omega)).trans qs
  replace qx := (n2.block gx (lt_of_heap qx) (by simp; omega)).trans qx
  replace qy := (n2.block gy (lt_of_heap qy) (by simp; omega)).trans qy
  go_wp2_with fail
  refine Calls.mono (apart_F gu gs _ _ _ ((scaled c xs ys).map fl) (scaled 1 xs ys) _ (by simp) rfl ms (by omega) (List.length_map (f := fl) ▸ has8_full f2 (by simp only [List.length_map, maxLen]; omega)) qs) ?_
  rintro r v3 ⟨rfl, n3, f3⟩
  replace hT := grownBy_below hT n3 (by omega) hT.size
  replace qx := (n3.block gx (lt_of_heap qx) (by simp; omega)).trans qx
  replace qy := (n3.block gy (lt_of_heap qy) (by simp; omega)).trans qy
  go_wp2_with fail
  refine Calls.mono (kept_F gx _ _ _ xs _ E1.out ha ka qx (row8_below HX.out hT)) ?_
  rintro r v4 ⟨rfl, h1⟩
  replace hT := len_next hT h1
  replace qy := (h1.block gy (lt_of_heap qy)).trans qy
  go_wp2_with fail
  refine Calls.mono (kept_F gy _ _ _ ys _ E2.out hb kb qy (row8_below HY.out hT)) ?_
  rintro r v5 ⟨rfl, h1⟩
  replace hT := len_next hT h1
  go_wp2_with fail
  go_ret
  exact ⟨rfl, hT⟩
end Go.Proofs.Ytmepggihgbjfiaa
