/- The walk of the statement MatLaws: it returns true of all sizes and lists. -/
import Derived.Test.YtagahiahhgafpaaDoorMatSq
import Derived.Test.YtagahiahhgafpaaDoorMatAl
import Derived.Test.YtagahiahhgafpaaDoorMatP
import Derived.Test.YtagahiahhgafpaaDoorMatT
import Derived.Test.YtagahiahhgafpaaDoorMeet
import Derived.Test.YtagahiahhgafpaaDoorNumKept
import Derived.Deep.DeepCutAuto
namespace Go.Proofs.YtagahiahhgafpaaDoor
open Go.RowKit Gf
set_option linter.unusedVariables false
/-- a square's answer -/
def sqφ (n : Nat) (xs : List F) (v : Value) (w : World) : Prop := ∃ g m, v = .agg #[.int .i64 n, .int .i64 n, .slice (some ⟨g, 0, none⟩) m m] ∧ m = n * n ∧ w.heap[g]? = some (.cells (vfs (padTo (n * n) xs)) 5 (0, 0))
theorem store3 {w : World} {N : Nat} {c0 c1 c2 v0 v1 v2 : Value} {t : TypeId} (h : w.heap[N]? = some (.cells #[c0, c1, c2] t (0, 0))) :
    (((w.setCell ⟨N, 0, none⟩ v0).setCell ⟨N, 1, none⟩ v1).setCell ⟨N, 2, none⟩ v2).heap[N]? = some (.cells #[v0, v1, v2] t (0, 0)) := by
  rw [heap_setCell_same _ _ _ _ _ _ (heap_setCell_same _ _ _ _ _ _ (heap_setCell_same _ _ _ _ _ _ h))]; rfl
theorem store3_other {w : World} {N k : Nat} {v0 v1 v2 : Value} {o : Obj} (h : w.heap[k]? = some o) (hne : k ≠ N) :
    (((w.setCell ⟨N, 0, none⟩ v0).setCell ⟨N, 1, none⟩ v1).setCell ⟨N, 2, none⟩ v2).heap[k]? = some o := by
  rw [heap_setCell_other _ _ _ _ (by show k ≠ N; exact hne), heap_setCell_other _ _ _ _ (by show k ≠ N; exact hne), heap_setCell_other _ _ _ _ (by show k ≠ N; exact hne)]; exact h
theorem ne_of_kind {w : World} {a b : Nat} {cs ds : Array Value} {t u : TypeId} {f1 f2 : Nat × Nat} (h1 : w.heap[a]? = some (.cells cs t f1)) (h2 : w.heap[b]? = some (.cells ds u f2)) (h : t ≠ u) : a ≠ b := fun e => by
  subst e; rw [h1] at h2; cases h2; exact h rfl
theorem field_cells (x y : Int) (a : Option Addr) (l c : Nat) (w : World) : (Instr.field 24 (.agg #[.int .i64 x, .int .i64 y, .slice a l c]) 2).run Tryd.prog w = .ok (.slice a l c) w := by
  have hs : (Tryd.prog.info? 22).map (·.size) = some 1 := by kernel_rfl
  cases hq : Tryd.prog.info? 22 with
  | none => simp [hq] at hs
  | some i =>
    have hi : i.size = 1 := by simpa [hq] using hs
    simp [Instr.field, run_underlying Tryd.underlying24, asAgg, part, sizeOf, typeInfo, hq, hi, go_sem]
theorem laid3 {B : Nat} {w' : World} {N : Nat} {cs : Array Value} {t : TypeId} (h : B ≤ N ∧ ∃ v : World, B ≤ v.heap.size ∧ v.heap.size = N ∧ Below (v.alloc (.cells cs t)).heap.size (v.alloc (.cells cs t)) w') : w'.heap[N]? = some (.cells cs t (0, 0)) := by
  obtain ⟨_, v, _, rfl, hb⟩ := h
  exact heap_later (heap_alloc_last _ _) hb
set_option maxRecDepth 100000 in
set_option maxHeartbeats 8000000 in
theorem matlaws_walk (n lx cx ly cy lz cz : Nat) (t : Int) (ax ay az : Option Addr) (xs ys zs : List F) (w : World) (e1 : wrap64 (t.tmod 9 + 9) = t.tmod 9 + 9) (e2 : wrap64 ((t.tmod 9 + 9).tmod 9 + 1) = n) (hn : n ≤ 9) (hn0 : 1 ≤ n) (hX : Row8 w ax xs) (hY : Row8 w ay ys) (hZ : Row8 w az zs) (ex : lx = xs.length) (ey : ly = ys.length) (ez : lz = zs.length) :
    Calls Tryd.prog 7 #[.agg #[.int .i64 t, .slice ax lx cx, .slice ay ly cy, .slice az lz cz]] w fun e w' => e = .returned (.bool true) ∧ Below w.heap.size w w' := by
  have HX : Hid _ := hX
  have HY : Hid _ := hY
  have HZ : Hid _ := hZ
  have EX : Hid _ := ex
  have EY : Hid _ := ey
  have EZ : Hid _ := ez
  clear hX hY hZ ex ey ez
  go_enter Tryd.func7, Tryd.ntmps7
  go_wp2_with fail
  refine Calls.mono (alive_ok _) ?_
  rintro e w1 ⟨rfl, hb1⟩
  have k1 := heap_later (heap_alloc_last w (.cells #[.int .i64 t, .slice ax lx cx, .slice ay ly cy, .slice az lz cz] 65)) hb1
  have hW1 : Below w.heap.size w w1 := ((Below.refl _ _).alloc (Nat.le_refl _) _).trans (hb1.mono (by simp))
  have HW1 : Hid _ := hW1
  have HK1 : Hid _ := k1
  have c0 := box_cell k1 0 _ rfl
  have c1 := box_cell k1 1 _ rfl
  have c2 := box_cell k1 2 _ rfl
  have c3 := box_cell k1 3 _ rfl
  have hR : Below w1.heap.size w1 w1 := Below.refl _ _
  have hR2 : Below w1.heap.size w1 w1.drew := (Below.refl _ _).drew
  clear hb1 k1 hW1
  go_upto_region 4 with fail
  simp only [e2]
  clear e1 e2
  refine wp_region_noPanic ?_
  refine wp_region_held_drew (S := fun u => Below w1.heap.size w1 u) (by kernel_rfl) ?_ (fun hHeld => ?_)
  · exact hR2
  refine wpAnyH_take (i := 0) (oi := { dst := some 40, op := Op.move (Operand.tmp 3), type := 3, pos := "law.go:200", after := #[], guard := none }) (v := ?_) rfl (by kernel_rfl) (by kernel_rfl) (by kernel_rfl) (fun _ _ _ h => h) (Or.inl ⟨by rfl, ?_⟩) hHeld ?_
  rotate_left
  · intro u hSw
    go_simp
    try with_reducible rfl
  try simp only [Act.put, List.setIfInBounds_toArray, List.set_cons_zero, List.set_cons_succ]
  refine wpAnyH_take (i := 1) (oi := { dst := some 41, op := Op.fieldAddr 65 (Operand.tmp 1) 1, type := 0, pos := "law.go:200", after := #[], guard := none }) (v := ?_) rfl (by kernel_rfl) (by kernel_rfl) (by kernel_rfl) (fun _ _ _ h => h) (Or.inl ⟨by rfl, ?_⟩) hHeld ?_
  rotate_left
  · intro u hSw
    go_simp
    try with_reducible rfl
  try simp only [Act.put, List.setIfInBounds_toArray, List.set_cons_zero, List.set_cons_succ]
  refine wpAnyH_take (i := 2) (oi := { dst := some 42, op := Op.load 22 (Operand.tmp 41), type := 22, pos := "law.go:200", after := #[{ on := 1, ground := Ground.data }], guard := none }) (v := ?_) rfl (by kernel_rfl) (by kernel_rfl) (by kernel_rfl) (fun _ _ _ h => h) (Or.inl ⟨by rfl, ?_⟩) hHeld ?_
  rotate_left
  · intro u hSw
    go_simp
    try with_reducible rfl
  try simp only [Act.put, List.setIfInBounds_toArray, List.set_cons_zero, List.set_cons_succ]
  refine wpAnyH_take (i := 4) (oi := { dst := some 44, op := Op.move (Operand.tmp 3), type := 3, pos := "law.go:200", after := #[], guard := none }) (v := ?_) rfl (by kernel_rfl) (by kernel_rfl) (by kernel_rfl) (fun _ _ _ h => h) (Or.inl ⟨by rfl, ?_⟩) hHeld ?_
  rotate_left
  · intro u hSw
    go_simp
    try with_reducible rfl
  try simp only [Act.put, List.setIfInBounds_toArray, List.set_cons_zero, List.set_cons_succ]
  refine wpAnyH_take (i := 5) (oi := { dst := some 45, op := Op.fieldAddr 65 (Operand.tmp 1) 2, type := 0, pos := "law.go:200", after := #[], guard := none }) (v := ?_) rfl (by kernel_rfl) (by kernel_rfl) (by kernel_rfl) (fun _ _ _ h => h) (Or.inl ⟨by rfl, ?_⟩) hHeld ?_
  rotate_left
  · intro u hSw
    go_simp
    try with_reducible rfl
  try simp only [Act.put, List.setIfInBounds_toArray, List.set_cons_zero, List.set_cons_succ]
  refine wpAnyH_take (i := 6) (oi := { dst := some 46, op := Op.load 22 (Operand.tmp 45), type := 22, pos := "law.go:200", after := #[{ on := 5, ground := Ground.data }], guard := none }) (v := ?_) rfl (by kernel_rfl) (by kernel_rfl) (by kernel_rfl) (fun _ _ _ h => h) (Or.inl ⟨by rfl, ?_⟩) hHeld ?_
  rotate_left
  · intro u hSw
    go_simp
    try with_reducible rfl
  try simp only [Act.put, List.setIfInBounds_toArray, List.set_cons_zero, List.set_cons_succ]
  refine wpAnyH_take (i := 8) (oi := { dst := some 48, op := Op.move (Operand.tmp 3), type := 3, pos := "law.go:200", after := #[], guard := none }) (v := ?_) rfl (by kernel_rfl) (by kernel_rfl) (by kernel_rfl) (fun _ _ _ h => h) (Or.inl ⟨by rfl, ?_⟩) hHeld ?_
  rotate_left
  · intro u hSw
    go_simp
    try with_reducible rfl
  try simp only [Act.put, List.setIfInBounds_toArray, List.set_cons_zero, List.set_cons_succ]
  refine wpAnyH_take (i := 9) (oi := { dst := some 49, op := Op.fieldAddr 65 (Operand.tmp 1) 3, type := 0, pos := "law.go:200", after := #[], guard := none }) (v := ?_) rfl (by kernel_rfl) (by kernel_rfl) (by kernel_rfl) (fun _ _ _ h => h) (Or.inl ⟨by rfl, ?_⟩) hHeld ?_
  rotate_left
  · intro u hSw
    go_simp
    try with_reducible rfl
  try simp only [Act.put, List.setIfInBounds_toArray, List.set_cons_zero, List.set_cons_succ]
  refine wpAnyH_take (i := 10) (oi := { dst := some 50, op := Op.load 22 (Operand.tmp 49), type := 22, pos := "law.go:200", after := #[{ on := 9, ground := Ground.data }], guard := none }) (v := ?_) rfl (by kernel_rfl) (by kernel_rfl) (by kernel_rfl) (fun _ _ _ h => h) (Or.inl ⟨by rfl, ?_⟩) hHeld ?_
  rotate_left
  · intro u hSw
    go_simp
    try with_reducible rfl
  try simp only [Act.put, List.setIfInBounds_toArray, List.set_cons_zero, List.set_cons_succ]
  refine meet (P := Tryd.prog) (Z := .cells #[.int .i64 0, .int .i64 0, .slice none 0 0] 24) _ [43, 47, 51, 4, 5, 6] (fun x => x - 8) 3 (fun u w' h hb => Below.trans h (Below.mono hb (below_size h))) (fun u h => h.alloc (below_size h) _) 6
    [⟨3, { dst := some 43, op := Op.call { callee := Callee.value (Operand.func 38), args := #[Operand.tmp 40, Operand.tmp 42], argTypes := #[3, 22] }, type := 24, pos := "law.go:200", after := #[{ on := 0, ground := Ground.data }, { on := 2, ground := Ground.data }], guard := none }, 43, 38, #[.int .i64 n, .slice ax lx cx], sqφ n xs⟩, ⟨7, { dst := some 47, op := Op.call { callee := Callee.value (Operand.func 38), args := #[Operand.tmp 44, Operand.tmp 46], argTypes := #[3, 22] }, type := 24, pos := "law.go:200", after := #[{ on := 4, ground := Ground.data }, { on := 6, ground := Ground.data }, { on := 3, ground := Ground.chain }], guard := none }, 47, 38, #[.int .i64 n, .slice ay ly cy], sqφ n ys⟩, ⟨11, { dst := some 51, op := Op.call { callee := Callee.value (Operand.func 38), args := #[Operand.tmp 48, Operand.tmp 50], argTypes := #[3, 22] }, type := 24, pos := "law.go:200", after := #[{ on := 8, ground := Ground.data }, { on := 10, ground := Ground.data }, { on := 7, ground := Ground.chain }], guard := none }, 51, 38, #[.int .i64 n, .slice az lz cz], sqφ n zs⟩] [12, 13, 14] _ _ _ rfl ?_ ?_ (by show ([43, 47, 51, 4, 5, 6] : List Nat).Nodup; decide) (fun t _ => rfl) hHeld (by kernel_rfl) ?_
  · intro c hc
    simp only [List.mem_cons, List.not_mem_nil, or_false] at hc
    rcases hc with rfl | rfl | rfl
    · refine ⟨rfl, rfl, rfl, by simp, fun a' h u => ?_, fun u hS => ?_, fun v u w' h hb => ?_⟩
      · have q1 := h 40 (by decide)
        have q2 := h 42 (by decide)
        simp at q1 q2
        simp [execOp, Act.eval, q1, q2, resolve, invoke, go_sem]
      · exact (square_F n _ _ _ _ u (by omega) EX.out (row8_below HX.out (HW1.out.trans (Below.mono hS HW1.out.size)))).mono fun e w' ⟨g, m, he, hm, hg, hh, hb⟩ => ⟨_, he, hb, g, m, rfl, hm, hh⟩
      · obtain ⟨g, m, h1, h2, h3⟩ := h
        exact ⟨g, m, h1, h2, heap_later h3 hb⟩
    · refine ⟨rfl, rfl, rfl, by simp, fun a' h u => ?_, fun u hS => ?_, fun v u w' h hb => ?_⟩
      · have q1 := h 44 (by decide)
        have q2 := h 46 (by decide)
        simp at q1 q2
        simp [execOp, Act.eval, q1, q2, resolve, invoke, go_sem]
      · exact (square_F n _ _ _ _ u (by omega) EY.out (row8_below HY.out (HW1.out.trans (Below.mono hS HW1.out.size)))).mono fun e w' ⟨g, m, he, hm, hg, hh, hb⟩ => ⟨_, he, hb, g, m, rfl, hm, hh⟩
      · obtain ⟨g, m, h1, h2, h3⟩ := h
        exact ⟨g, m, h1, h2, heap_later h3 hb⟩
    · refine ⟨rfl, rfl, rfl, by simp, fun a' h u => ?_, fun u hS => ?_, fun v u w' h hb => ?_⟩
      · have q1 := h 48 (by decide)
        have q2 := h 50 (by decide)
        simp at q1 q2
        simp [execOp, Act.eval, q1, q2, resolve, invoke, go_sem]
      · exact (square_F n _ _ _ _ u (by omega) EZ.out (row8_below HZ.out (HW1.out.trans (Below.mono hS HW1.out.size)))).mono fun e w' ⟨g, m, he, hm, hg, hh, hb⟩ => ⟨_, he, hb, g, m, rfl, hm, hh⟩
      · obtain ⟨g, m, h1, h2, h3⟩ := h
        exact ⟨g, m, h1, h2, heap_later h3 hb⟩
  · intro x hx
    simp only [List.mem_cons, List.not_mem_nil, or_false] at hx
    rcases hx with rfl | rfl | rfl
    all_goals (refine ⟨_, rfl, rfl, rfl, by decide, fun ρ u => ?_⟩; go_simp)
  intro υ ν w2 hb2 hS2 hφ hν hd
  obtain ⟨g1, m1, e1, hm1, hh1⟩ : sqφ n xs (υ 43) w2 := hφ _ (.head _)
  obtain ⟨g2, m2, e2, hm2, hh2⟩ : sqφ n ys (υ 47) w2 := hφ _ (.tail _ (.head _))
  obtain ⟨g3, m3, e3, hm3, hh3⟩ : sqφ n zs (υ 51) w2 := hφ _ (.tail _ (.tail _ (.head _)))
  have n1 : w2.heap[ν 4]? = some (.cells #[.int .i64 0, .int .i64 0, .slice none 0 0] 24 (0, 0)) := laid3 (hν 12 (by simp))
  have n2 : w2.heap[ν 5]? = some (.cells #[.int .i64 0, .int .i64 0, .slice none 0 0] 24 (0, 0)) := laid3 (hν 13 (by simp))
  have n3 : w2.heap[ν 6]? = some (.cells #[.int .i64 0, .int .i64 0, .slice none 0 0] 24 (0, 0)) := laid3 (hν 14 (by simp))
  have b1 : w1.heap.size ≤ ν 4 := (hν 12 (by simp)).1
  have b2 : w1.heap.size ≤ ν 5 := (hν 13 (by simp)).1
  have b3 : w1.heap.size ≤ ν 6 := (hν 14 (by simp)).1
  have d12 : ν 5 ≠ ν 4 := hd 13 (by simp) 12 (by simp) (by decide)
  have d13 : ν 6 ≠ ν 4 := hd 14 (by simp) 12 (by simp) (by decide)
  have d23 : ν 6 ≠ ν 5 := hd 14 (by simp) 13 (by simp) (by decide)
  simp only [puts, List.map_cons, List.map_nil, List.cons_append, List.nil_append, List.foldl_cons, List.foldl_nil, Act.put, List.setIfInBounds_toArray, List.set_cons_zero, List.set_cons_succ, e1, e2, e3]
  generalize υ 43 = v1 at *
  generalize υ 47 = v2 at *
  generalize υ 51 = v3 at *
  subst e1 e2 e3
  generalize ν 4 = N1 at *
  generalize ν 5 = N2 at *
  generalize ν 6 = N3 at *
  have hg11 : g1 ≠ N1 := ne_of_kind hh1 n1 (by decide)
  have hg12 : g1 ≠ N2 := ne_of_kind hh1 n2 (by decide)
  have hg13 : g1 ≠ N3 := ne_of_kind hh1 n3 (by decide)
  have hg21 : g2 ≠ N1 := ne_of_kind hh2 n1 (by decide)
  have hg22 : g2 ≠ N2 := ne_of_kind hh2 n2 (by decide)
  have hg23 : g2 ≠ N3 := ne_of_kind hh2 n3 (by decide)
  have hg31 : g3 ≠ N1 := ne_of_kind hh3 n1 (by decide)
  have hg32 : g3 ≠ N2 := ne_of_kind hh3 n2 (by decide)
  have hg33 : g3 ≠ N3 := ne_of_kind hh3 n3 (by decide)
  have HM1 : Hid _ := hm1
  have HM2 : Hid _ := hm2
  have HM3 : Hid _ := hm3
  clear hφ hν hd hb2 hm1 hm2 hm3 hHeld
  have f0 := cellAt n1 0 _ rfl
  have f1 := cellAt n1 1 _ rfl
  have f2 := cellAt n1 2 _ rfl
  have i0 : w2.frozen? ⟨N1, 0, none⟩ = false := frozen_of_row _ _ _ _ _ n1
  have i1 : w2.frozen? ⟨N1, 1, none⟩ = false := frozen_of_row _ _ _ _ _ n1
  have i2 : w2.frozen? ⟨N1, 2, none⟩ = false := frozen_of_row _ _ _ _ _ n1
  refine wpAnyH_ready (rs := [15]) (by kernel_rfl) (by simp) ?_
  refine AllReadyH.cons (o := { dst := none, op := Op.store 24 (Operand.tmp 4) (Operand.tmp 43), type := 0, pos := "law.go:200", after := #[{ on := 12, ground := Ground.data }, { on := 3, ground := Ground.data }, { on := 11, ground := Ground.chain }, { on := 0, ground := Ground.phase }, { on := 1, ground := Ground.phase }, { on := 2, ground := Ground.phase }, { on := 3, ground := Ground.phase }, { on := 4, ground := Ground.textOnly Departure.lateStores }, { on := 5, ground := Ground.textOnly Departure.lateStores }, { on := 6, ground := Ground.textOnly Departure.lateStores }, { on := 7, ground := Ground.textOnly Departure.lateStoresUnsure }, { on := 8, ground := Ground.textOnly Departure.lateStores }, { on := 9, ground := Ground.textOnly Departure.lateStores }, { on := 10, ground := Ground.textOnly Departure.lateStores }, { on := 11, ground := Ground.textOnly Departure.lateStoresUnsure }, { on := 12, ground := Ground.phase }, { on := 13, ground := Ground.phase }, { on := 14, ground := Ground.phase }], guard := none }) rfl (fun K hK => ?_) AllReadyH.nil
  go_simp
  have hS' : Below w1.heap.size w1 (((w2.setCell ⟨N1, 0, none⟩ (.int .i64 n)).setCell ⟨N1, 1, none⟩ (.int .i64 n)).setCell ⟨N1, 2, none⟩ (.slice (some ⟨g1, 0, none⟩) m1 m1)) := ((hS2.setCell (by simpa using b1) _).setCell (by simpa using b1) _).setCell (by simpa using b1) _
  refine hK.out _ _ hS' (fun _ => ?_)
  clear hK K f0 f1 f2 i0 i1 i2
  try simp only [Act.put, List.setIfInBounds_toArray, List.set_cons_zero, List.set_cons_succ]
  have n1 := store3 (v0 := .int .i64 n) (v1 := .int .i64 n) (v2 := .slice (some ⟨g1, 0, none⟩) m1 m1) n1
  have n2 := store3_other (v0 := .int .i64 n) (v1 := .int .i64 n) (v2 := .slice (some ⟨g1, 0, none⟩) m1 m1) n2 d12
  have n3 := store3_other (v0 := .int .i64 n) (v1 := .int .i64 n) (v2 := .slice (some ⟨g1, 0, none⟩) m1 m1) n3 d13
  have hh1 := store3_other (N := N1) (v0 := .int .i64 n) (v1 := .int .i64 n) (v2 := .slice (some ⟨g1, 0, none⟩) m1 m1) hh1 hg11
  have hh2 := store3_other (N := N1) (v0 := .int .i64 n) (v1 := .int .i64 n) (v2 := .slice (some ⟨g1, 0, none⟩) m1 m1) hh2 hg21
  have hh3 := store3_other (N := N1) (v0 := .int .i64 n) (v1 := .int .i64 n) (v2 := .slice (some ⟨g1, 0, none⟩) m1 m1) hh3 hg31
  clear hS2
  have hS2 := hS'
  clear hS'
  generalize (((w2.setCell ⟨N1, 0, none⟩ (.int .i64 n)).setCell ⟨N1, 1, none⟩ (.int .i64 n)).setCell ⟨N1, 2, none⟩ (.slice (some ⟨g1, 0, none⟩) m1 m1)) = v3 at *
  have f0 := cellAt n2 0 _ rfl
  have f1 := cellAt n2 1 _ rfl
  have f2 := cellAt n2 2 _ rfl
  have i0 : v3.frozen? ⟨N2, 0, none⟩ = false := frozen_of_row _ _ _ _ _ n2
  have i1 : v3.frozen? ⟨N2, 1, none⟩ = false := frozen_of_row _ _ _ _ _ n2
  have i2 : v3.frozen? ⟨N2, 2, none⟩ = false := frozen_of_row _ _ _ _ _ n2
  refine wpAnyH_ready (rs := [16]) (by kernel_rfl) (by simp) ?_
  refine AllReadyH.cons (o := { dst := none, op := Op.store 24 (Operand.tmp 5) (Operand.tmp 47), type := 0, pos := "law.go:200", after := #[{ on := 13, ground := Ground.data }, { on := 7, ground := Ground.data }, { on := 15, ground := Ground.chain }, { on := 0, ground := Ground.phase }, { on := 1, ground := Ground.phase }, { on := 2, ground := Ground.phase }, { on := 3, ground := Ground.phase }, { on := 4, ground := Ground.phase }, { on := 5, ground := Ground.phase }, { on := 6, ground := Ground.phase }, { on := 7, ground := Ground.phase }, { on := 8, ground := Ground.textOnly Departure.lateStores }, { on := 9, ground := Ground.textOnly Departure.lateStores }, { on := 10, ground := Ground.textOnly Departure.lateStores }, { on := 11, ground := Ground.textOnly Departure.lateStoresUnsure }, { on := 12, ground := Ground.phase }, { on := 13, ground := Ground.phase }, { on := 14, ground := Ground.phase }, { on := 15, ground := Ground.phase }], guard := none }) rfl (fun K hK => ?_) AllReadyH.nil
  go_simp
  have hS' : Below w1.heap.size w1 (((v3.setCell ⟨N2, 0, none⟩ (.int .i64 n)).setCell ⟨N2, 1, none⟩ (.int .i64 n)).setCell ⟨N2, 2, none⟩ (.slice (some ⟨g2, 0, none⟩) m2 m2)) := ((hS2.setCell (by simpa using b2) _).setCell (by simpa using b2) _).setCell (by simpa using b2) _
  refine hK.out _ _ hS' (fun _ => ?_)
  clear hK K f0 f1 f2 i0 i1 i2
  try simp only [Act.put, List.setIfInBounds_toArray, List.set_cons_zero, List.set_cons_succ]
  have n1 := store3_other (v0 := .int .i64 n) (v1 := .int .i64 n) (v2 := .slice (some ⟨g2, 0, none⟩) m2 m2) n1 d12.symm
  have n2 := store3 (v0 := .int .i64 n) (v1 := .int .i64 n) (v2 := .slice (some ⟨g2, 0, none⟩) m2 m2) n2
  have n3 := store3_other (v0 := .int .i64 n) (v1 := .int .i64 n) (v2 := .slice (some ⟨g2, 0, none⟩) m2 m2) n3 d23
  have hh1 := store3_other (N := N2) (v0 := .int .i64 n) (v1 := .int .i64 n) (v2 := .slice (some ⟨g2, 0, none⟩) m2 m2) hh1 hg12
  have hh2 := store3_other (N := N2) (v0 := .int .i64 n) (v1 := .int .i64 n) (v2 := .slice (some ⟨g2, 0, none⟩) m2 m2) hh2 hg22
  have hh3 := store3_other (N := N2) (v0 := .int .i64 n) (v1 := .int .i64 n) (v2 := .slice (some ⟨g2, 0, none⟩) m2 m2) hh3 hg32
  clear hS2
  have hS2 := hS'
  clear hS'
  generalize (((v3.setCell ⟨N2, 0, none⟩ (.int .i64 n)).setCell ⟨N2, 1, none⟩ (.int .i64 n)).setCell ⟨N2, 2, none⟩ (.slice (some ⟨g2, 0, none⟩) m2 m2)) = v4 at *
  have f0 := cellAt n3 0 _ rfl
  have f1 := cellAt n3 1 _ rfl
  have f2 := cellAt n3 2 _ rfl
  have i0 : v4.frozen? ⟨N3, 0, none⟩ = false := frozen_of_row _ _ _ _ _ n3
  have i1 : v4.frozen? ⟨N3, 1, none⟩ = false := frozen_of_row _ _ _ _ _ n3
  have i2 : v4.frozen? ⟨N3, 2, none⟩ = false := frozen_of_row _ _ _ _ _ n3
  refine wpAnyH_ready (rs := [17]) (by kernel_rfl) (by simp) ?_
  refine AllReadyH.cons (o := { dst := none, op := Op.store 24 (Operand.tmp 6) (Operand.tmp 51), type := 0, pos := "law.go:200", after := #[{ on := 14, ground := Ground.data }, { on := 11, ground := Ground.data }, { on := 16, ground := Ground.chain }, { on := 0, ground := Ground.phase }, { on := 1, ground := Ground.phase }, { on := 2, ground := Ground.phase }, { on := 3, ground := Ground.phase }, { on := 4, ground := Ground.phase }, { on := 5, ground := Ground.phase }, { on := 6, ground := Ground.phase }, { on := 7, ground := Ground.phase }, { on := 8, ground := Ground.phase }, { on := 9, ground := Ground.phase }, { on := 10, ground := Ground.phase }, { on := 11, ground := Ground.phase }, { on := 12, ground := Ground.phase }, { on := 13, ground := Ground.phase }, { on := 14, ground := Ground.phase }, { on := 15, ground := Ground.phase }, { on := 16, ground := Ground.phase }], guard := none }) rfl (fun K hK => ?_) AllReadyH.nil
  go_simp
  have hS' : Below w1.heap.size w1 (((v4.setCell ⟨N3, 0, none⟩ (.int .i64 n)).setCell ⟨N3, 1, none⟩ (.int .i64 n)).setCell ⟨N3, 2, none⟩ (.slice (some ⟨g3, 0, none⟩) m3 m3)) := ((hS2.setCell (by simpa using b3) _).setCell (by simpa using b3) _).setCell (by simpa using b3) _
  refine hK.out _ _ hS' (fun _ => ?_)
  clear hK K f0 f1 f2 i0 i1 i2
  try simp only [Act.put, List.setIfInBounds_toArray, List.set_cons_zero, List.set_cons_succ]
  have n1 := store3_other (v0 := .int .i64 n) (v1 := .int .i64 n) (v2 := .slice (some ⟨g3, 0, none⟩) m3 m3) n1 d13.symm
  have n2 := store3_other (v0 := .int .i64 n) (v1 := .int .i64 n) (v2 := .slice (some ⟨g3, 0, none⟩) m3 m3) n2 d23.symm
  have n3 := store3 (v0 := .int .i64 n) (v1 := .int .i64 n) (v2 := .slice (some ⟨g3, 0, none⟩) m3 m3) n3
  have hh1 := store3_other (N := N3) (v0 := .int .i64 n) (v1 := .int .i64 n) (v2 := .slice (some ⟨g3, 0, none⟩) m3 m3) hh1 hg13
  have hh2 := store3_other (N := N3) (v0 := .int .i64 n) (v1 := .int .i64 n) (v2 := .slice (some ⟨g3, 0, none⟩) m3 m3) hh2 hg23
  have hh3 := store3_other (N := N3) (v0 := .int .i64 n) (v1 := .int .i64 n) (v2 := .slice (some ⟨g3, 0, none⟩) m3 m3) hh3 hg33
  clear hS2
  have hS2 := hS'
  clear hS'
  generalize (((v4.setCell ⟨N3, 0, none⟩ (.int .i64 n)).setCell ⟨N3, 1, none⟩ (.int .i64 n)).setCell ⟨N3, 2, none⟩ (.slice (some ⟨g3, 0, none⟩) m3 m3)) = v5 at *
  refine wpAnyH_done (by kernel_rfl) ?_ _
  refine NoPanic.normal ?_
  have HA : Hid (Holds v5 [(N1, .cells #[.int .i64 n, .int .i64 n, .slice (some ⟨g1, 0, none⟩) m1 m1] 24 (0, 0)), (g1, .cells (vfs (padTo (n * n) xs)) 5 (0, 0)), (N2, .cells #[.int .i64 n, .int .i64 n, .slice (some ⟨g2, 0, none⟩) m2 m2] 24 (0, 0)), (g2, .cells (vfs (padTo (n * n) ys)) 5 (0, 0)), (N3, .cells #[.int .i64 n, .int .i64 n, .slice (some ⟨g3, 0, none⟩) m3 m3] 24 (0, 0)), (g3, .cells (vfs (padTo (n * n) zs)) 5 (0, 0)), (w.heap.size, .cells #[.int .i64 t, .slice ax lx cx, .slice ay ly cy, .slice az lz cz] 65 (0, 0))]) :=
    holds_cons (holds_cons (holds_cons (holds_cons (holds_cons (holds_cons (holds_cons (holds_nil _) ((hS2.block _ (ltHeap HK1.out)).trans HK1.out)) hh3) n3) hh2) n2) hh1) n1
  have HW : Hid (Below w.heap.size w v5) := HW1.out.trans (hS2.mono HW1.out.size)
  have HXL : Hid _ := padTo_len (n * n) xs
  have HYL : Hid _ := padTo_len (n * n) ys
  have HZL : Hid _ := padTo_len (n * n) zs
  generalize padTo (n * n) xs = X at *
  generalize padTo (n * n) ys = Y at *
  have hn64 : n ≤ 64 := by omega
  clear n1 n2 n3 hh1 hh2 hh3 hS2 b1 b2 b3 d12 d13 d23 hg11 hg12 hg13 hg21 hg22 hg23 hg31 hg32 hg33 c0 c1 c2 c3 hR hR2 HK1 HW1
  have qx0 := cellAt (holds_at HA.out 0 rfl) 0 _ rfl
  have qx1 := cellAt (holds_at HA.out 0 rfl) 1 _ rfl
  have qx2 := cellAt (holds_at HA.out 0 rfl) 2 _ rfl
  have qzx := ltHeap (holds_at HA.out 0 rfl)
  have qy0 := cellAt (holds_at HA.out 2 rfl) 0 _ rfl
  have qy1 := cellAt (holds_at HA.out 2 rfl) 1 _ rfl
  have qy2 := cellAt (holds_at HA.out 2 rfl) 2 _ rfl
  have qzy := ltHeap (holds_at HA.out 2 rfl)
  go_wp2_with fail
  have hB := HA.out
  have hBW := HW.out
  refine Calls.mono (product_F n n n m1 m1 m2 m2 _ _ X Y _ hn64 hn64 hn64 HM1.out HXL.out (Nat.le_refl _) (holds_row hB 1 rfl) HM2.out HYL.out (Nat.le_refl _) (holds_row hB 3 rfl)) ?_
  rintro e w11 ⟨g11, m11, rfl, hm, hg, hh, hb⟩
  have HA1 : Hid _ := holds_cons (holds_later hB hb) hh
  have HW1 : Hid (Below w.heap.size w w11) := hBW.trans (hb.mono hBW.size)
  have HM11 : Hid _ := hm
  clear hB hBW hg hh hb hm HA HW
  clear qx0 qx1 qx2 qy0 qy1 qy2 qzx qzy
  have qy0 := cellAt (holds_at HA1.out 3 rfl) 0 _ rfl
  have qy1 := cellAt (holds_at HA1.out 3 rfl) 1 _ rfl
  have qy2 := cellAt (holds_at HA1.out 3 rfl) 2 _ rfl
  have qzy := ltHeap (holds_at HA1.out 3 rfl)
  have qz0 := cellAt (holds_at HA1.out 5 rfl) 0 _ rfl
  have qz1 := cellAt (holds_at HA1.out 5 rfl) 1 _ rfl
  have qz2 := cellAt (holds_at HA1.out 5 rfl) 2 _ rfl
  have qzz := ltHeap (holds_at HA1.out 5 rfl)
  go_wp2_with fail
  have hB := holds_new HA1.out #[.int .i64 n, .int .i64 n, .slice (some ⟨g11, 0, none⟩) m11 m11] 24
  have hBW := HW1.out.alloc HW1.out.size (.cells #[.int .i64 n, .int .i64 n, .slice (some ⟨g11, 0, none⟩) m11 m11] 24)
  refine Calls.mono (product_F n n n m2 m2 m3 m3 _ _ Y (padTo (n * n) zs) _ hn64 hn64 hn64 HM2.out HYL.out (Nat.le_refl _) (holds_row hB 5 rfl) HM3.out HZL.out (Nat.le_refl _) (holds_row hB 7 rfl)) ?_
  rintro e w12 ⟨g12, m12, rfl, hm, hg, hh, hb⟩
  have HA2 : Hid _ := holds_cons (holds_later hB hb) hh
  have HW2 : Hid (Below w.heap.size w w12) := hBW.trans (hb.mono hBW.size)
  have HM12 : Hid _ := hm
  clear hB hBW hg hh hb hm HA1 HW1
  clear qy0 qy1 qy2 qz0 qz1 qz2 qzy qzz
  have qxy0 := cellAt (holds_at HA2.out 1 rfl) 0 _ rfl
  have qxy1 := cellAt (holds_at HA2.out 1 rfl) 1 _ rfl
  have qxy2 := cellAt (holds_at HA2.out 1 rfl) 2 _ rfl
  have qzxy := ltHeap (holds_at HA2.out 1 rfl)
  have qz0 := cellAt (holds_at HA2.out 7 rfl) 0 _ rfl
  have qz1 := cellAt (holds_at HA2.out 7 rfl) 1 _ rfl
  have qz2 := cellAt (holds_at HA2.out 7 rfl) 2 _ rfl
  have qzz := ltHeap (holds_at HA2.out 7 rfl)
  go_wp2_with fail
  have hB := holds_new HA2.out #[.int .i64 n, .int .i64 n, .slice (some ⟨g12, 0, none⟩) m12 m12] 24
  have hBW := HW2.out.alloc HW2.out.size (.cells #[.int .i64 n, .int .i64 n, .slice (some ⟨g12, 0, none⟩) m12 m12] 24)
  refine Calls.mono (product_F n n n m11 m11 m3 m3 _ _ (mulM n n X Y n) (padTo (n * n) zs) _ hn64 hn64 hn64 HM11.out (mulM_len _ _ _ _ _) (Nat.le_refl _) (holds_row hB 3 rfl) HM3.out HZL.out (Nat.le_refl _) (holds_row hB 9 rfl)) ?_
  rintro e w13 ⟨g13, m13, rfl, hm, hg, hh, hb⟩
  rw [mulM_assoc] at hh
  have HA3 : Hid _ := holds_cons (holds_later hB hb) hh
  have HW3 : Hid (Below w.heap.size w w13) := hBW.trans (hb.mono hBW.size)
  have HM13 : Hid _ := hm
  clear hB hBW hg hh hb hm HA2 HW2
  clear qxy0 qxy1 qxy2 qz0 qz1 qz2 qzxy qzz
  have qx0 := cellAt (holds_at HA3.out 5 rfl) 0 _ rfl
  have qx1 := cellAt (holds_at HA3.out 5 rfl) 1 _ rfl
  have qx2 := cellAt (holds_at HA3.out 5 rfl) 2 _ rfl
  have qzx := ltHeap (holds_at HA3.out 5 rfl)
  have qyz0 := cellAt (holds_at HA3.out 1 rfl) 0 _ rfl
  have qyz1 := cellAt (holds_at HA3.out 1 rfl) 1 _ rfl
  have qyz2 := cellAt (holds_at HA3.out 1 rfl) 2 _ rfl
  have qzyz := ltHeap (holds_at HA3.out 1 rfl)
  go_wp2_with fail
  have hB := holds_new HA3.out #[.int .i64 n, .int .i64 n, .slice (some ⟨g13, 0, none⟩) m13 m13] 24
  have hBW := HW3.out.alloc HW3.out.size (.cells #[.int .i64 n, .int .i64 n, .slice (some ⟨g13, 0, none⟩) m13 m13] 24)
  refine Calls.mono (product_F n n n m1 m1 m12 m12 _ _ X (mulM n n Y (padTo (n * n) zs) n) _ hn64 hn64 hn64 HM1.out HXL.out (Nat.le_refl _) (holds_row hB 7 rfl) HM12.out (mulM_len _ _ _ _ _) (Nat.le_refl _) (holds_row hB 3 rfl)) ?_
  rintro e w14 ⟨g14, m14, rfl, hm, hg, hh, hb⟩
  have HA4 : Hid _ := holds_cons (holds_later hB hb) hh
  have HW4 : Hid (Below w.heap.size w w14) := hBW.trans (hb.mono hBW.size)
  have HM14 : Hid _ := hm
  clear hB hBW hg hh hb hm HA3 HW3
  clear qx0 qx1 qx2 qyz0 qyz1 qyz2 qzx qzyz
  go_wp2_with fail
  have hB := holds_new HA4.out #[.int .i64 n, .int .i64 n, .slice (some ⟨g14, 0, none⟩) m14 m14] 24
  have hBW := HW4.out.alloc HW4.out.size (.cells #[.int .i64 n, .int .i64 n, .slice (some ⟨g14, 0, none⟩) m14 m14] 24)
  refine Calls.mono (one_F n _ hn64) ?_
  rintro e w15 ⟨g15, m15, rfl, hm, hg, hh, hb⟩
  have HA5 : Hid _ := holds_cons (holds_later hB hb) hh
  have HW5 : Hid (Below w.heap.size w w15) := hBW.trans (hb.mono hBW.size)
  have HM15 : Hid _ := hm
  clear hB hBW hg hh hb hm HA4 HW4
  have qx0 := cellAt (holds_at HA5.out 9 rfl) 0 _ rfl
  have qx1 := cellAt (holds_at HA5.out 9 rfl) 1 _ rfl
  have qx2 := cellAt (holds_at HA5.out 9 rfl) 2 _ rfl
  have qzx := ltHeap (holds_at HA5.out 9 rfl)
  go_wp2_with fail
  have hB := holds_new HA5.out #[.int .i64 n, .int .i64 n, .slice (some ⟨g15, 0, none⟩) m15 m15] 24
  have hBW := HW5.out.alloc HW5.out.size (.cells #[.int .i64 n, .int .i64 n, .slice (some ⟨g15, 0, none⟩) m15 m15] 24)
  refine Calls.mono (product_F n n n m1 m1 m15 m15 _ _ X (oneM n) _ hn64 hn64 hn64 HM1.out HXL.out (Nat.le_refl _) (holds_row hB 11 rfl) HM15.out (oneM_len _) (Nat.le_refl _) (holds_row hB 1 rfl)) ?_
  rintro e w16 ⟨g16, m16, rfl, hm, hg, hh, hb⟩
  rw [mulM_one HXL.out] at hh
  have HA6 : Hid _ := holds_cons (holds_later hB hb) hh
  have HW6 : Hid (Below w.heap.size w w16) := hBW.trans (hb.mono hBW.size)
  have HM16 : Hid _ := hm
  clear hB hBW hg hh hb hm HA5 HW5
  clear qx0 qx1 qx2 qzx
  have qone0 := cellAt (holds_at HA6.out 1 rfl) 0 _ rfl
  have qone1 := cellAt (holds_at HA6.out 1 rfl) 1 _ rfl
  have qone2 := cellAt (holds_at HA6.out 1 rfl) 2 _ rfl
  have qzone := ltHeap (holds_at HA6.out 1 rfl)
  have qx0 := cellAt (holds_at HA6.out 11 rfl) 0 _ rfl
  have qx1 := cellAt (holds_at HA6.out 11 rfl) 1 _ rfl
  have qx2 := cellAt (holds_at HA6.out 11 rfl) 2 _ rfl
  have qzx := ltHeap (holds_at HA6.out 11 rfl)
  go_wp2_with fail
  have hB := holds_new HA6.out #[.int .i64 n, .int .i64 n, .slice (some ⟨g16, 0, none⟩) m16 m16] 24
  have hBW := HW6.out.alloc HW6.out.size (.cells #[.int .i64 n, .int .i64 n, .slice (some ⟨g16, 0, none⟩) m16 m16] 24)
  refine Calls.mono (product_F n n n m15 m15 m1 m1 _ _ (oneM n) X _ hn64 hn64 hn64 HM15.out (oneM_len _) (Nat.le_refl _) (holds_row hB 3 rfl) HM1.out HXL.out (Nat.le_refl _) (holds_row hB 13 rfl)) ?_
  rintro e w17 ⟨g17, m17, rfl, hm, hg, hh, hb⟩
  rw [one_mulM HXL.out] at hh
  have HA7 : Hid _ := holds_cons (holds_later hB hb) hh
  have HW7 : Hid (Below w.heap.size w w17) := hBW.trans (hb.mono hBW.size)
  have HM17 : Hid _ := hm
  clear hB hBW hg hh hb hm HA6 HW6
  clear qone0 qone1 qone2 qx0 qx1 qx2 qzone qzx
  have ql0 := cellAt (holds_at HA7.out 7 rfl) 0 _ rfl
  have ql1 := cellAt (holds_at HA7.out 7 rfl) 1 _ rfl
  have ql2 := cellAt (holds_at HA7.out 7 rfl) 2 _ rfl
  have qzl := ltHeap (holds_at HA7.out 7 rfl)
  have qr0 := cellAt (holds_at HA7.out 5 rfl) 0 _ rfl
  have qr1 := cellAt (holds_at HA7.out 5 rfl) 1 _ rfl
  have qr2 := cellAt (holds_at HA7.out 5 rfl) 2 _ rfl
  have qzr := ltHeap (holds_at HA7.out 5 rfl)
  go_wp2_with fail
  have hB := holds_new HA7.out #[.int .i64 n, .int .i64 n, .slice (some ⟨g17, 0, none⟩) m17 m17] 24
  have hBW := HW7.out.alloc HW7.out.size (.cells #[.int .i64 n, .int .i64 n, .slice (some ⟨g17, 0, none⟩) m17 m17] 24)
  refine Calls.mono (same_F n n _ _ m13 m13 m14 m14 (mulM n n X (mulM n n Y (padTo (n * n) zs) n) n) (mulM n n X (mulM n n Y (padTo (n * n) zs) n) n) _ (by rw [(mulM_len _ _ _ _ _)]; exact HM13.out) (by rw [(mulM_len _ _ _ _ _)]; exact HM14.out) (holds_row hB 9 rfl) (holds_row hB 7 rfl)) ?_
  rintro e w18 ⟨rfl, hb⟩
  rw [eqB_true]
  have HA8 : Hid _ := holds_later hB hb
  have HW8 : Hid (Below w.heap.size w w18) := hBW.trans (hb.mono hBW.size)
  clear hB hBW hb HA7 HW7
  clear ql0 ql1 ql2 qr0 qr1 qr2 qzl qzr
  have qsame0 := cellAt (holds_at HA8.out 2 rfl) 0 _ rfl
  have qsame1 := cellAt (holds_at HA8.out 2 rfl) 1 _ rfl
  have qsame2 := cellAt (holds_at HA8.out 2 rfl) 2 _ rfl
  have qzsame := ltHeap (holds_at HA8.out 2 rfl)
  have qx0 := cellAt (holds_at HA8.out 14 rfl) 0 _ rfl
  have qx1 := cellAt (holds_at HA8.out 14 rfl) 1 _ rfl
  have qx2 := cellAt (holds_at HA8.out 14 rfl) 2 _ rfl
  have qzx := ltHeap (holds_at HA8.out 14 rfl)
  go_wp2_with fail
  have hB := HA8.out
  have hBW := HW8.out
  refine Calls.mono (same_F n n _ _ m16 m16 m1 m1 X X _ (by rw [HXL.out]; exact HM16.out) (by rw [HXL.out]; exact HM1.out) (holds_row hB 3 rfl) (holds_row hB 15 rfl)) ?_
  rintro e w19 ⟨rfl, hb⟩
  rw [eqB_true]
  have HA9 : Hid _ := holds_later hB hb
  have HW9 : Hid (Below w.heap.size w w19) := hBW.trans (hb.mono hBW.size)
  clear hB hBW hb HA8 HW8
  clear qsame0 qsame1 qsame2 qx0 qx1 qx2 qzsame qzx
  have qsame20 := cellAt (holds_at HA9.out 0 rfl) 0 _ rfl
  have qsame21 := cellAt (holds_at HA9.out 0 rfl) 1 _ rfl
  have qsame22 := cellAt (holds_at HA9.out 0 rfl) 2 _ rfl
  have qzsame2 := ltHeap (holds_at HA9.out 0 rfl)
  have qx0 := cellAt (holds_at HA9.out 14 rfl) 0 _ rfl
  have qx1 := cellAt (holds_at HA9.out 14 rfl) 1 _ rfl
  have qx2 := cellAt (holds_at HA9.out 14 rfl) 2 _ rfl
  have qzx := ltHeap (holds_at HA9.out 14 rfl)
  go_wp2_with fail
  have hB := HA9.out
  have hBW := HW9.out
  refine Calls.mono (same_F n n _ _ m17 m17 m1 m1 X X _ (by rw [HXL.out]; exact HM17.out) (by rw [HXL.out]; exact HM1.out) (holds_row hB 1 rfl) (holds_row hB 15 rfl)) ?_
  rintro e w20 ⟨rfl, hb⟩
  rw [eqB_true]
  have HA10 : Hid _ := holds_later hB hb
  have HW10 : Hid (Below w.heap.size w w20) := hBW.trans (hb.mono hBW.size)
  clear hB hBW hb HA9 HW9
  clear qsame20 qsame21 qsame22 qx0 qx1 qx2 qzsame2 qzx
  have qx0 := cellAt (holds_at HA10.out 14 rfl) 0 _ rfl
  have qx1 := cellAt (holds_at HA10.out 14 rfl) 1 _ rfl
  have qx2 := cellAt (holds_at HA10.out 14 rfl) 2 _ rfl
  have qzx := ltHeap (holds_at HA10.out 14 rfl)
  go_wp2_with fail
  have hB := HA10.out
  have hBW := HW10.out
  refine Calls.mono (transpose_F n n m1 m1 _ X _ hn64 hn64 HM1.out HXL.out (Nat.le_refl _) (holds_row hB 15 rfl)) ?_
  rintro e w21 ⟨g21, m21, rfl, hm, hg, hh, hb⟩
  have HA11 : Hid _ := holds_cons (holds_later hB hb) hh
  have HW11 : Hid (Below w.heap.size w w21) := hBW.trans (hb.mono hBW.size)
  have HM21 : Hid _ := hm
  clear hB hBW hg hh hb hm HA10 HW10
  clear qx0 qx1 qx2 qzx
  have qy0 := cellAt (holds_at HA11.out 17 rfl) 0 _ rfl
  have qy1 := cellAt (holds_at HA11.out 17 rfl) 1 _ rfl
  have qy2 := cellAt (holds_at HA11.out 17 rfl) 2 _ rfl
  have qzy := ltHeap (holds_at HA11.out 17 rfl)
  go_wp2_with fail
  have hB := holds_new HA11.out #[.int .i64 n, .int .i64 n, .slice (some ⟨g21, 0, none⟩) m21 m21] 24
  have hBW := HW11.out.alloc HW11.out.size (.cells #[.int .i64 n, .int .i64 n, .slice (some ⟨g21, 0, none⟩) m21 m21] 24)
  refine Calls.mono (transpose_F n n m2 m2 _ Y _ hn64 hn64 HM2.out HYL.out (Nat.le_refl _) (holds_row hB 19 rfl)) ?_
  rintro e w22 ⟨g22, m22, rfl, hm, hg, hh, hb⟩
  have HA12 : Hid _ := holds_cons (holds_later hB hb) hh
  have HW12 : Hid (Below w.heap.size w w22) := hBW.trans (hb.mono hBW.size)
  have HM22 : Hid _ := hm
  clear hB hBW hg hh hb hm HA11 HW11
  clear qy0 qy1 qy2 qzy
  have qxy0 := cellAt (holds_at HA12.out 15 rfl) 0 _ rfl
  have qxy1 := cellAt (holds_at HA12.out 15 rfl) 1 _ rfl
  have qxy2 := cellAt (holds_at HA12.out 15 rfl) 2 _ rfl
  have qzxy := ltHeap (holds_at HA12.out 15 rfl)
  go_wp2_with fail
  have hB := holds_new HA12.out #[.int .i64 n, .int .i64 n, .slice (some ⟨g22, 0, none⟩) m22 m22] 24
  have hBW := HW12.out.alloc HW12.out.size (.cells #[.int .i64 n, .int .i64 n, .slice (some ⟨g22, 0, none⟩) m22 m22] 24)
  refine Calls.mono (transpose_F n n m11 m11 _ (mulM n n X Y n) _ hn64 hn64 HM11.out (mulM_len _ _ _ _ _) (Nat.le_refl _) (holds_row hB 17 rfl)) ?_
  rintro e w23 ⟨g23, m23, rfl, hm, hg, hh, hb⟩
  rw [trM_mul] at hh
  have HA13 : Hid _ := holds_cons (holds_later hB hb) hh
  have HW13 : Hid (Below w.heap.size w w23) := hBW.trans (hb.mono hBW.size)
  have HM23 : Hid _ := hm
  clear hB hBW hg hh hb hm HA12 HW12
  clear qxy0 qxy1 qxy2 qzxy
  have qty0 := cellAt (holds_at HA13.out 1 rfl) 0 _ rfl
  have qty1 := cellAt (holds_at HA13.out 1 rfl) 1 _ rfl
  have qty2 := cellAt (holds_at HA13.out 1 rfl) 2 _ rfl
  have qzty := ltHeap (holds_at HA13.out 1 rfl)
  have qtx0 := cellAt (holds_at HA13.out 3 rfl) 0 _ rfl
  have qtx1 := cellAt (holds_at HA13.out 3 rfl) 1 _ rfl
  have qtx2 := cellAt (holds_at HA13.out 3 rfl) 2 _ rfl
  have qztx := ltHeap (holds_at HA13.out 3 rfl)
  go_wp2_with fail
  have hB := holds_new HA13.out #[.int .i64 n, .int .i64 n, .slice (some ⟨g23, 0, none⟩) m23 m23] 24
  have hBW := HW13.out.alloc HW13.out.size (.cells #[.int .i64 n, .int .i64 n, .slice (some ⟨g23, 0, none⟩) m23 m23] 24)
  refine Calls.mono (product_F n n n m22 m22 m21 m21 _ _ (trM n n Y) (trM n n X) _ hn64 hn64 hn64 HM22.out (trM_len _ _ _) (Nat.le_refl _) (holds_row hB 3 rfl) HM21.out (trM_len _ _ _) (Nat.le_refl _) (holds_row hB 5 rfl)) ?_
  rintro e w24 ⟨g24, m24, rfl, hm, hg, hh, hb⟩
  have HA14 : Hid _ := holds_cons (holds_later hB hb) hh
  have HW14 : Hid (Below w.heap.size w w24) := hBW.trans (hb.mono hBW.size)
  have HM24 : Hid _ := hm
  clear hB hBW hg hh hb hm HA13 HW13
  clear qty0 qty1 qty2 qtx0 qtx1 qtx2 qzty qztx
  have qtxy0 := cellAt (holds_at HA14.out 1 rfl) 0 _ rfl
  have qtxy1 := cellAt (holds_at HA14.out 1 rfl) 1 _ rfl
  have qtxy2 := cellAt (holds_at HA14.out 1 rfl) 2 _ rfl
  have qztxy := ltHeap (holds_at HA14.out 1 rfl)
  go_wp2_with fail
  have hB := holds_new HA14.out #[.int .i64 n, .int .i64 n, .slice (some ⟨g24, 0, none⟩) m24 m24] 24
  have hBW := HW14.out.alloc HW14.out.size (.cells #[.int .i64 n, .int .i64 n, .slice (some ⟨g24, 0, none⟩) m24 m24] 24)
  refine Calls.mono (same_F n n _ _ m23 m23 m24 m24 (mulM n n (trM n n Y) (trM n n X) n) (mulM n n (trM n n Y) (trM n n X) n) _ (by rw [(mulM_len _ _ _ _ _)]; exact HM23.out) (by rw [(mulM_len _ _ _ _ _)]; exact HM24.out) (holds_row hB 3 rfl) (holds_row hB 1 rfl)) ?_
  rintro e w25 ⟨rfl, hb⟩
  rw [eqB_true]
  have HA15 : Hid _ := holds_later hB hb
  have HW15 : Hid (Below w.heap.size w w25) := hBW.trans (hb.mono hBW.size)
  clear hB hBW hb HA14 HW14
  clear qtxy0 qtxy1 qtxy2 qztxy
  have e3 := cellAt (holds_at HA15.out 28 rfl) 3 _ rfl
  go_wp2_with fail
  have hB := HA15.out
  have hBW := HW15.out
  refine Calls.mono (square_F n lz cz az zs _ hn64 EZ.out (row8_below HZ.out hBW)) ?_
  rintro e w26 ⟨gv, mv, rfl, hm, hg, hh, hb⟩
  have hh' : w26.heap[gv]? = some (.cells (vfs ((padTo (n * n) zs).take n ++ (padTo (n * n) zs).drop n)) 5 (0, 0)) := by rw [List.take_append_drop]; exact hh
  have HA16 : Hid _ := holds_later hB hb
  have HV : Hid _ := hh'
  have HW16 : Hid (Below w.heap.size w w26) := hBW.trans (hb.mono hBW.size)
  have hmv : n ≤ mv := by rw [hm]; exact Nat.le_mul_of_pos_left n hn0
  have hVL : ((padTo (n * n) zs).take n).length = n := by rw [List.length_take, HZL.out]; exact Nat.min_eq_left (Nat.le_mul_of_pos_left n hn0)
  have HVL : Hid _ := hVL
  have qf := field_cells (n : Int) (n : Int) (some ⟨gv, 0, none⟩) mv mv w26
  clear hB hBW hg hh hh' hb hm e3 hVL HA15 HW15
  have qxy0 := cellAt (holds_at HA16.out 20 rfl) 0 _ rfl
  have qxy1 := cellAt (holds_at HA16.out 20 rfl) 1 _ rfl
  have qxy2 := cellAt (holds_at HA16.out 20 rfl) 2 _ rfl
  have qzxy := ltHeap (holds_at HA16.out 20 rfl)
  go_wp2_with fail
  have hB := HA16.out
  have hBW := HW16.out
  refine Calls.mono (times_F n n m11 m11 n n _ _ (mulM n n X Y n) ((padTo (n * n) zs).take n) _ hn64 hn64 HM11.out (mulM_len _ _ _ _ _) (Nat.le_refl _) (holds_row hB 21 rfl) rfl HVL.out (row8_front HV.out)) ?_
  rintro e w27 ⟨g27, rfl, hg, hh, hb⟩
  rw [timesM_mul] at hh
  have HA17 : Hid _ := holds_cons (holds_later hB hb) hh
  have HV' : Hid _ := heap_later HV.out hb
  have HW17 : Hid (Below w.heap.size w w27) := hBW.trans (hb.mono hBW.size)
  clear hB hBW hg hh hb HA16 HW16 HV
  have HV := HV'
  clear HV'
  clear qxy0 qxy1 qxy2 qzxy
  have qy0 := cellAt (holds_at HA17.out 25 rfl) 0 _ rfl
  have qy1 := cellAt (holds_at HA17.out 25 rfl) 1 _ rfl
  have qy2 := cellAt (holds_at HA17.out 25 rfl) 2 _ rfl
  have qzy := ltHeap (holds_at HA17.out 25 rfl)
  go_wp2_with fail
  have hB := HA17.out
  have hBW := HW17.out
  refine Calls.mono (times_F n n m2 m2 n n _ _ Y ((padTo (n * n) zs).take n) _ hn64 hn64 HM2.out HYL.out (Nat.le_refl _) (holds_row hB 26 rfl) rfl HVL.out (row8_front HV.out)) ?_
  rintro e w28 ⟨g28, rfl, hg, hh, hb⟩
  have HA18 : Hid _ := holds_cons (holds_later hB hb) hh
  have HV' : Hid _ := heap_later HV.out hb
  have HW18 : Hid (Below w.heap.size w w28) := hBW.trans (hb.mono hBW.size)
  clear hB hBW hg hh hb HA17 HW17 HV
  have HV := HV'
  clear HV'
  clear qy0 qy1 qy2 qzy
  have qx0 := cellAt (holds_at HA18.out 24 rfl) 0 _ rfl
  have qx1 := cellAt (holds_at HA18.out 24 rfl) 1 _ rfl
  have qx2 := cellAt (holds_at HA18.out 24 rfl) 2 _ rfl
  have qzx := ltHeap (holds_at HA18.out 24 rfl)
  go_wp2_with fail
  have hB := HA18.out
  have hBW := HW18.out
  refine Calls.mono (times_F n n m1 m1 n n _ _ X (timesM n n Y ((padTo (n * n) zs).take n)) _ hn64 hn64 HM1.out HXL.out (Nat.le_refl _) (holds_row hB 25 rfl) rfl (timesM_len _ _ _ _) ((holds_row hB 0 rfl))) ?_
  rintro e w29 ⟨g29, rfl, hg, hh, hb⟩
  have HA19 : Hid _ := holds_cons (holds_later hB hb) hh
  have HV' : Hid _ := heap_later HV.out hb
  have HW19 : Hid (Below w.heap.size w w29) := hBW.trans (hb.mono hBW.size)
  clear hB hBW hg hh hb HA18 HW18 HV
  have HV := HV'
  clear HV'
  clear qx0 qx1 qx2 qzx
  have qxy0 := cellAt (holds_at HA19.out 23 rfl) 0 _ rfl
  have qxy1 := cellAt (holds_at HA19.out 23 rfl) 1 _ rfl
  have qxy2 := cellAt (holds_at HA19.out 23 rfl) 2 _ rfl
  have qzxy := ltHeap (holds_at HA19.out 23 rfl)
  go_wp2_with fail
  have hB := HA19.out
  have hBW := HW19.out
  refine Calls.mono (left_F n n m11 m11 n n _ _ (mulM n n X Y n) ((padTo (n * n) zs).take n) _ hn64 hn64 HM11.out (mulM_len _ _ _ _ _) (Nat.le_refl _) (holds_row hB 24 rfl) rfl HVL.out (row8_front HV.out)) ?_
  rintro e w30 ⟨g30, rfl, hg, hh, hb⟩
  rw [leftTo_mul] at hh
  have HA20 : Hid _ := holds_cons (holds_later hB hb) hh
  have HV' : Hid _ := heap_later HV.out hb
  have HW20 : Hid (Below w.heap.size w w30) := hBW.trans (hb.mono hBW.size)
  clear hB hBW hg hh hb HA19 HW19 HV
  have HV := HV'
  clear HV'
  clear qxy0 qxy1 qxy2 qzxy
  have qx0 := cellAt (holds_at HA20.out 26 rfl) 0 _ rfl
  have qx1 := cellAt (holds_at HA20.out 26 rfl) 1 _ rfl
  have qx2 := cellAt (holds_at HA20.out 26 rfl) 2 _ rfl
  have qzx := ltHeap (holds_at HA20.out 26 rfl)
  go_wp2_with fail
  have hB := HA20.out
  have hBW := HW20.out
  refine Calls.mono (left_F n n m1 m1 n n _ _ X ((padTo (n * n) zs).take n) _ hn64 hn64 HM1.out HXL.out (Nat.le_refl _) (holds_row hB 27 rfl) rfl HVL.out (row8_front HV.out)) ?_
  rintro e w31 ⟨g31, rfl, hg, hh, hb⟩
  have HA21 : Hid _ := holds_cons (holds_later hB hb) hh
  have HV' : Hid _ := heap_later HV.out hb
  have HW21 : Hid (Below w.heap.size w w31) := hBW.trans (hb.mono hBW.size)
  clear hB hBW hg hh hb HA20 HW20 HV
  have HV := HV'
  clear HV'
  clear qx0 qx1 qx2 qzx
  have qy0 := cellAt (holds_at HA21.out 29 rfl) 0 _ rfl
  have qy1 := cellAt (holds_at HA21.out 29 rfl) 1 _ rfl
  have qy2 := cellAt (holds_at HA21.out 29 rfl) 2 _ rfl
  have qzy := ltHeap (holds_at HA21.out 29 rfl)
  go_wp2_with fail
  have hB := HA21.out
  have hBW := HW21.out
  refine Calls.mono (left_F n n m2 m2 n n _ _ Y (leftTo n ((padTo (n * n) zs).take n) X n) _ hn64 hn64 HM2.out HYL.out (Nat.le_refl _) (holds_row hB 30 rfl) rfl (leftTo_len _ _ _ _) ((holds_row hB 0 rfl))) ?_
  rintro e w32 ⟨g32, rfl, hg, hh, hb⟩
  have HA22 : Hid _ := holds_cons (holds_later hB hb) hh
  have HV' : Hid _ := heap_later HV.out hb
  have HW22 : Hid (Below w.heap.size w w32) := hBW.trans (hb.mono hBW.size)
  clear hB hBW hg hh hb HA21 HW21 HV
  have HV := HV'
  clear HV'
  clear qy0 qy1 qy2 qzy
  have sp := conv8 (ca := n) (la := n) (by rw [(timesM_len _ _ _ _)]) (holds_row HA22.out 5 rfl)
  have sq2 := conv8 (ca := n) (la := n) (by rw [(timesM_len _ _ _ _)]) (holds_row HA22.out 3 rfl)
  have su := conv8 (ca := n) (la := n) (by rw [(leftTo_len _ _ _ _)]) (holds_row HA22.out 2 rfl)
  have sw2 := conv8 (ca := n) (la := n) (by rw [(leftTo_len _ _ _ _)]) (holds_row HA22.out 0 rfl)
  clear HA22
  go_wp2
  go_ret
  exact ⟨by simp, HW22.out⟩
end Go.Proofs.YtagahiahhgafpaaDoor
