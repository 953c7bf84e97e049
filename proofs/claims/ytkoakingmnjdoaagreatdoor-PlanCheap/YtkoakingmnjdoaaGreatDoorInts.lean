/- What the statements' own looks at lists of numbers answer: Ints, KeptInts, SameInts; nothing that was there turns. -/
import Derived.Test.YtkoakingmnjdoaaGreatDoorOwn
import Derived.Test.YtkoakingmnjdoaaGreatDoorNumKept
namespace Go.Proofs.YtkoakingmnjdoaaGreatDoor
open Go.RowKit Gf
set_option linter.unusedVariables false
set_option maxRecDepth 20000
theorem rowI_at {w : World} {b off : Nat} {ns : List Int} (h : ∀ j n, ns[j]? = some n → w.cell? ⟨b, off + j, none⟩ = some (.int .i64 n)) (j : Nat) (hj : j < ns.length) : w.cell? ⟨b, off + j, none⟩ = some (.int .i64 (ns.getD j 0)) := by
  refine h j _ ?_
  rw [List.getD_eq_getElem?_getD, List.getElem?_eq_getElem hj]; rfl
theorem rowI_cell {w : World} {a : Option Addr} {ns : List Int} (h : RowI w a ns) {j : Nat} (hj : j < ns.length) : ∃ b off, a = some ⟨b, off, none⟩ ∧ b < w.heap.size ∧ ∀ j, j < ns.length → w.cell? ⟨b, off + j, none⟩ = some (.int .i64 (ns.getD j 0)) := by
  rcases h with e | ⟨b, off, rfl, h⟩
  · rw [e] at hj; simp at hj
  · have := World.block_lt_of_cell? w _ (rowI_at h j hj)
    exact ⟨b, off, rfl, by simpa using this, fun j hj => rowI_at h j hj⟩
def eqI (ns ms : List Int) : Bool := decide (ns = ms)
theorem eqI_true (ns : List Int) : eqI ns ns = true := by simp [eqI]
theorem eqI_ext {ns ms : List Int} (hl : ns.length = ms.length) (h : ∀ j, j < ns.length → ns.getD j 0 = ms.getD j 0) : ns = ms := by
  apply List.ext_getElem hl
  intro j h1 h2
  have := h j h1
  simpa [List.getD_eq_getElem?_getD, h1, h2] using this
theorem eqI_len {ns ms : List Int} (h : ns.length ≠ ms.length) : eqI ns ms = false := by
  simp only [eqI, decide_eq_false_iff_not]
  intro e; exact h (by rw [e])
theorem eqI_no {ns ms : List Int} {k : Nat} (h : ns.getD k 0 ≠ ms.getD k 0) : eqI ns ms = false := by
  simp only [eqI, decide_eq_false_iff_not]
  intro e; exact h (by rw [e])
set_option maxHeartbeats 1000000 in
theorem sameInts_F (a b : Option Addr) (la ca lb cb : Nat) (ns ms : List Int) (w : World) (hla : la = ns.length) (hlb : lb = ms.length) (ha : la ≤ 140737488355328) (hb : lb ≤ 140737488355328) (hx : RowI w a ns) (hy : RowI w b ms) :
    Calls Tryz.prog 32 #[.slice a la ca, .slice b lb cb] w fun e w' => e = .returned (.bool (eqI ns ms)) ∧ Below w.heap.size w w' := by
  by_cases hl : la = lb
  · subst hl
    have HA : Hid _ := hla
    have HB : Hid _ := hlb
    have HX : Hid _ := hx
    have HY : Hid _ := hy
    clear hla hlb hx hy
    go_enter Tryz.func32, Tryz.ntmps32
    go_wp2
    go_loopw [13] (fun i wr => ∃ k : Nat, k ≤ la ∧ i = .int .i64 k ∧ Below w.heap.size w wr ∧ ∀ j, j < k → ns.getD j 0 = ms.getD j 0) (fun i _ => la - (intOf i).toNat)
    case atStart => exact ⟨0, by omega, rfl, Below.refl _ _, fun j h => absurd h (by omega)⟩
    case round =>
      obtain ⟨k, hk, rfl, hbw, hall⟩ := hrel
      by_cases hlt : k < la
      · obtain ⟨b1, o1, rfl, hb1, h1⟩ := rowI_cell HX.out (show k < ns.length by rw [← HA.out]; exact hlt)
        obtain ⟨b2, o2, rfl, hb2, h2⟩ := rowI_cell HY.out (show k < ms.length by rw [← HB.out]; exact hlt)
        have c1 : wr.cell? ⟨b1, o1 + k, none⟩ = some (.int .i64 (ns.getD k 0)) := cell_later hbw (h1 k (by rw [← HA.out]; exact hlt))
        have c2 : wr.cell? ⟨b2, o2 + k, none⟩ = some (.int .i64 (ms.getD k 0)) := cell_later hbw (h2 k (by rw [← HB.out]; exact hlt))
        have HW : Hid _ := hbw
        have HALL : Hid _ := hall
        clear h1 h2 hbw hall
        generalize hx : ns.getD k 0 = x at c1
        generalize hy : ms.getD k 0 = y at c2
        have EX : Hid _ := hx
        have EY : Hid _ := hy
        clear hx hy
        by_cases hxy : x = y
        · subst hxy
          go_wp2
          go_region
          go_wp2
          refine ⟨⟨k + 1, by omega, by go_num, HW.out.drew, fun j hj => ?_⟩, by simp [intOf]; omega⟩
          by_cases e : j = k
          · subst e; rw [EX.out, EY.out]
          · exact HALL.out j (by omega)
        · have hne : Hid _ := hxy
          go_wp2
          go_region
          go_wp2
          go_ret
          exact ⟨by rw [eqI_no (k := k) (by rw [EX.out, EY.out]; exact hne.out)]; rfl, HW.out.drew⟩
      · have e : ns = ms := eqI_ext (by rw [← HA.out, ← HB.out]) (fun j hj => hall j (by rw [← HA.out] at hj; omega))
        have HE : Hid _ := e
        have HW : Hid _ := hbw
        clear e hbw hall
        go_wp2
        go_ret
        exact ⟨by rw [HE.out, eqI_true]; rfl, HW.out⟩
  · have hne : ns.length ≠ ms.length := by rw [← hla, ← hlb]; exact hl
    have HN : Hid _ := hne
    clear hne hla hlb hx hy
    go_enter Tryz.func32, Tryz.ntmps32
    go_wp2
    go_ret
    exact ⟨by rw [eqI_len HN.out]; rfl, Below.refl _ _⟩
/-- the marks behind a copied list of numbers -/
def marksI : List Int := [-91, -92, -93, -94]
def vis (ns : List Int) : Array Value := (ns.map (Value.int .i64)).toArray
theorem vis_size (ns : List Int) : (vis ns).size = ns.length := by simp [vis]
theorem vis_get {ns : List Int} {j : Nat} {n : Int} (h : ns[j]? = some n) : (vis ns)[j]? = some (.int .i64 n) := by simp [vis, h]
theorem rowI_front {w : World} {g : Nat} {ns ms : List Int} {t : TypeId} {fr : Nat × Nat} (h : w.heap[g]? = some (.cells (vis (ns ++ ms)) t fr)) : RowI w (some ⟨g, 0, none⟩) ns :=
  .inr ⟨g, 0, rfl, fun j n hj => by
    rw [Nat.zero_add]
    exact cellAt h j _ (vis_get (by rw [List.getElem?_append_left (List.getElem?_eq_some_iff.1 hj).1]; exact hj))⟩
theorem rowI_vis {w : World} {g : Nat} {ns : List Int} {t : TypeId} {fr : Nat × Nat} (h : w.heap[g]? = some (.cells (vis ns) t fr)) : RowI w (some ⟨g, 0, none⟩) ns :=
  .inr ⟨g, 0, rfl, fun j n hj => by rw [Nat.zero_add]; exact cellAt h j _ (vis_get hj)⟩
theorem rowI_alloc {w : World} {a : Option Addr} {ns : List Int} (h : RowI w a ns) (o : Obj) : RowI (w.alloc o) a ns := rowI_below h ((Below.refl _ _).alloc (Nat.le_refl _) _)
theorem run_appendI_room {w : World} {g n cap : Nat} {ns old ms : List Int} {a : Option Addr} {m c : Nat} (ty : TypeId) (h : w.heap[g]? = some (.cells (vis (ns ++ old)) 3 (0, 0))) (hn : n = ns.length) (hc : n + m ≤ cap) (hm : m = ms.length) (hroom : ms.length ≤ old.length) (hy : RowI w a ms) (hnil : a = none → c = 0) :
    (Builtin.append_ #[22, 22] ty #[.slice (some ⟨g, 0, none⟩) n cap, .slice a m c]).run Tryz.prog w = .ok (.slice (some ⟨g, 0, none⟩) (n + m) cap) (w.setRow g (vis (ns ++ ms ++ old.drop ms.length))) := by
  subst hn hm
  obtain ⟨i, hi, h1, h2, h3⟩ := infoI
  cases a with
  | none =>
    have hys : ms = [] := by
      rcases hy with e | ⟨b, off, e, _⟩
      · exact e
      · cases e
    subst hys
    have hc0 := hnil rfl
    subst hc0
    rw [List.append_nil, List.length_nil, List.drop_zero, setRow_self w g _ _ _ h]
    have hle : ns.length ≤ cap := by simpa using hc
    simp [Builtin.append_, run_underlying Tryz.underlying22, sizeOf, typeInfo, hi, Builtin.lenOf, Builtin.firstCells, loadCells, hle, storeCells]
  | some ad =>
    have := run_append_room (P := Tryz.prog) w 22 ty 3 i Tryz.underlying22 hi g ns.length cap _ h ad ms.length c (ms.map (Value.int .i64)) (by simp [h1]) (fun j v hv => by
      simp only [List.getElem?_map, Option.map_eq_some_iff] at hv
      obtain ⟨x, hx1, rfl⟩ := hv
      have hj : j < ms.length := (List.getElem?_eq_some_iff.1 hx1).1
      rcases hy with e' | ⟨b, off, e', hy⟩
      · rw [e'] at hj; simp at hj
      · cases e'
        have hadd : (⟨b, off, none⟩ : Addr).add j = ⟨b, off + j, none⟩ := by unfold Addr.add; split <;> simp_all
        rw [hadd, hy j _ hx1]) (fun v hv => by
      simp only [List.mem_map] at hv
      obtain ⟨x, _, rfl⟩ := hv
      rfl) hc (by simp [h1, vis_size]; omega)
    rw [this]
    congr 2
    rw [h1]
    simp only [vis, Nat.mul_one, List.length_map, List.map_append, List.toList_toArray]
    congr 1
    rw [List.take_left' (by simp), List.append_assoc, List.append_assoc, ← List.drop_drop, List.drop_left' (by simp), List.map_drop]
def zerosI (n : Nat) : List Int := List.replicate n 0
theorem madeI (n : Nat) : madeCells (Value.int .i64 0).cells n = vis (zerosI n) := by
  apply Array.ext_getElem?
  intro i
  by_cases h : i < n <;> simp [madeCells, vis, zerosI, Value.cells, h, Nat.mod_one]
theorem run_makeI_room (n : Nat) (hn : n ≤ 17592186043904) (w : World) :
    (Instr.makeSlice 22 (.int .i64 0) (.int .i64 ((n : Int) + 4))).run Tryz.prog w = .ok (.slice (some ⟨w.heap.size, 0, none⟩) 0 (n + 4)) (w.alloc (.cells (vis (zerosI (n + 4))) 3)) := by
  obtain ⟨i, hi, h1, h2, h3⟩ := infoI
  have := run_make (P := Tryz.prog) w 22 3 i _ Tryz.underlying22 hi h3 .i64 .i64 0 ((n : Int) + 4) (by omega) (by omega) (by rw [h2]; omega) (by omega)
  rw [this, h1]
  have e : ((n : Int) + 4).toNat = n + 4 := by omega
  simp only [e, Nat.mul_one, madeI, Int.toNat_zero]
set_option maxHeartbeats 1000000 in
theorem ints_F (a : Option Addr) (la ca : Nat) (ns : List Int) (w : World) (hla : la = ns.length) (ha : la ≤ 17592186043904) (hx : RowI w a ns) (hnil : a = none → ca = 0) :
    Calls Tryz.prog 10 #[.slice a la ca] w fun e w' => ∃ g, e = .returned (.slice (some ⟨g, 0, none⟩) la (la + 4)) ∧ w.heap.size ≤ g ∧ Below w.heap.size w w' ∧
      w'.heap[g]? = some (.cells (vis (ns ++ marksI)) 3 (0, 0)) := by
  have hmk := run_makeI_room la ha w
  have h1 := run_appendI_room (w := w.alloc (.cells (vis (zerosI (la + 4))) 3)) (g := w.heap.size) (n := 0) (cap := la + 4) (ns := []) (old := zerosI (la + 4)) (ms := ns) (a := a) (m := la) (c := ca) 22 (heap_alloc_last w _) rfl (by omega) hla (by rw [zerosI, List.length_replicate]; omega) (rowI_alloc hx _) hnil
  rw [World.setRow_alloc_new, List.nil_append, Nat.zero_add] at h1
  have hd : (zerosI (la + 4)).drop ns.length = zerosI 4 := by
    rw [← hla]; simp [zerosI, List.drop_replicate]
  rw [hd] at h1
  have h2 := run_appendI_room (w := (w.alloc (.cells (vis (ns ++ zerosI 4)) 3)).alloc (.cells (vis marksI) 3)) (g := w.heap.size) (n := la) (cap := la + 4) (ns := ns) (old := zerosI 4) (ms := marksI) (a := some ⟨w.heap.size + 1, 0, none⟩) (m := 4) (c := 4) 22 (heap_alloc2_old w _ _) hla (by omega) rfl (by decide) (rowI_vis (heap_alloc2_new w _ _)) (fun e => by cases e)
  have hd2 : (zerosI 4).drop marksI.length = [] := by decide
  rw [hd2, List.append_nil] at h2
  have HM : Hid (vis marksI = #[.int .i64 (-91), .int .i64 (-92), .int .i64 (-93), .int .i64 (-94)]) := rfl
  have H1 : Hid _ := h1
  have H2 : Hid _ := h2
  have HH : Hid _ := setRow_heap _ _ _ (vis (ns ++ marksI)) _ _ (heap_alloc2_old w (.cells (vis (ns ++ zerosI 4)) 3) (.cells (vis marksI) 3))
  clear h1 h2 hla hx hd hd2 hnil
  go_enter Tryz.func10, Tryz.ntmps10
  go_wp2_with (first | (at_builtin; refine wpList_append_run rfl _ _ 22 rfl _ _ _ _ rfl rfl H1.out ?_) | (at_builtin; rw [← HM.out]; refine wpList_append_run rfl _ _ 22 rfl _ _ _ _ rfl rfl H2.out ?_))
  go_ret
  exact ⟨w.heap.size, rfl, Nat.le_refl _, below_row ((((Below.refl _ _).alloc (Nat.le_refl _) _).alloc (by simp) _)) (Nat.le_refl _) _, HH.out⟩
theorem rowI_keep {w : World} {a : Option Addr} {ns : List Int} (h : RowI w a ns) : ∀ w', Below w.heap.size w w' → RowI w' a ns := fun w' hb => rowI_below h hb
set_option maxHeartbeats 1000000 in
theorem keptInts_F (g n cb : Nat) (b : Option Addr) (ns : List Int) (w : World) (hn : n = ns.length) (hb : n ≤ 17592186043904) (hcb : n ≤ cb)
    (hg : w.heap[g]? = some (.cells (vis (ns ++ marksI)) 3 (0, 0))) (hx : RowI w b ns) :
    Calls Tryz.prog 13 #[.slice (some ⟨g, 0, none⟩) n (n + 4), .slice b n cb] w fun e w' => e = .returned (.bool true) ∧ Below w.heap.size w w' := by
  have HC : Hid (∀ k, k < 4 → ∀ w', Below w.heap.size w w' → w'.cell? ⟨g, n + k, none⟩ = some (.int .i64 (-91 - (k : Int)))) := fun k hk w' hw => by
    refine cellAt (heap_later hg hw) (n + k) _ (vis_get ?_)
    rw [List.getElem?_append_right (by omega), show n + k - ns.length = k from by omega]
    match k, hk with
    | 0, _ => rfl
    | 1, _ => rfl
    | 2, _ => rfl
    | 3, _ => rfl
  have HX : Hid _ := rowI_front hg
  have HY : Hid _ := hx
  have HN : Hid _ := hn
  clear hn hg hx
  have p0 : (0 : Int) ≤ (n : Int) := by omega
  have p1 : n ≤ n + 4 := by omega
  have tg : decide ((n : Int) + 4 < (n : Int) + 4) = false := by simp
  have tw : IntKind.i64.wrap ((n : Int) + 4) = (n : Int) + 4 := by rw [IntKind.wrap_i64]; omega
  go_enter Tryz.func13, Tryz.ntmps13
  go_wp2_with fail
  refine Calls.mono (sameInts_F _ _ _ _ _ _ ns ns _ HN.out HN.out (by omega) (by omega) HX.out HY.out) ?_
  rintro e w1 ⟨rfl, hb1⟩
  rw [eqI_true]
  have HB1 : Hid _ := hb1
  clear hb1
  go_wp2
  go_loop [6] (fun i => ∃ k : Nat, k ≤ 4 ∧ i = .int .i64 k) (fun i => 4 - (intOf i).toNat)
  case atStart => exact ⟨0, by omega, rfl⟩
  case round =>
    obtain ⟨k, hk, rfl⟩ := hrel
    by_cases hlt : k < 4
    · have c1 := HC.out k hlt _ HB1.out
      go_wp2
      exact ⟨⟨k + 1, by omega, by go_num⟩, by simp [intOf]; omega⟩
    · go_wp2
      go_ret
      exact ⟨rfl, HB1.out⟩
end Go.Proofs.YtkoakingmnjdoaaGreatDoor
