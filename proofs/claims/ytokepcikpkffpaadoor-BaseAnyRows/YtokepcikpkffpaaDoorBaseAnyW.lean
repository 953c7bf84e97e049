/- The walk of BaseAnyRows: at all numbers and picks. -/
import Derived.Test.YtokepcikpkffpaaDoorBaseF
import Derived.Test.YtokepcikpkffpaaDoorMatStk
import Derived.Test.YtokepcikpkffpaaDoorMatAl
import Derived.Test.YtokepcikpkffpaaDoorHolds
import Derived.Test.YtokepcikpkffpaaDoorOwn
import Derived.Test.YtokepcikpkffpaaDoorMatS
import Derived.Test.YtokepcikpkffpaaDoorSolveX
import Derived.Test.YtokepcikpkffpaaDoorMatOf
import Derived.Test.YtokepcikpkffpaaDoorErrs
import Derived.Test.YtokepcikpkffpaaDoorMatTake
import Derived.Test.YtokepcikpkffpaaDoorRegHeld
import Derived.Deep.DeepCutAuto
/- What Parity and Generator of package base answer, of all numbers; nothing that was there turns. -/
namespace Go.Proofs.YtokepcikpkffpaaDoor
open Go.RowKit Gf
set_option linter.unusedVariables false
set_option maxRecDepth 20000
set_option maxHeartbeats 1000000 in
theorem parity_bad (k r : Int) (w : World) (s : Addr) (hs : w.cell? ⟨0, 0, none⟩ = some (errAt s)) (hk0 : -9223372036854775808 ≤ k) (hk1 : k ≤ 9223372036854775807) (hr0 : -9223372036854775808 ≤ r) (hr1 : r ≤ 9223372036854775807) (h : ¬ LegalP k r) :
    Calls Tryd.prog 11 #[.int .i64 k, .int .i64 r] w fun e w' => e = .returned (.tuple #[.agg #[.int .i64 0, .int .i64 0, .slice none 0 0], errAt s]) ∧ Below w.heap.size w w' := by
  have HS : Hid _ := cell?_alloc_old (.cells #[.int .i64 0, .int .i64 0, .slice none 0 0] 30) hs
  have H : Hid _ := h
  clear h hs
  unfold errAt at *
  go_enter Tryd.func11, Tryd.ntmps11
  go_wp2_with fail
  refine (bcheck_bad k r _ s HS.out hk0 hk1 hr0 hr1 H.out).mono ?_
  unfold errAt
  rintro e w' ⟨rfl, rfl⟩
  go_wp2
  refine bodyPost_ret (v := .tuple #[.agg #[.int .i64 0, .int .i64 0, .slice none 0 0], .iface 85 (.pointer (some s))]) (by simp [results, Tryd.results11, go_sem]) rfl ⟨rfl, ?_⟩
  exact (Below.refl w.heap.size w).alloc (Nat.le_refl _) _
theorem grid_add (c : Nat) (f : Nat → Nat → F) (n : Nat) : ∀ m, grid c f (n + m) = grid c f n ++ grid c (fun i => f (n + i)) m
  | 0 => by simp [grid]
  | m + 1 => by rw [← Nat.add_assoc]; simp only [grid]; rw [grid_add c f n m, List.append_assoc]
/-- the generator -/
def genM (k r : Nat) : List F := grid k (genF k) (k + r)
theorem genM_len (k r : Nat) : (genM k r).length = (k + r) * k := grid_len _ _ _
theorem genM_eq (k r : Nat) : genM k r = oneM k ++ parM k r := by
  rw [genM, grid_add, oneM, parM]
  congr 1
  · exact grid_congr fun i j hi hj => by simp [genF, hi]
  · exact grid_congr fun i j hi hj => by simp only [genF]; rw [if_neg (by omega)]
theorem rows_flat {r c : Nat} {xs : List F} (h : xs.length = r * c) : ((List.range r).map (rowAt c xs)).flatten = xs := by
  have e := grid_of (xs := xs) h
  have := grid_flat c (fun i j => at8 xs (i * c + j)) r
  rw [← e] at this
  rw [this]
  congr 1
  refine List.map_congr_left fun i hi => ?_
  rw [← this]
  exact rowAt_rowF h (List.mem_range.1 hi)
set_option maxHeartbeats 2000000 in
theorem generator_F (k r : Nat) (w : World) (s : Addr) (hs : w.cell? ⟨1, 0, none⟩ = some (errAt s)) (h1 : 1 ≤ k) (h2 : 2 ≤ r) (h3 : k + r ≤ 16) :
    Calls Tryd.prog 12 #[.int .i64 k, .int .i64 r] w fun e w' => ∃ g m, e = .returned (.tuple #[.agg #[.int .i64 (k + r : Nat), .int .i64 k, .slice (some ⟨g, 0, none⟩) m m], .nilIface]) ∧ m = (k + r) * k ∧ w.heap.size ≤ g ∧
      w'.heap[g]? = some (.cells (vfs (genM k r)) 5 (0, 0)) ∧ Below w.heap.size w w' := by
  have HS : Hid _ := hs
  clear hs
  have hA := holds_new (holds_nil w) #[.int .i64 0, .int .i64 0, .slice none 0 0] 30
  have HA : Hid _ := hA
  clear hA
  go_enter Tryd.func12, Tryd.ntmps12
  go_wp2_with fail
  refine Calls.mono (parity_F k r _ h1 h2 h3) ?_
  rintro e w1 ⟨g1, m1, rfl, hm1, hg1, hh1, hb1⟩
  have HA1 : Hid _ := holds_new (holds_cons (holds_later HA.out hb1) hh1) #[.int .i64 r, .int .i64 k, .slice (some ⟨g1, 0, none⟩) m1 m1] 30
  have HB1 : Hid (Below w.heap.size w w1) := ((Below.refl w.heap.size w).alloc (Nat.le_refl _) _).trans (hb1.mono (by simp))
  have HM1 : Hid _ := hm1
  clear hb1 hh1 hg1 hm1 HA
  go_wp2_with fail
  refine Calls.mono (one_F k _ (by omega)) ?_
  rintro e w2 ⟨g2, m2, rfl, hm2, hg2, hh2, hb2⟩
  have HA2 : Hid _ := holds_new (holds_cons (holds_later HA1.out hb2) hh2) #[.int .i64 k, .int .i64 k, .slice (some ⟨g2, 0, none⟩) m2 m2] 30
  have HB2' := (HB1.out.alloc HB1.out.size (.cells #[.int .i64 r, .int .i64 k, .slice (some ⟨g1, 0, none⟩) m1 m1] 30))
  have HB2 : Hid (Below w.heap.size w w2) := HB2'.trans (hb2.mono HB2'.size)
  have HM2 : Hid _ := hm2
  have c1 := cellAt (holds_at HA2.out 2 rfl) 0 _ rfl
  have c2 := cellAt (holds_at HA2.out 2 rfl) 1 _ rfl
  have c3 := cellAt (holds_at HA2.out 2 rfl) 2 _ rfl
  have z1 := ltHeap (holds_at HA2.out 2 rfl)
  clear hb2 hh2 hg2 hm2 HA1 HB1 HB2'
  go_wp2_with fail
  have hbl := heap_alloc_last (w2.alloc (.cells #[.int .i64 k, .int .i64 k, .slice (some ⟨g2, 0, none⟩) m2 m2] 30)) (.cells #[.int .i64 k, .int .i64 k, .slice (some ⟨g2, 0, none⟩) m2 m2, .int .i64 r, .int .i64 k, .slice (some ⟨g1, 0, none⟩) m1 m1] 30)
  rw [World.size_alloc] at hbl
  have hB3 := (HB2.out.alloc HB2.out.size (.cells #[.int .i64 k, .int .i64 k, .slice (some ⟨g2, 0, none⟩) m2 m2] 30)).alloc (by have := HB2.out.size; simp; omega) (.cells #[.int .i64 k, .int .i64 k, .slice (some ⟨g2, 0, none⟩) m2 m2, .int .i64 r, .int .i64 k, .slice (some ⟨g1, 0, none⟩) m1 m1] 30)
  have HA3 : Hid _ := holds_alloc HA2.out (.cells #[.int .i64 k, .int .i64 k, .slice (some ⟨g2, 0, none⟩) m2 m2, .int .i64 r, .int .i64 k, .slice (some ⟨g1, 0, none⟩) m1 m1] 30)
  have hsB := cell_later hB3 HS.out
  have HB3 : Hid _ := hB3
  clear hB3 HA2 HB2
  generalize hWW : ((w2.alloc (.cells #[.int .i64 k, .int .i64 k, .slice (some ⟨g2, 0, none⟩) m2 m2] 30)).alloc (.cells #[.int .i64 k, .int .i64 k, .slice (some ⟨g2, 0, none⟩) m2 m2, .int .i64 r, .int .i64 k, .slice (some ⟨g1, 0, none⟩) m1 m1] 30)) = W5 at *
  clear hWW
  refine Calls.mono (stack_F k (w2.heap.size + 1) 2 2 [⟨k, k, some ⟨g2, 0, none⟩, m2, m2, oneM k⟩, ⟨r, k, some ⟨g1, 0, none⟩, m1, m1, parM k r⟩] _ (ltHeap hbl) rfl (by decide) (fun j m hj => ?_) (fun m hm => ?_) s hsB) ?_
  · match j, hj with
    | 0, hj => obtain rfl := Option.some.inj hj; exact ⟨cellAt hbl 0 _ rfl, cellAt hbl 1 _ rfl, cellAt hbl 2 _ rfl⟩
    | 1, hj => obtain rfl := Option.some.inj hj; exact ⟨cellAt hbl 3 _ rfl, cellAt hbl 4 _ rfl, cellAt hbl 5 _ rfl⟩
  · simp only [List.mem_cons, List.not_mem_nil, or_false] at hm
    rcases hm with rfl | rfl
    · exact ⟨by rw [HM2.out, oneM_len], Nat.le_refl _, holds_row HA3.out 1 rfl, fun h => by cases h⟩
    · exact ⟨by rw [HM1.out, parM_len], Nat.le_refl _, holds_row HA3.out 3 rfl, fun h => by cases h⟩
  have hro : rowsOf [(⟨k, k, some ⟨g2, 0, none⟩, m2, m2, oneM k⟩ : Mx), ⟨r, k, some ⟨g1, 0, none⟩, m1, m1, parM k r⟩] = k + r := by simp [rowsOf]
  have hrm : (rowsM k [(⟨k, k, some ⟨g2, 0, none⟩, m2, m2, oneM k⟩ : Mx), ⟨r, k, some ⟨g1, 0, none⟩, m1, m1, parM k r⟩]).flatten = genM k r := by
    simp only [rowsM, List.map_cons, List.map_nil, Int.toNat_natCast, List.flatten_cons, List.flatten_nil, List.append_nil, List.flatten_append]
    rw [genM_eq, rows_flat (oneM_len k), rows_flat (parM_len k r)]
  have HOK : Hid (StackOk (k : Int) [(⟨k, k, some ⟨g2, 0, none⟩, m2, m2, oneM k⟩ : Mx), ⟨r, k, some ⟨g1, 0, none⟩, m1, m1, parM k r⟩]) := ⟨by omega, by omega, fun m hm => by
    simp only [List.mem_cons, List.not_mem_nil, or_false] at hm
    rcases hm with rfl | rfl
    · exact ⟨k, rfl, rfl, by omega, by omega, HM2.out⟩
    · exact ⟨r, rfl, rfl, by omega, by omega, HM1.out⟩, by rw [hro]; omega⟩
  rintro e w4 (⟨_, g, m, rfl, hm, hg, hh, hb4⟩ | ⟨hno, _⟩)
  rotate_left
  · exact absurd HOK.out hno
  rw [hro] at hm
  have hh' : w4.heap[g]? = some (.cells (vfs (genM k r)) 5 (0, 0)) := by rw [hh]; show some (Obj.cells (vfs (rowsM ((k : Int).toNat) _).flatten) _ _) = _; rw [Int.toNat_natCast, hrm]
  rw [hro]
  have HP : ∃ p : Nat, p = k + r := ⟨_, rfl⟩
  obtain ⟨p, hp⟩ := HP
  rw [← hp] at hm ⊢
  have HPP : Hid _ := hp
  have HM : Hid (m = p * k) := by show m = p * k; simpa using hm
  have k2 := heap_later (holds_at HA3.out 4 rfl) hb4
  have c4 := cellAt k2 0 _ rfl
  have c5 := cellAt k2 1 _ rfl
  have c6 := cellAt k2 2 _ rfl
  have d4 : w4.frozen? ⟨w.heap.size, 0, none⟩ = false := frozen_of_row _ _ _ _ _ k2
  have d5 : w4.frozen? ⟨w.heap.size, 1, none⟩ = false := frozen_of_row _ _ _ _ _ k2
  have d6 : w4.frozen? ⟨w.heap.size, 2, none⟩ = false := frozen_of_row _ _ _ _ _ k2
  have HH : Hid _ := hh'
  have HBW : Hid (Below w.heap.size w w4) := HB3.out.trans (hb4.mono HB3.out.size)
  have hgw : w.heap.size < g := by
    have h1 := ltHeap (holds_at HA3.out 4 rfl)
    have := HB3.out.size; omega
  clear hm hh hh' hb4 k2 hp c1 c2 c3 z1 hbl hsB hrm hro
  go_wp2
  have hp := HPP.out
  clear HPP
  subst hp
  refine bodyPost_ret (v := .tuple #[.agg #[.int .i64 (k + r : Nat), .int .i64 k, .slice (some ⟨g, 0, none⟩) m m], .nilIface]) (by simp [results, Tryd.results12, go_sem, c4, c5, c6]) rfl ⟨g, m, rfl, HM.out, by omega, ?_, ?_⟩
  · rw [heap_setCell_other _ _ _ _ (by show g ≠ w.heap.size; omega), heap_setCell_other _ _ _ _ (by show g ≠ w.heap.size; omega), heap_setCell_other _ _ _ _ (by show g ≠ w.heap.size; omega)]
    exact HH.out
  · exact ((HBW.out.setCell (Nat.le_refl _) _).setCell (Nat.le_refl _) _).setCell (Nat.le_refl _) _
set_option maxHeartbeats 2000000 in
theorem generator_bad (k r : Int) (w : World) (s : Addr) (hs : w.cell? ⟨0, 0, none⟩ = some (errAt s)) (hk0 : -9223372036854775808 ≤ k) (hk1 : k ≤ 9223372036854775807) (hr0 : -9223372036854775808 ≤ r) (hr1 : r ≤ 9223372036854775807) (h : ¬ LegalP k r) :
    Calls Tryd.prog 12 #[.int .i64 k, .int .i64 r] w fun e w' => e = .returned (.tuple #[.agg #[.int .i64 0, .int .i64 0, .slice none 0 0], errAt s]) ∧ Below w.heap.size w w' := by
  have HS : Hid _ := cell?_alloc_old (.cells #[.int .i64 0, .int .i64 0, .slice none 0 0] 30) hs
  have H : Hid _ := h
  clear h hs
  have hA := holds_new (holds_nil w) #[.int .i64 0, .int .i64 0, .slice none 0 0] 30
  have HA : Hid _ := hA
  clear hA
  go_enter Tryd.func12, Tryd.ntmps12
  go_wp2_with fail
  refine Calls.mono (parity_bad k r _ s HS.out hk0 hk1 hr0 hr1 H.out) ?_
  unfold errAt
  rintro e w1 ⟨rfl, hb1⟩
  have k1 := holds_at (holds_later HA.out hb1) 0 rfl
  have c4 := cellAt k1 0 _ rfl
  have c5 := cellAt k1 1 _ rfl
  have c6 := cellAt k1 2 _ rfl
  have d4 : w1.frozen? ⟨w.heap.size, 0, none⟩ = false := frozen_of_row _ _ _ _ _ k1
  have d5 : w1.frozen? ⟨w.heap.size, 1, none⟩ = false := frozen_of_row _ _ _ _ _ k1
  have d6 : w1.frozen? ⟨w.heap.size, 2, none⟩ = false := frozen_of_row _ _ _ _ _ k1
  have z1 := ltHeap k1
  have HB1 : Hid (Below w.heap.size w w1) := ((Below.refl w.heap.size w).alloc (Nat.le_refl _) _).trans (hb1.mono (by simp))
  clear hb1 k1
  go_wp2
  refine bodyPost_ret (v := .tuple #[.agg #[.int .i64 0, .int .i64 0, .slice none 0 0], errAt s]) (by simp [results, Tryd.results12, go_sem, c4, c5, c6, z1, errAt]) rfl ⟨rfl, ?_⟩
  exact (((HB1.out.setCell (Nat.le_refl _) _).setCell (Nat.le_refl _) _).setCell (Nat.le_refl _) _).alloc (by have := HB1.out.size; simp; omega) _
end Go.Proofs.YtokepcikpkffpaaDoor

/- alive of stage 4. -/
namespace Go.Proofs.YtokepcikpkffpaaDoor
open Go.RowKit Gf
set_option linter.unusedVariables false
set_option maxRecDepth 20000
theorem alive_par : parM 2 2 = [142, 244, 244, 142] := by decide +kernel
set_option maxHeartbeats 2000000 in
theorem alive4_ok (w : World) : Calls Tryd.prog 8 #[] w fun e w' => e = .returned (.bool true) ∧ Below w.heap.size w w' := by
  go_enter Tryd.func8, Tryd.ntmps8
  go_wp2_with fail
  refine Calls.mono (parity_F 2 2 _ (by decide) (by decide) (by decide)) ?_
  rintro e w2 ⟨g, m, rfl, hm, hg, hh, hb⟩
  obtain rfl : m = 4 := hm
  rw [alive_par] at hh
  have HW2 : Hid (Below w.heap.size w w2) := hb
  have hA := holds_new (holds_cons (holds_nil w2) hh) #[.int .i64 2, .int .i64 2, .slice (some ⟨g, 0, none⟩) 4 4] 30
  have c1 := cellAt (holds_at hA 0 rfl) 0 _ rfl
  have c2 := cellAt (holds_at hA 0 rfl) 1 _ rfl
  have c3 := cellAt (holds_at hA 0 rfl) 2 _ rfl
  have hcv := conv8 (ca := 4) (show 4 = ([142, 244, 244, 142] : List F).length from rfl) (holds_row hA 1 rfl)
  rw [show str8 [142, 244, 244, 142] = { data := #[142, 244, 244, 142] } by decide +kernel] at hcv
  have h2 : ((w2.alloc (.cells #[.int .i64 2, .int .i64 2, .slice (some ⟨g, 0, none⟩) 4 4] 30)).alloc (.cells #[.int .u8 142, .int .u8 244, .int .u8 244, .int .u8 142] 5)).heap[w2.heap.size + 1]? = some (.cells (vfs [142, 244, 244, 142]) 5 (0, 0)) := by
    have := heap_alloc_last (w2.alloc (.cells #[.int .i64 2, .int .i64 2, .slice (some ⟨g, 0, none⟩) 4 4] 30)) (.cells #[.int .u8 142, .int .u8 244, .int .u8 244, .int .u8 142] 5)
    rw [World.size_alloc] at this
    exact this
  have hcv2 := conv8 (ca := 4) (show 4 = ([142, 244, 244, 142] : List F).length from rfl) (row8_own h2)
  rw [show str8 [142, 244, 244, 142] = { data := #[142, 244, 244, 142] } by decide +kernel] at hcv2
  clear hb hh hA h2
  go_wp2
  go_ret
  exact ⟨rfl, (HW2.out.alloc HW2.out.size _).alloc (by have := HW2.out.size; simp; omega) _⟩
end Go.Proofs.YtokepcikpkffpaaDoor

/- What the statements' own choice of numbers answers: so many numbers, rising, all below the bound; nothing that was there turns. -/
namespace Go.Proofs.YtokepcikpkffpaaDoor
open Go.RowKit Gf
set_option linter.unusedVariables false
set_option maxRecDepth 20000
/-- marks in memory -/
def bvs (n : Nat) (f : Nat → Bool) : Array Value := ((List.range n).map fun i => Value.bool (f i)).toArray
theorem bvs_size (n : Nat) (f : Nat → Bool) : (bvs n f).size = n := by simp [bvs]
theorem bvs_get {n i : Nat} {f : Nat → Bool} (h : i < n) : (bvs n f)[i]? = some (.bool (f i)) := by simp [bvs, h]
def upB (f : Nat → Bool) (i : Nat) : Nat → Bool := fun j => f j || decide (j = i)
theorem bvs_set {n i : Nat} {f : Nat → Bool} : (bvs n f).setIfInBounds i (.bool true) = bvs n (upB f i) := by
  apply Array.ext_getElem?
  intro j
  simp only [bvs, Array.getElem?_setIfInBounds, List.size_toArray, List.length_map, List.length_range, List.getElem?_toArray, List.getElem?_map, upB]
  by_cases h : i = j
  · subst h; by_cases h2 : i < n <;> simp [h2]
  · rw [if_neg h]
    by_cases h2 : j < n <;> simp [h2, Ne.symm h]
theorem madeB (n : Nat) : madeCells (Value.bool false).cells n = bvs n (fun _ => false) := by
  apply Array.ext_getElem?
  intro i
  by_cases h : i < n <;> simp [madeCells, bvs, Value.cells, h, Nat.mod_one]
theorem run_makeB (n : Nat) (hn : n ≤ 65536) (w : World) :
    (Instr.makeSlice 62 (.int .i64 (n : Int)) (.int .i64 (n : Int))).run Tryd.prog w = .ok (.slice (some ⟨w.heap.size, 0, none⟩) n n) (w.alloc (.cells (bvs n (fun _ => false)) 4)) := by
  have hi : (Tryd.prog.info? 4).map (fun i => (i.size, i.bytes, i.zero)) = some (1, 1, some (.bool false)) := by kernel_rfl
  cases hq : Tryd.prog.info? 4 with
  | none => simp [hq] at hi
  | some i =>
    simp only [hq, Option.map_some, Option.some.injEq, Prod.mk.injEq] at hi
    have := run_make (P := Tryd.prog) w 62 4 i _ Tryd.underlying62 hq hi.2.2 .i64 .i64 n n (by omega) (by omega) (by rw [hi.2.1]; omega) (by omega)
    rw [this, hi.1]
    simp only [Int.toNat_natCast, Nat.mul_one, madeB]
/-- how many are marked -/
def cntB (f : Nat → Bool) (n : Nat) : Nat := ((List.range n).filter f).length
theorem cntB_le (f : Nat → Bool) (n : Nat) : cntB f n ≤ n := by have := List.length_filter_le f (List.range n); simpa [cntB] using this
theorem cntB_succ (f : Nat → Bool) (n : Nat) : cntB f (n + 1) = cntB f n + if f n then 1 else 0 := by
  simp only [cntB, List.range_succ, List.filter_append, List.length_append, List.filter_cons, List.filter_nil]
  split <;> rfl
theorem cntB_same {f g : Nat → Bool} : ∀ {n : Nat}, (∀ i, i < n → f i = g i) → cntB f n = cntB g n
  | 0, _ => rfl
  | n + 1, h => by rw [cntB_succ, cntB_succ, cntB_same (n := n) (fun i hi => h i (by omega)), h n (by omega)]
theorem cntB_up {f : Nat → Bool} {i : Nat} (hf : f i = false) : ∀ {n : Nat}, i < n → cntB (upB f i) n = cntB f n + 1
  | 0, h => absurd h (Nat.not_lt_zero _)
  | n + 1, h => by
    rw [cntB_succ, cntB_succ]
    by_cases e : i = n
    · subst e
      rw [cntB_same (f := upB f i) (g := f) (fun j hj => by simp [upB, Nat.ne_of_lt hj]), hf]
      simp [upB]
    · rw [cntB_up hf (n := n) (by omega)]
      have : upB f i n = f n := by simp [upB, Ne.symm e]
      rw [this]; omega
theorem cntB_all {f : Nat → Bool} : ∀ {n : Nat}, (∀ i, i < n → f i = true) → cntB f n = n
  | 0, _ => rfl
  | n + 1, h => by rw [cntB_succ, cntB_all (n := n) (fun i hi => h i (by omega)), h n (by omega)]; rfl
theorem cntB_none (n : Nat) : cntB (fun _ => false) n = 0 := by simp [cntB]
/-- the marked numbers -/
def pickB (f : Nat → Bool) (n : Nat) : List Nat := (List.range n).filter f
theorem pickB_same {f g : Nat → Bool} {n : Nat} (h : ∀ i, i < n → f i = g i) : pickB f n = pickB g n := List.filter_congr fun i hi => h i (by simpa using hi)
theorem pickB_yes {f : Nat → Bool} {n : Nat} (h : f n = true) : pickB f (n + 1) = pickB f n ++ [n] := by simp [pickB, List.range_succ, h]
theorem pickB_no {f : Nat → Bool} {n : Nat} (h : f n = false) : pickB f (n + 1) = pickB f n := by simp [pickB, List.range_succ, h]
theorem pickB_up {f : Nat → Bool} {n : Nat} : pickB (upB f n) n = pickB f n := pickB_same fun i hi => by simp [upB, Nat.ne_of_lt hi]
theorem pickB_sorted (f : Nat → Bool) (n : Nat) : (pickB f n).Pairwise (· < ·) := List.pairwise_lt_range.filter _
theorem pickB_lt {f : Nat → Bool} {n : Nat} : ∀ x ∈ pickB f n, x < n := fun x hx => by simpa using (List.mem_filter.1 hx).1
/-- numbers as values -/
def nvs (L : List Nat) : List Value := L.map fun i => Value.int .i64 ((i : Nat) : Int)
theorem nvs_snoc (L : List Nat) (i : Nat) : nvs L ++ [.int .i64 (i : Int)] = nvs (L ++ [i]) := by simp [nvs]
theorem own_setCell {w : World} {B n g i : Nat} {v x : Value} {e : TypeId} {s : Nat} {xs : List Value} (h : w.ownsRow B e s v n xs) (hg : g < B) : (w.setCell ⟨g, i, none⟩ x).ownsRow B e s v n xs := by
  refine ⟨h.1, h.2.imp id fun ⟨b, cap, cur, h1, h2, h3, h4⟩ => ⟨b, cap, cur, h1, h2, (heap_setCell_other _ _ _ _ (by show b ≠ g; omega)).trans h3, h4⟩⟩
theorem mod_place (x : Int) {n : Nat} (hn : 1 ≤ n) : (-(n : Int) < x.tmod n ∧ x.tmod n < n) ∧ ∃ j : Nat, j < n ∧ x.tmod n % (n : Int) = j := by
  have h1 : -(n : Int) < x.tmod n := by
    rcases Int.le_total 0 x with h | h
    · have := Int.tmod_nonneg n h; omega
    · have h2 := Int.neg_tmod (a := -x) (b := (n : Int))
      have h3 := Int.tmod_lt_of_pos (-x) (show (0 : Int) < n by omega)
      rw [Int.neg_neg] at h2; omega
  have h2 := Int.tmod_lt_of_pos x (show (0 : Int) < n by omega)
  have h3 : 0 ≤ x.tmod n % (n : Int) := Int.emod_nonneg _ (by omega)
  have h4 := Int.emod_lt_of_pos (x.tmod n) (show (0 : Int) < n by omega)
  exact ⟨⟨h1, h2⟩, (x.tmod n % (n : Int)).toNat, by omega, by omega⟩
set_option maxHeartbeats 1000000 in
theorem chosen_F (n k ln cn : Nat) (an : Option Addr) (ns : List Int) (w : World) (hn : 1 ≤ n) (hn2 : n ≤ 256) (hk1 : 1 ≤ k) (hk : k ≤ n) (hln : ln = ns.length) (hm : ln ≤ 140737488355328) (hI : RowI w an ns) (hbd : ∀ x ∈ ns, -9223372036854775808 ≤ x ∧ x ≤ 9223372036854775807) :
    Calls Tryd.prog 21 #[.int .i64 n, .int .i64 k, .slice an ln cn] w fun e w' => ∃ g cap L, e = .returned (.slice (some ⟨g, 0, none⟩) k cap) ∧ L.Pairwise (· < ·) ∧ L.length = k ∧ (∀ x ∈ L, x < n) ∧ w'.ownsRow w.heap.size 3 1 (.slice (some ⟨g, 0, none⟩) k cap) k (nvs L) ∧ Below w.heap.size w w' := by
  have hmk := run_makeB n (by omega)
  have HLN : Hid _ := hln
  have HI : Hid _ := hI
  have HBD : Hid _ := hbd
  clear hln hI hbd
  go_enter Tryd.func21, Tryd.ntmps21
  go_wp2
  have B0 : Hid _ := heap_alloc_last w (.cells (bvs n (fun _ => false)) 4)
  have B1 : Hid (Below w.heap.size w (w.alloc (.cells (bvs n (fun _ => false)) 4))) := (Below.refl w.heap.size w).alloc (Nat.le_refl _) _
  have hz : (w.alloc (.cells (bvs n (fun _ => false)) 4)).heap.size = w.heap.size + 1 := by simp
  have HZ : Hid _ := hz
  clear hmk hz
  generalize (w.alloc (.cells (bvs n (fun _ => false)) 4)) = W1 at *
  go_loopw [8, 18] (fun c i wr => ∃ (j m : Nat) (f : Nat → Bool), j ≤ ln ∧ i = .int .i64 j ∧ c = .int .i64 m ∧ m = cntB f n ∧ m ≤ k ∧ Below w.heap.size w wr ∧ W1.grownBy wr (some w.heap.size) ∧ wr.heap[w.heap.size]? = some (.cells (bvs n f) 4 (0, 0))) (fun _ i _ => ln - (intOf i).toNat)
  case atStart => exact ⟨0, 0, fun _ => false, by omega, rfl, rfl, (cntB_none n).symm, by omega, B1.out, World.grownBy.refl _ _, B0.out⟩
  case round =>
    obtain ⟨j, m, f, hj, rfl, rfl, hmf, hmk, hbw, hgb, hh⟩ := hrel
    by_cases hlt : j < ln
    · have hkn : j < ns.length := by rw [← HLN.out]; exact hlt
      have hget : ns[j]? = some ns[j] := List.getElem?_eq_getElem hkn
      have hbx := HBD.out _ (List.getElem_mem hkn)
      generalize ns[j] = x at hget hbx
      obtain ⟨⟨t1, t2⟩, i, hi, hti⟩ := mod_place x hn
      rcases HI.out with e0 | ⟨b, off, rfl, hrows⟩
      · rw [e0] at hkn; simp at hkn
      have c3 := cell_later hbw (hrows j x hget)
      have c4 := cellAt hh i _ (bvs_get hi)
      have d4 : wr.frozen? ⟨w.heap.size, i, none⟩ = false := frozen_of_row _ _ _ _ _ hh
      have hx1 := hbx.1
      have hx2 := hbx.2
      have HB : Hid _ := hbw
      have HH : Hid _ := hh
      have HG : Hid _ := hgb
      have HM : Hid _ := hmf
      have hn0 : ((n : Int) == 0) = false := beq_eq_false_iff_ne.2 (by omega)
      clear hget hrows hbx hbw hh hgb hkn hmf
      by_cases hmk2 : m < k
      · cases hf : f i with
        | false =>
          rw [hf] at c4
          have HF : Hid _ := hf
          clear hf
          go_wp2
          exact ⟨⟨j + 1, m + 1, upB f i, by omega, by go_num, by go_num, by rw [cntB_up HF.out hi, HM.out], by omega, HB.out.setCell (Nat.le_refl _) _, grownBy_setCell HG.out _, by rw [heap_setCell_same _ _ _ _ _ _ HH.out, bvs_set]⟩, by simp [intOf]; omega⟩
        | true =>
          rw [hf] at c4
          clear hf
          go_wp2
          exact ⟨⟨j + 1, m, f, by omega, by go_num, rfl, HM.out, by omega, HB.out, HG.out, HH.out⟩, by simp [intOf]; omega⟩
      · go_wp2
        exact ⟨⟨j + 1, m, f, by omega, by go_num, rfl, HM.out, by omega, HB.out, HG.out, HH.out⟩, by simp [intOf]; omega⟩
    · have HB : Hid _ := hbw
      have HM : Hid _ := hmf
      have hz1 : w.heap.size < wr.heap.size := ltHeap hh
      have HH : Hid _ := (Below.heap_alloc wr (.cells #[] 3) _ hz1).trans hh
      clear hbw hgb hh hmf
      have HO : Hid ((wr.alloc (.cells #[] 3)).ownsRow (w.heap.size + 1) 3 1 (.slice (some ⟨wr.heap.size, 0, none⟩) 0 0) 0 (nvs [])) := ⟨rfl, .inr ⟨wr.heap.size, 0, #[], rfl, by omega, heap_alloc_last _ _, Nat.le_refl _, by decide, rfl, rfl⟩⟩
      have HB2 : Hid (Below w.heap.size w (wr.alloc (.cells #[] 3))) := HB.out.alloc HB.out.size _
      go_wp2
      generalize (wr.alloc (.cells #[] 3)) = W2 at *
      generalize wr.heap.size = g0 at *
      clear hz1
      go_loopw [8, 12, 48] (fun c v i wr => ∃ (q p : Nat) (f : Nat → Bool) (g cap : Nat), q ≤ n ∧ i = .int .i64 q ∧ c = .int .i64 p ∧ p = cntB f n ∧ p ≤ k ∧ ((∀ x, x < q → f x = true) ∨ p = k) ∧ Below w.heap.size w wr ∧ wr.heap[w.heap.size]? = some (.cells (bvs n f) 4 (0, 0)) ∧ v = .slice (some ⟨g, 0, none⟩) (pickB f q).length cap ∧ wr.ownsRow (w.heap.size + 1) 3 1 v (pickB f q).length (nvs (pickB f q))) (fun _ _ i _ => n - (intOf i).toNat)
      case atStart => exact ⟨0, m, f, g0, 0, by omega, rfl, rfl, HM.out, by omega, .inl (fun x hx => absurd hx (by omega)), HB2.out, HH.out, rfl, HO.out⟩
      case round =>
        obtain ⟨q, p, f', g, cap, hq, rfl, rfl, hpf, hpk, hall, hbw, hh, rfl, hown⟩ := hrel
        have hl : (pickB f' q).length ≤ 256 := by have := cntB_le f' q; show cntB f' q ≤ 256; omega
        have zw := ltHeap hh
        by_cases hlt : q < n
        · have c4 := cellAt hh q _ (bvs_get hlt)
          have d4 : wr.frozen? ⟨w.heap.size, q, none⟩ = false := frozen_of_row _ _ _ _ _ hh
          have hne : some w.heap.size ≠ (Value.slice (some ⟨g, 0, none⟩) (pickB f' q).length cap).ownBlock := fun e => by have := (hown.lt _ e.symm).1; omega
          cases hf : f' q with
          | true =>
            rw [hf] at c4
            have ho := hown.alloc (.cells #[.int .i64 q] 3)
            obtain ⟨g2, cap2, w6, hrun, ho2, hgr, hor, hlt2⟩ := appendI (b := wr.heap.size) (c := 1) (x := (q : Int)) 42 ho (cellAt (heap_alloc_last wr (.cells #[.int .i64 q] 3)) 0 _ rfl) (by omega) (by simp; omega)
            rw [nvs_snoc, ← pickB_yes hf] at ho2
            have hh6 := (hgr.block w.heap.size (by simp; omega) hne).trans ((Below.heap_alloc wr (.cells #[.int .i64 q] 3) _ zw).trans hh)
            have hb6 := below_own (B := w.heap.size) (hbw.alloc hbw.size (.cells #[.int .i64 q] 3)) ⟨ho.1, ho.2.imp id fun ⟨b, c, cu, h1, h2, h3⟩ => ⟨b, c, cu, h1, by omega, h3⟩⟩ hgr (by simp; omega)
            have hlen : (pickB f' q).length + 1 = (pickB f' (q + 1)).length := by rw [pickB_yes hf]; simp
            have HRun : Hid _ := hrun
            have HO2 : Hid _ := ho2
            have HH6 : Hid _ := hh6
            have HB6 : Hid _ := hb6
            have HF : Hid _ := hf
            have HP : Hid _ := hpf
            have HL : Hid _ := hlen
            have HA : Hid _ := hall
            clear ho hrun ho2 hh6 hb6 hgr hor hlt2 hh hown hbw hne hf hpf hlen hall
            go_wp2_with (at_builtin; refine wpList_append_run rfl _ _ 42 rfl _ _ _ _ rfl rfl HRun.out ?_)
            refine ⟨⟨q + 1, p, f', g2, cap2, by omega, by go_num, rfl, HP.out, by omega, HA.out.imp (fun h x hx => ?_) id, HB6.out, HH6.out, by rw [HL.out], by rw [← HL.out]; exact HO2.out⟩, by simp [intOf]; omega⟩
            by_cases e : x = q
            · subst e; exact HF.out
            · exact h x (by omega)
          | false =>
            rw [hf] at c4
            by_cases hpk2 : p < k
            · have hs5 : (wr.setCell ⟨w.heap.size, q, none⟩ (.bool true)).heap[w.heap.size]? = some (.cells (bvs n (upB f' q)) 4 (0, 0)) := by rw [heap_setCell_same _ _ _ _ _ _ hh, bvs_set]
              have c5 := cellAt hs5 q _ (bvs_get hlt)
              rw [show upB f' q q = true by simp [upB]] at c5
              have ho := (own_setCell hown (i := q) (x := .bool true) (show w.heap.size < w.heap.size + 1 by omega)).alloc (.cells #[.int .i64 q] 3)
              have hz5 : (wr.setCell ⟨w.heap.size, q, none⟩ (.bool true)).heap.size = wr.heap.size := by simp
              obtain ⟨g2, cap2, w6, hrun, ho2, hgr, hor, hlt2⟩ := appendI (b := wr.heap.size) (c := 1) (x := (q : Int)) 42 ho (cellAt (by rw [← hz5]; exact heap_alloc_last (wr.setCell ⟨w.heap.size, q, none⟩ (.bool true)) (.cells #[.int .i64 q] 3)) 0 _ rfl) (by omega) (by simp; omega)
              have hup : upB f' q q = true := by simp [upB]
              rw [nvs_snoc, ← pickB_up, ← pickB_yes hup] at ho2
              have hh6 := (hgr.block w.heap.size (by simp; omega) hne).trans ((Below.heap_alloc _ (.cells #[.int .i64 q] 3) _ (by rw [hz5]; exact zw)).trans hs5)
              have hb6 := below_own (B := w.heap.size) ((hbw.setCell (Nat.le_refl _) (.bool true)).alloc (by rw [hz5]; exact hbw.size) (.cells #[.int .i64 q] 3)) ⟨ho.1, ho.2.imp id fun ⟨b, c, cu, h1, h2, h3⟩ => ⟨b, c, cu, h1, by omega, h3⟩⟩ hgr (by simp; omega)
              have hlen : (pickB f' q).length + 1 = (pickB (upB f' q) (q + 1)).length := by rw [pickB_yes hup, pickB_up]; simp
              rw [pickB_up] at ho2
              have HRun : Hid _ := hrun
              have HO2 : Hid _ := ho2
              have HH6 : Hid _ := hh6
              have HB6 : Hid _ := hb6
              have HF : Hid _ := hf
              have HP : Hid _ := hpf
              have HL : Hid _ := hlen
              have HA : Hid _ := hall
              clear ho hrun ho2 hh6 hb6 hgr hor hlt2 hh hown hbw hne hf hpf hlen hall hs5 hz5 hup
              go_wp2_with (at_builtin; refine wpList_append_run rfl _ _ 42 rfl _ _ _ _ rfl rfl HRun.out ?_)
              refine ⟨⟨q + 1, p + 1, upB f' q, g2, cap2, by omega, by go_num, by go_num, by rw [cntB_up HF.out hlt, HP.out], by omega, .inl fun x hx => ?_, HB6.out, HH6.out, by rw [HL.out], by rw [← HL.out]; exact HO2.out⟩, by simp [intOf]; omega⟩
              rcases HA.out with h | h
              · by_cases e : x = q
                · subst e; simp [upB]
                · simp [upB, h x (by omega)]
              · omega
            · have hpp : pickB f' (q + 1) = pickB f' q := pickB_no hf
              have HO2 : Hid _ := hown
              have HH6 : Hid _ := hh
              have HB6 : Hid _ := hbw
              have HP : Hid _ := hpf
              have HL : Hid _ := hpp
              clear hh hown hbw hne hf hpf hall hpp
              go_wp2
              exact ⟨⟨q + 1, p, f', g, cap, by omega, by go_num, rfl, HP.out, by omega, .inr (by omega), HB6.out, HH6.out, by rw [HL.out], by rw [HL.out]; exact HO2.out⟩, by simp [intOf]; omega⟩
        · obtain rfl : q = n := by omega
          have hkk : (pickB f' q).length = k := by
            show cntB f' q = k
            rcases hall with h | h
            · have := cntB_all h; omega
            · omega
          rw [hkk] at hown ⊢
          have HO2 : Hid _ := hown
          have HB6 : Hid _ := hbw
          have HK : Hid _ := hkk
          clear hown hbw hkk hall hh hpf
          go_wp2
          go_ret
          exact ⟨g, cap, pickB f' q, rfl, pickB_sorted _ _, HK.out, pickB_lt, ⟨HO2.out.1, HO2.out.2.imp id fun ⟨b, c, cu, h1, h2, h3⟩ => ⟨b, c, cu, h1, by omega, h3⟩⟩, HB6.out⟩
end Go.Proofs.YtokepcikpkffpaaDoor

/- What Inverse of package solve answers, of all matrices. -/
namespace Go.Proofs.YtokepcikpkffpaaDoor
open Go.RowKit Gf
set_option linter.unusedVariables false
set_option maxRecDepth 20000
def slX (n : Nat) (g : Nat → Value) : Array Value := ((List.range n).map g).toArray
theorem slX_size (n : Nat) (g : Nat → Value) : (slX n g).size = n := by simp [slX]
theorem slX_at {n k : Nat} {g : Nat → Value} (h : k < n) : (slX n g)[k]? = some (g k) := by simp [slX, h]
theorem slX_set {n k : Nat} {g : Nat → Value} (v : Value) (h : k < n) : (slX n g).setIfInBounds k v = slX n (fun x => if x = k then v else g x) := by
  apply Array.ext_getElem?
  intro i
  rw [Array.getElem?_setIfInBounds]
  by_cases hi : i < n
  · rw [slX_at hi, slX_at hi, slX_size]
    by_cases e : k = i
    · subst e; simp [hi]
    · simp [e, show ¬ i = k from fun h => e h.symm]
  · rw [Array.getElem?_eq_none (by rw [slX_size]; omega), Array.getElem?_eq_none (by rw [slX_size]; omega), slX_size]
    simp; omega
theorem augL_one {n : Nat} {xs : List F} : ∀ i, i < n → ∀ j, j < n + n → augL n n xs (oneM n) i j = augI n (cellF n xs) i j := fun i hi j hj => by
  simp only [augL, augI, cellF]
  by_cases h : j < n
  · rw [if_pos h, if_pos h]
  · rw [if_neg h, if_neg h, oneM, at8_grid hi (by omega)]
    by_cases e : i = j - n
    · rw [if_pos e, if_pos (by omega)]
    · rw [if_neg e, if_neg (by omega)]
theorem row8T_tail {w : World} {b off n c : Nat} {f : Nat → F} (h : Row8T w (some ⟨b, off, none⟩) (rowF (c + n) f)) (hn : 0 < n) : Row8T w (some ⟨b, off + c, none⟩) (rowF n fun j => f (c + j)) := by
  rcases h with e | ⟨b', off', cs, fr, e, hb, h⟩
  · have := congrArg List.length e
    rw [rowF_len] at this
    simp at this; omega
  · cases e
    refine .inr ⟨b, off + c, cs, fr, rfl, hb, fun j hj => ?_⟩
    rw [rowF_len] at hj
    have := h (c + j) (by rw [rowF_len]; omega)
    rw [at8_rowF (by omega)] at this
    rw [at8_rowF hj, Nat.add_assoc]
    exact this
/-- a matrix that undoes another one, on either side -/
structure InvOf (n : Nat) (A B : Mt) : Prop where
  right : ∀ i, i < n → ∀ j, j < n → mulF n A B i j = if i = j then 1 else 0
  left : ∀ i, i < n → ∀ j, j < n → mulF n B A i j = if i = j then 1 else 0
set_option maxHeartbeats 8000000 in
theorem inverse_F (n l cap : Nat) (a : Option Addr) (xs : List F) (w : World) (hn : n ≤ 64) (hl : l = n * n) (hx : xs.length = n * n) (hcap : l ≤ cap) (hX : Row8 w a xs) (hnil : a = none → cap = 0) (s : Addr) (hs : w.cell? ⟨3, 0, none⟩ = some (errAt s)) :
    Calls Tryd.prog 23 #[.agg #[.int .i64 n, .int .i64 n, .slice a l cap]] w fun e w' =>
      ((pivL (cellF n xs) n n).length = n ∧ ∃ g m Y, e = .returned (.tuple #[.agg #[.int .i64 n, .int .i64 n, .slice (some ⟨g, 0, none⟩) m m], .nilIface]) ∧ m = n * n ∧ w.heap.size ≤ g ∧ w'.heap[g]? = some (.cells (vfs (grid n Y n)) 5 (0, 0)) ∧ InvOf n (cellF n xs) Y ∧ Below w.heap.size w w') ∨
      ((pivL (cellF n xs) n n).length ≠ n ∧ e = .returned (.tuple #[.agg #[.int .i64 0, .int .i64 0, .slice none 0 0], errAt s]) ∧ Below w.heap.size w w') := by
  have HL : Hid _ := hl
  have HX : Hid _ := hx
  have HRX : Hid (Row8 w a xs) := hX
  have HNA : Hid _ := hnil
  have HS : Hid _ := hs
  have hlt0 := World.block_lt_of_cell? w _ hs
  simp at hlt0
  clear hl hx hX hnil hs
  go_enter Tryd.func23, Tryd.ntmps23
  go_wp2_with fail
  refine Calls.mono (one_F n _ hn) ?_
  rintro e w2 ⟨g1, n1, rfl, hn1, hg1, hh1, hb2⟩
  have hal := (((Below.refl w.heap.size w).alloc (Nat.le_refl _) (.cells #[.int .i64 n, .int .i64 n, .slice a l cap] 30)).alloc (by simp) (.cells #[.int .i64 0, .int .i64 0, .slice none 0 0] 30))
  have hA := holds_cons (holds_later (holds_new (holds_new (holds_nil w) #[.int .i64 n, .int .i64 n, .slice a l cap] 30) #[.int .i64 0, .int .i64 0, .slice none 0 0] 30) hb2) hh1
  rw [World.size_alloc] at hA
  have HW2 : Hid (Below w.heap.size w w2) := hal.trans (hb2.mono (by simp; omega))
  have hA := holds_new hA #[.int .i64 n, .int .i64 n, .slice (some ⟨g1, 0, none⟩) n1 n1] 30
  have HW3 : Hid (Below w.heap.size w (w2.alloc (.cells #[.int .i64 n, .int .i64 n, .slice (some ⟨g1, 0, none⟩) n1 n1] 30))) := HW2.out.alloc HW2.out.size _
  have hsz : w.heap.size + 2 ≤ w2.heap.size := by have := hb2.size; simpa using this
  have c1 := cellAt (holds_at hA 0 rfl) 0 _ rfl
  have c2 := cellAt (holds_at hA 0 rfl) 1 _ rfl
  have c3 := cellAt (holds_at hA 0 rfl) 2 _ rfl
  have c4 := cellAt (holds_at hA 3 rfl) 0 _ rfl
  have c5 := cellAt (holds_at hA 3 rfl) 1 _ rfl
  have c6 := cellAt (holds_at hA 3 rfl) 2 _ rfl
  have HA : Hid _ := hA
  have HN1 : Hid _ := hn1
  clear hn1 hh1 hb2 hA HW2 hal
  go_wp2_with fail
  refine Calls.mono (eliminated_F n n n l cap n1 n1 a (some ⟨g1, 0, none⟩) xs (oneM n) _ hn hn hn HL.out HX.out hcap (row8_below HRX.out HW3.out) HNA.out HN1.out (by simp [oneM, grid_len]) (Nat.le_refl _) (holds_row HA.out 1 rfl) (fun h => by cases h)) ?_
  rintro e w4 ⟨M, av, cv, p, f', R', rfl, hM, hown, hrw, hred, hin, hback, hb4⟩
  have hA := holds_later HA.out hb4
  have hp : p = pivL (cellF n xs) n n := (hred.eq hin hback (by omega)).trans (pivL_congr fun i hi j hj => by simp [augL, cellF, hj])
  have hin2 := RowsIn.congr_right hin (A' := augI n (cellF n xs)) fun i hi j hj => (augL_one i hi j hj).symm
  have hback2 := RowsIn.congr_left hback (B' := augI n (cellF n xs)) fun i hi j hj => (augL_one i hi j hj).symm
  have HP : Hid _ := hp
  have HRW : Hid _ := hrw
  have HRED : Hid _ := hred
  have HIN : Hid _ := hin2
  have HBACK : Hid _ := hback2
  have HA4 : Hid _ := hA
  have HW4 : Hid (Below w.heap.size w w4) := HW3.out.trans (hb4.mono HW3.out.size)
  have hM2 : w2.heap.size + 1 ≤ M := by simpa using hM
  have hplen := hred.len
  have c1' := cellAt (holds_at hA 3 rfl) 1 _ rfl
  have k1 := holds_at hA 2 rfl
  clear hA hown hrw hred hin hback hin2 hback2 hb4 hp c1 c2 c3 c4 c5 c6 hM
  by_cases hfull : p.length = n
  · have HFULL : Hid _ := hfull
    rw [hfull]
    clear hfull
    go_wp2
    go_loopw [40] (fun i wr => ∃ (k : Nat) (g : Nat → Value), k ≤ n ∧ i = .int .i64 k ∧ w4.grownBy wr (some M) ∧ wr.heap[M]? = some (.cells (slX n g) 28 (0, 0)) ∧
      (∀ x, x < k → ∃ a' cap', g x = .slice a' n cap' ∧ Row8T wr a' (rowF n fun j => R' x (n + j))) ∧ ∀ x, k ≤ x → x < n → g x = .slice (f' x).1 (n + n) (f' x).2) (fun i _ => n - (intOf i).toNat)
    case atStart => exact ⟨0, fun x => .slice (f' x).1 (n + n) (f' x).2, by omega, rfl, World.grownBy.refl _ _, HRW.out.blk, fun x h => by omega, fun x _ _ => rfl⟩
    case round =>
      obtain ⟨k, g, hk, rfl, hgb, hs, hdone, hrest⟩ := hrel
      have HGB : Hid _ := hgb
      have HSS : Hid _ := hs
      have HDONE : Hid _ := hdone
      have HREST : Hid _ := hrest
      have zM := ltHeap HRW.out.blk
      have z0 := ltHeap (holds_at HA4.out 3 rfl)
      have c2 := cellAt (grown_block hgb (holds_at HA4.out 3 rfl) (by omega)) 1 _ rfl
      by_cases hlt : k < n
      · have c3 := cellAt hs k _ (slX_at hlt)
        rw [hrest k (Nat.le_refl _) hlt] at c3
        obtain ⟨bo, oo, mo, hfo, hmo, hboM, hbo, _, _⟩ := HRW.out.get hlt (show 0 < n + n by omega)
        rw [hfo] at c3
        have d3 : wr.frozen? ⟨M, k, none⟩ = false := frozen_of_row _ _ _ _ _ hs
        have HFO : Hid _ := hfo
        have hmn : n < mo := by omega
        have hNE : NoElems wr (some M) := noElems_some hs (by decide)
        have hgS : wr.grownBy (wr.setCell ⟨M, k, none⟩ (.slice (some ⟨bo, oo + n, none⟩) n (mo - n))) (some M) := grownBy_setCell (World.grownBy.refl _ _) _
        have hrow := row8T_grown (HRW.out.row k hlt) hgb (noElems_some HRW.out.blk (by decide))
        rw [hfo] at hrow
        have HROW : Hid _ := row8T_grown (row8T_tail hrow (by omega)) hgS hNE
        have HS1 : Hid ((wr.setCell ⟨M, k, none⟩ (.slice (some ⟨bo, oo + n, none⟩) n (mo - n))).heap[M]? = some (.cells (slX n fun x => if x = k then .slice (some ⟨bo, oo + n, none⟩) n (mo - n) else g x) 28 (0, 0))) := by
          show _ = _
          rw [heap_setCell_same _ _ _ _ _ _ hs, slX_set _ hlt]
        have HGS : Hid _ := hgS
        have HNE : Hid _ := hNE
        clear hgb hs hdone hrest hfo hgS hNE hrow
        go_wp2
        refine ⟨⟨k + 1, _, by omega, by go_num, grownBy_setCell HGB.out _, HS1.out, fun x hx => ?_, fun x h1 h2 => ?_⟩, by simp [intOf]; omega⟩
        · by_cases e : x = k
          · subst e
            rw [if_pos rfl]
            exact ⟨_, _, rfl, HROW.out⟩
          · rw [if_neg e]
            obtain ⟨a', cap', h1, h2⟩ := HDONE.out x (by omega)
            exact ⟨a', cap', h1, row8T_grown h2 HGS.out HNE.out⟩
        · show (if x = k then _ else g x) = _
          rw [if_neg (by omega)]
          exact HREST.out x (by omega) h2
      · obtain rfl : k = n := by omega
        have hW : Below w.heap.size w wr := below_grown HW4.out hgb (by omega)
        have HW5 : Hid _ := hW
        have hA5 : Holds wr [(w.heap.size + 1, .cells #[.int .i64 0, .int .i64 0, .slice none 0 0] 30 (0, 0))] := holds_cons (holds_nil _) (grown_block hgb (holds_at HA4.out 2 rfl) (by omega))
        have HA5 : Hid _ := hA5
        clear hgb hs hdone hrest hA5 hW
        have HR8 : Hid (Rows8 wr (some ⟨M, 0, none⟩) ((List.range k).map fun x => rowF k fun j => R' x (k + j))) := .inr ⟨M, 0, rfl, fun j x hx => by
          simp only [List.getElem?_map, Option.map_eq_some_iff] at hx
          obtain ⟨i, hi, rfl⟩ := hx
          obtain ⟨hjk, hi2⟩ := List.getElem?_eq_some_iff.1 hi
          simp only [List.length_range] at hjk
          simp only [List.getElem_range] at hi2
          subst hi2
          obtain ⟨a', cap', h1, h2⟩ := HDONE.out j hjk
          refine ⟨a', cap', ?_, h2.row8⟩
          rw [Nat.zero_add, rowF_len, ← h1]
          exact cellAt HSS.out j _ (slX_at hjk)⟩
        go_wp2_with fail
        refine Calls.mono (of_F k k k _ ((List.range k).map fun x => rowF k fun j => R' x (k + j)) _ hn (by simp) hn (fun x hx => ?_) HR8.out) ?_
        · obtain ⟨i, _, rfl⟩ := List.mem_map.1 hx
          exact rowF_len _ _
        rintro e w5 ⟨g5, m5, rfl, hm5, hg5, hh5, hb5⟩
        rw [← grid_flat k (fun x j => R' x (k + j))] at hh5
        have k1 := holds_at (holds_later HA5.out hb5) 0 rfl
        have c4 := cellAt k1 0 _ rfl
        have c5 := cellAt k1 1 _ rfl
        have c6 := cellAt k1 2 _ rfl
        have d4 : w5.frozen? ⟨w.heap.size + 1, 0, none⟩ = false := frozen_of_row _ _ _ _ _ k1
        have d5 : w5.frozen? ⟨w.heap.size + 1, 1, none⟩ = false := frozen_of_row _ _ _ _ _ k1
        have d6 : w5.frozen? ⟨w.heap.size + 1, 2, none⟩ = false := frozen_of_row _ _ _ _ _ k1
        have hgw : w.heap.size + 1 < g5 := by have := ltHeap (holds_at HA5.out 0 rfl); omega
        have HW6 : Hid (Below w.heap.size w w5) := HW5.out.trans (hb5.mono HW5.out.size)
        have HH5 : Hid _ := hh5
        have HM5 : Hid _ := hm5
        clear hh5 hm5 hb5 hg5 k1 c2
        go_wp2
        refine bodyPost_ret (v := .tuple #[.agg #[.int .i64 k, .int .i64 k, .slice (some ⟨g5, 0, none⟩) m5 m5], .nilIface]) (by simp [results, Tryd.results23, go_sem, c4, c5, c6]) rfl ?_
        refine .inl ⟨by rw [← HP.out]; exact HFULL.out, g5, m5, fun x j => R' x (k + j), rfl, HM5.out, by omega, ?_, ⟨inv_right HRED.out HFULL.out HBACK.out, inv_left HRED.out HFULL.out HIN.out⟩, ?_⟩
        · rw [heap_setCell_other _ _ _ _ (by show g5 ≠ w.heap.size + 1; omega), heap_setCell_other _ _ _ _ (by show g5 ≠ w.heap.size + 1; omega), heap_setCell_other _ _ _ _ (by show g5 ≠ w.heap.size + 1; omega)]
          exact HH5.out
        · exact ((HW6.out.setCell (by simp) _).setCell (by simp) _).setCell (by simp) _
  · have hlt : p.length < n := by omega
    have c4 := cellAt k1 0 _ rfl
    have c5 := cellAt k1 1 _ rfl
    have c6 := cellAt k1 2 _ rfl
    have d4 : w4.frozen? ⟨w.heap.size + 1, 0, none⟩ = false := frozen_of_row _ _ _ _ _ k1
    have d5 : w4.frozen? ⟨w.heap.size + 1, 1, none⟩ = false := frozen_of_row _ _ _ _ _ k1
    have d6 : w4.frozen? ⟨w.heap.size + 1, 2, none⟩ = false := frozen_of_row _ _ _ _ _ k1
    have c9 := cell_later HW4.out HS.out
    have HNF : Hid _ := hfull
    unfold errAt at *
    clear hfull k1
    go_wp2
    go_region
    go_wp2
    refine bodyPost_ret (v := .tuple #[.agg #[.int .i64 0, .int .i64 0, .slice none 0 0], .iface 85 (.pointer (some s))]) (by simp [results, Tryd.results23, go_sem, c4, c5, c6]) rfl ?_
    exact .inr ⟨by rw [← HP.out]; exact HNF.out, rfl, (((HW4.out.setCell (by simp) _).setCell (by simp) _).setCell (by simp) _).drew⟩
set_option maxHeartbeats 2000000 in
theorem inverse_bad (r c : Int) (l cap : Nat) (a : Option Addr) (w : World) (s : Addr) (hs : w.cell? ⟨1, 0, none⟩ = some (errAt s)) (h : ¬ (FormOk r c l ∧ r = c)) :
    Calls Tryd.prog 23 #[.agg #[.int .i64 r, .int .i64 c, .slice a l cap]] w fun e w' => e = .returned (.tuple #[.agg #[.int .i64 0, .int .i64 0, .slice none 0 0], errAt s]) ∧ Below w.heap.size w w' := by
  have H : Hid _ := h
  have hlt0 := World.block_lt_of_cell? w _ hs
  simp at hlt0
  have HS : Hid _ := cell?_alloc_old (.cells #[.int .i64 0, .int .i64 0, .slice none 0 0] 30) (cell?_alloc_old (.cells #[.int .i64 r, .int .i64 c, .slice a l cap] 30) hs)
  have hal := (((Below.refl w.heap.size w).alloc (Nat.le_refl _) (.cells #[.int .i64 r, .int .i64 c, .slice a l cap] 30)).alloc (by simp) (.cells #[.int .i64 0, .int .i64 0, .slice none 0 0] 30))
  clear h hs
  by_cases hc : 0 ≤ c ∧ c ≤ 64
  · obtain ⟨h0, h1⟩ := hc
    obtain ⟨n, rfl⟩ := Int.eq_ofNat_of_zero_le h0
    go_enter Tryd.func23, Tryd.ntmps23
    go_wp2_with fail
    refine Calls.mono (one_F n _ (by omega)) ?_
    rintro e w2 ⟨g1, n1, rfl, hn1, hg1, hh1, hb2⟩
    have hA := holds_cons (holds_later (holds_new (holds_new (holds_nil w) #[.int .i64 r, .int .i64 n, .slice a l cap] 30) #[.int .i64 0, .int .i64 0, .slice none 0 0] 30) hb2) hh1
    rw [World.size_alloc] at hA
    have HW2 : Hid (Below w.heap.size w w2) := hal.trans (hb2.mono (by simp; omega))
    have hA := holds_new hA #[.int .i64 n, .int .i64 n, .slice (some ⟨g1, 0, none⟩) n1 n1] 30
    have HW3 : Hid (Below w.heap.size w (w2.alloc (.cells #[.int .i64 n, .int .i64 n, .slice (some ⟨g1, 0, none⟩) n1 n1] 30))) := HW2.out.alloc HW2.out.size _
    have hsz : w.heap.size + 2 ≤ w2.heap.size := by have := hb2.size; simpa using this
    have c1 := cellAt (holds_at hA 0 rfl) 0 _ rfl
    have c2 := cellAt (holds_at hA 0 rfl) 1 _ rfl
    have c3 := cellAt (holds_at hA 0 rfl) 2 _ rfl
    have c4 := cellAt (holds_at hA 3 rfl) 0 _ rfl
    have c5 := cellAt (holds_at hA 3 rfl) 1 _ rfl
    have c6 := cellAt (holds_at hA 3 rfl) 2 _ rfl
    have HA : Hid _ := hA
    have HS3 : Hid _ := cell?_alloc_old (.cells #[.int .i64 n, .int .i64 n, .slice (some ⟨g1, 0, none⟩) n1 n1] 30) (cell_later hb2 HS.out)
    have HE : Hid (Calls Tryd.prog 37 #[.agg #[.int .i64 r, .int .i64 n, .slice a l cap], .agg #[.int .i64 n, .int .i64 n, .slice (some ⟨g1, 0, none⟩) n1 n1]] (w2.alloc (.cells #[.int .i64 n, .int .i64 n, .slice (some ⟨g1, 0, none⟩) n1 n1] 30)) fun e w' =>
        e = .returned (.tuple #[.slice none 0 0, .slice none 0 0, errAt s]) ∧ Below (w2.alloc (.cells #[.int .i64 n, .int .i64 n, .slice (some ⟨g1, 0, none⟩) n1 n1] 30)).heap.size (w2.alloc (.cells #[.int .i64 n, .int .i64 n, .slice (some ⟨g1, 0, none⟩) n1 n1] 30)) w') := by
      by_cases hf : FormOk r n l
      · obtain ⟨r', c', rfl, hc, h1, h2, h3⟩ := hf.nat
        have hc : n = c' := by omega
        subst hc
        exact eliminated_odd r' n n n l cap n1 n1 a _ _ s HS3.out h1 h2 h3 (fun e => H.out ⟨hf, e⟩)
      · exact eliminated_bad r n n n l cap n1 n1 a _ _ s HS3.out hf
    clear hn1 hh1 hb2 hA HW2 hal H
    go_wp2_with fail
    refine Calls.mono HE.out ?_
    rintro e w4 ⟨rfl, hb4⟩
    have k1 := holds_at (holds_later HA.out hb4) 2 rfl
    have HW4 : Hid (Below w.heap.size w w4) := HW3.out.trans (hb4.mono HW3.out.size)
    have b4 := cellAt k1 0 _ rfl
    have b5 := cellAt k1 1 _ rfl
    have b6 := cellAt k1 2 _ rfl
    have d4 : w4.frozen? ⟨w.heap.size + 1, 0, none⟩ = false := frozen_of_row _ _ _ _ _ k1
    have d5 : w4.frozen? ⟨w.heap.size + 1, 1, none⟩ = false := frozen_of_row _ _ _ _ _ k1
    have d6 : w4.frozen? ⟨w.heap.size + 1, 2, none⟩ = false := frozen_of_row _ _ _ _ _ k1
    unfold errAt at *
    clear k1 hb4 c1 c2 c3 c4 c5 c6 HE
    go_wp2
    refine bodyPost_ret (v := .tuple #[.agg #[.int .i64 0, .int .i64 0, .slice none 0 0], .iface 85 (.pointer (some s))]) (by simp [results, Tryd.results23, go_sem, b4, b5, b6]) rfl ?_
    exact ⟨rfl, ((HW4.out.setCell (by simp) _).setCell (by simp) _).setCell (by simp) _⟩
  · have HC : Hid _ := hc
    clear hc H
    go_enter Tryd.func23, Tryd.ntmps23
    go_wp2_with fail
    refine Calls.mono (one_bad c _ s HS.out HC.out) ?_
    rintro e w2 ⟨rfl, hb2⟩
    have hA := holds_later (holds_new (holds_new (holds_nil w) #[.int .i64 r, .int .i64 c, .slice a l cap] 30) #[.int .i64 0, .int .i64 0, .slice none 0 0] 30) hb2
    rw [World.size_alloc] at hA
    have HW2 : Hid (Below w.heap.size w w2) := hal.trans (hb2.mono (by simp; omega))
    have hA := holds_alloc hA (.cells #[.int .i64 0, .int .i64 0, .slice none 0 0] 30)
    have k1 := holds_at hA 0 rfl
    have b4 := cellAt k1 0 _ rfl
    have b5 := cellAt k1 1 _ rfl
    have b6 := cellAt k1 2 _ rfl
    have d4 : (w2.alloc (.cells #[.int .i64 0, .int .i64 0, .slice none 0 0] 30)).frozen? ⟨w.heap.size + 1, 0, none⟩ = false := frozen_of_row _ _ _ _ _ k1
    have d5 : (w2.alloc (.cells #[.int .i64 0, .int .i64 0, .slice none 0 0] 30)).frozen? ⟨w.heap.size + 1, 1, none⟩ = false := frozen_of_row _ _ _ _ _ k1
    have d6 : (w2.alloc (.cells #[.int .i64 0, .int .i64 0, .slice none 0 0] 30)).frozen? ⟨w.heap.size + 1, 2, none⟩ = false := frozen_of_row _ _ _ _ _ k1
    have HW3 : Hid (Below w.heap.size w (w2.alloc (.cells #[.int .i64 0, .int .i64 0, .slice none 0 0] 30))) := HW2.out.alloc HW2.out.size _
    unfold errAt at *
    clear hA k1 hb2
    go_wp2
    refine bodyPost_ret (v := .tuple #[.agg #[.int .i64 0, .int .i64 0, .slice none 0 0], .iface 85 (.pointer (some s))]) (by simp [results, Tryd.results23, go_sem, b4, b5, b6]) rfl ?_
    exact ⟨rfl, ((HW3.out.setCell (by simp) _).setCell (by simp) _).setCell (by simp) _⟩
end Go.Proofs.YtokepcikpkffpaaDoor

/- The walk of BaseAnyRows: at all numbers and picks. -/
namespace Go.Proofs.YtokepcikpkffpaaDoor
open Go.RowKit Gf
set_option linter.unusedVariables false
set_option maxRecDepth 20000
def gsBaseS : List Nat := [0, 1, 3, 2]
set_option maxHeartbeats 4000000 in
theorem any_bad (k r : Int) (ln cn : Nat) (an : Option Addr) (w : World) (hk0 : -9223372036854775808 ≤ k) (hk1 : k ≤ 9223372036854775807) (hr0 : -9223372036854775808 ≤ r) (hr1 : r ≤ 9223372036854775807) (s0 : Addr) (hs : w.cell? ⟨0, 0, none⟩ = some (errAt s0)) (h : ¬ LegalP k r) :
    Calls Tryd.prog 5 #[.int .i64 k, .int .i64 r, .slice an ln cn] w fun e w' => e = .returned (.bool true) ∧ Below w.heap.size w w' := by
  have HS : Hid _ := hs
  have H : Hid _ := h
  clear h hs
  go_enter Tryd.func5, Tryd.ntmps5
  go_wp2_with fail
  refine Calls.mono (alive4_ok _) ?_
  rintro e w1 ⟨rfl, hb⟩
  have HW1 : Hid _ := hb
  have HS1 : Hid _ := cell_later hb HS.out
  clear hb
  go_wp2_with fail
  refine Calls.mono (generator_bad k r _ s0 HS1.out hk0 hk1 hr0 hr1 H.out) ?_
  rintro e w2 ⟨rfl, hb⟩
  have HW2 : Hid (Below w.heap.size w (w2.alloc (.cells #[.int .i64 0, .int .i64 0, .slice none 0 0] 30))) := (HW1.out.trans (hb.mono HW1.out.size)).alloc (HW1.out.trans (hb.mono HW1.out.size)).size _
  have c9 := cell_later HW2.out HS.out
  have q := eq_same (w2.alloc (.cells #[.int .i64 0, .int .i64 0, .slice none 0 0] 30)) s0
  have hg : 0 < w2.heap.size := by
    have := World.block_lt_of_cell? _ _ HS.out
    have h2 := (HW1.out.trans (hb.mono HW1.out.size)).size
    simp at this; omega
  clear hb
  unfold errAt at *
  go_wp2_with fail
  refine Calls.mono (legal_no k r _ hk0 hk1 hr0 hr1 H.out) ?_
  rintro e w4 ⟨rfl, rfl⟩
  go_wp2
  go_ret
  exact ⟨rfl, HW2.out⟩
theorem takeM_grid {k n : Nat} {xs : List F} {A : Nat → Nat → F} {L : List Nat} (hn : ∀ x ∈ L, x < n) (hx : xs = grid k A n) : (takeM k xs (L.map fun i => ((i : Nat) : Int))).flatten = grid k (fun i j => A (L.getD i 0) j) L.length := by
  subst hx
  rw [grid_flat k (fun i j => A (L.getD i 0) j)]
  congr 1
  apply List.ext_getElem
  · simp [takeM]
  · intro i h1 h2
    have hi : i < L.length := by simpa [takeM] using h1
    have e : L.getD i 0 = L[i] := by simp [List.getD, hi]
    simp only [takeM, List.getElem_map, List.getElem_range, Int.toNat_natCast]
    rw [rowAt_grid (hn _ (List.getElem_mem hi)), e]
theorem takeM_rank {k n : Nat} {xs : List F} {L : List Nat} (hk : L.length = k) (hL : L.Pairwise (· < ·)) (hn : ∀ x ∈ L, x < n) (hx : xs = grid k (genF k) n) (hb : n ≤ 256) (hkn : k ≤ n) :
    (pivL (cellF k (takeM k xs (L.map fun i => ((i : Nat) : Int))).flatten) k k).length = k := by
  rw [takeM_grid hn hx, pivL_congr (B := fun i j => genF k (L.getD i 0) j) (fun i hi j hj => by
    rw [hk]; exact at8_grid hi hj)]
  exact rows_rank hL hk hn hb hkn
theorem take_yes (r c l cap ln cn : Nat) (a an : Option Addr) (xs : List F) (ns : List Int) (w : World) (hr : r ≤ 64) (hc : c ≤ 64) (hl : l = r * c) (hx : xs.length = r * c) (hcap : l ≤ cap) (hX : Row8 w a xs) (hnil : a = none → cap = 0)
    (hln : ln = ns.length) (hn : ln ≤ 64) (hN : RowI w an ns) (s : Addr) (hs : w.cell? ⟨2, 0, none⟩ = some (errAt s)) (hall : ∀ n ∈ ns, 0 ≤ n ∧ n < r) :
    Calls Tryd.prog 20 #[.agg #[.int .i64 r, .int .i64 c, .slice a l cap], .slice an ln cn] w fun e w' =>
      ∃ g m, e = .returned (.tuple #[.agg #[.int .i64 ln, .int .i64 c, .slice (some ⟨g, 0, none⟩) m m], .nilIface]) ∧ m = ln * c ∧ w.heap.size ≤ g ∧
        w'.heap[g]? = some (.cells (vfs (takeM c xs ns).flatten) 5 (0, 0)) ∧ Below w.heap.size w w' :=
  (take_F r c l cap ln cn a an xs ns w hr hc hl hx hcap hX hnil hln hn hN s hs).mono fun e w' h => h.elim (fun h => h.2) (fun h => absurd hall h.1)
theorem ne_of_kind {w : World} {a b : Nat} {cs ds : Array Value} {t u : TypeId} {f1 f2 : Nat × Nat} (h1 : w.heap[a]? = some (.cells cs t f1)) (h2 : w.heap[b]? = some (.cells ds u f2)) (h : t ≠ u) : a ≠ b := fun e => by
  subst e; rw [h1] at h2; cases h2; exact h rfl
theorem store3 {w : World} {N : Nat} {c0 c1 c2 v0 v1 v2 : Value} {t : TypeId} (h : w.heap[N]? = some (.cells #[c0, c1, c2] t (0, 0))) :
    (((w.setCell ⟨N, 0, none⟩ v0).setCell ⟨N, 1, none⟩ v1).setCell ⟨N, 2, none⟩ v2).heap[N]? = some (.cells #[v0, v1, v2] t (0, 0)) := by
  rw [heap_setCell_same _ _ _ _ _ _ (heap_setCell_same _ _ _ _ _ _ (heap_setCell_same _ _ _ _ _ _ h))]; rfl
theorem store3_other {w : World} {N k : Nat} {v0 v1 v2 : Value} {o : Obj} (h : w.heap[k]? = some o) (hne : k ≠ N) :
    (((w.setCell ⟨N, 0, none⟩ v0).setCell ⟨N, 1, none⟩ v1).setCell ⟨N, 2, none⟩ v2).heap[k]? = some o := by
  rw [heap_setCell_other _ _ _ _ (by show k ≠ N; exact hne), heap_setCell_other _ _ _ _ (by show k ≠ N; exact hne), heap_setCell_other _ _ _ _ (by show k ≠ N; exact hne)]; exact h
theorem nvs_map (L : List Nat) : nvs L = (L.map fun i => ((i : Nat) : Int)).map (Value.int .i64) := by simp [nvs]
set_option maxHeartbeats 4000000 in
theorem any_ok (k r ln cn : Nat) (an : Option Addr) (ns : List Int) (w : World) (s1 s2 s3 : Addr) (hs1 : w.cell? ⟨1, 0, none⟩ = some (errAt s1)) (hs2 : w.cell? ⟨2, 0, none⟩ = some (errAt s2)) (hs3 : w.cell? ⟨3, 0, none⟩ = some (errAt s3)) (h1 : 1 ≤ k) (h2 : 2 ≤ r) (h3 : k + r ≤ 16)
    (hln : ln = ns.length) (hm : ln ≤ 140737488355328) (hI : RowI w an ns) (hbd : ∀ x ∈ ns, -9223372036854775808 ≤ x ∧ x ≤ 9223372036854775807) :
    Calls Tryd.prog 5 #[.int .i64 k, .int .i64 r, .slice an ln cn] w fun e w' => e = .returned (.bool true) ∧ Below w.heap.size w w' := by
  have HS1 : Hid _ := hs1
  have HS2 : Hid _ := hs2
  have HS3 : Hid _ := hs3
  have HLN : Hid _ := hln
  have HI : Hid _ := hI
  have HBD : Hid _ := hbd
  clear hs1 hs2 hs3 hln hI hbd
  go_enter Tryd.func5, Tryd.ntmps5
  go_wp2_with fail
  refine Calls.mono (alive4_ok _) ?_
  rintro e w1 ⟨rfl, hb⟩
  have HW1 : Hid _ := hb
  clear hb
  go_wp2_with fail
  refine Calls.mono (generator_F k r _ s1 (cell_later HW1.out HS1.out) h1 h2 h3) ?_
  rintro e w2 ⟨g, m, rfl, hm2, hg, hh, hb⟩
  obtain ⟨p, hp⟩ : ∃ p, p = k + r := ⟨_, rfl⟩
  rw [← hp] at hm2
  have e9 : ((k + r : Nat) : Int) = p := by rw [hp]
  have e8 : (k : Int) + (r : Int) = p := by rw [hp]; simp
  rw [e9]
  have hpn : ((p : Int) != (k : Int) + (r : Int)) = false := by rw [e8]; simp
  have HM : Hid _ := hm2
  have HPP : Hid _ := hp
  have hA2 := holds_new (holds_cons (holds_nil w2) hh) #[.int .i64 p, .int .i64 k, .slice (some ⟨g, 0, none⟩) m m] 30
  have HA2 : Hid _ := hA2
  have HW2 : Hid (Below w.heap.size w (w2.alloc (.cells #[.int .i64 p, .int .i64 k, .slice (some ⟨g, 0, none⟩) m m] 30))) := (HW1.out.trans (hb.mono HW1.out.size)).alloc (HW1.out.trans (hb.mono HW1.out.size)).size _
  have c1 := cellAt (holds_at hA2 0 rfl) 0 _ rfl
  clear hb HW1 hh hg hA2 e9 hm2 hp
  go_wp2_with fail
  refine Calls.mono (legal_yes k r _ h1 h2 h3) ?_
  rintro e w4 ⟨rfl, rfl⟩
  clear c1
  generalize hN : w2.heap.size = N at *
  generalize hW : (w2.alloc (.cells #[.int .i64 p, .int .i64 k, .slice (some ⟨g, 0, none⟩) m m] 30)) = w3 at *
  clear hN hW
  have c1 := cellAt (holds_at HA2.out 0 rfl) 0 _ rfl
  have zN := ltHeap (holds_at HA2.out 0 rfl)
  go_upto_region 8 with fail
  go_cut [8, 9] (fun s8 s9 wx => ∃ (N' g' m' : Nat) (L : List Nat), s8 = .nilIface ∧ s9 = .pointer (some ⟨N', 0, none⟩) ∧ wx.heap[N']? = some (.cells #[.int .i64 k, .int .i64 k, .slice (some ⟨g', 0, none⟩) m' m'] 30 (0, 0)) ∧ m' = k * k ∧ wx.heap[g']? = some (.cells (vfs (takeM k (genM k r) (L.map fun i => ((i : Nat) : Int))).flatten) 5 (0, 0)) ∧ L.Pairwise (· < ·) ∧ L.length = k ∧ (∀ x ∈ L, x < p) ∧ Below w3.heap.size w3 wx)
  case first =>
    clear hpn
    have c2 := boxB (B := w3.heap.size) (holds_at HA2.out 0 rfl) zN 0 _ rfl
    have c3 := boxB (B := w3.heap.size) (holds_at HA2.out 0 rfl) zN 1 _ rfl
    have c4 := boxB (B := w3.heap.size) (holds_at HA2.out 0 rfl) zN 2 _ rfl
    clear c1
    have hR : Below w3.heap.size w3 w3.drew := (Below.refl _ _).drew
    have e8' : IntKind.i64.wrap (p : Int) = p := IntWalk.i64_in _ (by have := HPP.out; omega)
    refine wp_region_noPanic ?_
    refine wp_region_held_drew (S := fun u => Below w3.heap.size w3 u) (by kernel_rfl) ?_ (fun hHeld => ?_)
    · exact hR
    refine wpAnyH_take (i := 0) (oi := { dst := some 46, op := Op.load 30 (Operand.tmp 7), type := 30, pos := "law.go:99", after := #[], guard := none }) (v := ?_) rfl (by kernel_rfl) (by kernel_rfl) (by kernel_rfl) (fun _ _ _ h => h) (Or.inl ⟨by rfl, ?_⟩) hHeld ?_
    rotate_left
    · intro u hSw
      have q0 := c2 u hSw
      have q1 := c3 u hSw
      have q2 := c4 u hSw
      go_simp
      try with_reducible rfl
    try simp only [Act.put, List.setIfInBounds_toArray, List.set_cons_zero, List.set_cons_succ]
    refine wpAnyH_take (i := 1) (oi := { dst := some 47, op := Op.move (Operand.tmp 0), type := 3, pos := "law.go:99", after := #[], guard := none }) (v := ?_) rfl (by kernel_rfl) (by kernel_rfl) (by kernel_rfl) (fun _ _ _ h => h) (Or.inl ⟨by rfl, ?_⟩) hHeld ?_
    rotate_left
    · intro u hSw
      go_simp
      try with_reducible rfl
    try simp only [Act.put, List.setIfInBounds_toArray, List.set_cons_zero, List.set_cons_succ]
    refine wpAnyH_take (i := 2) (oi := { dst := some 48, op := Op.move (Operand.tmp 1), type := 3, pos := "law.go:99", after := #[], guard := none }) (v := ?_) rfl (by kernel_rfl) (by kernel_rfl) (by kernel_rfl) (fun _ _ _ h => h) (Or.inl ⟨by rfl, ?_⟩) hHeld ?_
    rotate_left
    · intro u hSw
      go_simp
      try with_reducible rfl
    try simp only [Act.put, List.setIfInBounds_toArray, List.set_cons_zero, List.set_cons_succ]
    refine wpAnyH_take (i := 3) (oi := { dst := some 49, op := Op.binOp BinOp.add 3 (Operand.tmp 47) (Operand.tmp 48) 3, type := 3, pos := "law.go:99", after := #[{ on := 1, ground := Ground.data }, { on := 2, ground := Ground.data }], guard := none }) (v := ?_) rfl (by kernel_rfl) (by kernel_rfl) (by kernel_rfl) (fun _ _ _ h => h) (Or.inl ⟨by rfl, ?_⟩) hHeld ?_
    rotate_left
    · intro u hSw
      have q := e8
      go_simp
      try with_reducible rfl
    try simp only [Act.put, List.setIfInBounds_toArray, List.set_cons_zero, List.set_cons_succ]
    refine wpAnyH_take (i := 4) (oi := { dst := some 50, op := Op.move (Operand.tmp 0), type := 3, pos := "law.go:99", after := #[], guard := none }) (v := ?_) rfl (by kernel_rfl) (by kernel_rfl) (by kernel_rfl) (fun _ _ _ h => h) (Or.inl ⟨by rfl, ?_⟩) hHeld ?_
    rotate_left
    · intro u hSw
      go_simp
      try with_reducible rfl
    try simp only [Act.put, List.setIfInBounds_toArray, List.set_cons_zero, List.set_cons_succ]
    refine wpAnyH_take (i := 5) (oi := { dst := some 51, op := Op.move (Operand.tmp 2), type := 42, pos := "law.go:99", after := #[], guard := none }) (v := ?_) rfl (by kernel_rfl) (by kernel_rfl) (by kernel_rfl) (fun _ _ _ h => h) (Or.inl ⟨by rfl, ?_⟩) hHeld ?_
    rotate_left
    · intro u hSw
      go_simp
      try with_reducible rfl
    try simp only [Act.put, List.setIfInBounds_toArray, List.set_cons_zero, List.set_cons_succ]
    refine wpAnyH_ready (rs := [6, 11]) (by kernel_rfl) (by simp) ?_
    refine (AllReadyH.cons (o := { dst := some 52, op := Op.call { callee := Callee.value (Operand.func 21), args := #[Operand.tmp 49, Operand.tmp 50, Operand.tmp 51], argTypes := #[3, 3, 42] }, type := 42, pos := "law.go:99", after := #[{ on := 3, ground := Ground.data }, { on := 4, ground := Ground.data }, { on := 5, ground := Ground.data }], guard := none }) rfl (fun K hK => ?_) (AllReadyH.cons (o := { dst := some 9, op := Op.alloc 30, type := 0, pos := "law.go:99", after := #[], guard := none }) rfl (fun K hK => ?_) AllReadyH.nil))
    · go_simp
      refine Calls.mono (chosen_F p k ln cn an ns _ (by omega) (by omega) h1 (by omega) HLN.out hm (rowI_below HI.out (HW2.out.trans (Below.mono hR HW2.out.size))) HBD.out) ?_
      rintro e wi ⟨gL, cL, L, rfl, hL1, hL2, hL3, hL4, hbi⟩
      have HTi : Hid (Below w3.heap.size w3 wi) := Below.trans hR (Below.mono hbi (below_size hR))
      have HR : Hid (RowI wi (some ⟨gL, 0, none⟩) (L.map fun i => ((i : Nat) : Int))) := rowI_own (by rw [← nvs_map]; exact hL4)
      have HL1 : Hid _ := hL1
      have HL2 : Hid _ := hL2
      have HL3 : Hid _ := hL3
      clear hL1 hL2 hL3 hL4 hbi
      go_wp2_with fail
      refine hK.out _ _ ?_ (fun hHeld => ?_)
      · exact HTi.out
      clear hK K
      try simp only [Act.put, List.setIfInBounds_toArray, List.set_cons_zero, List.set_cons_succ]
      refine wpAnyH_ready (rs := [7, 11]) (by kernel_rfl) (by simp) ?_
      refine (AllReadyH.cons (o := { dst := some 53, op := Op.call { callee := Callee.value (Operand.func 20), args := #[Operand.tmp 46, Operand.tmp 52], argTypes := #[30, 42] }, type := 31, pos := "law.go:99", after := #[{ on := 0, ground := Ground.data }, { on := 6, ground := Ground.data }, { on := 6, ground := Ground.chain }], guard := none }) rfl (fun K hK => ?_) (AllReadyH.cons (o := { dst := some 9, op := Op.alloc 30, type := 0, pos := "law.go:99", after := #[], guard := none }) rfl (fun K hK => ?_) AllReadyH.nil))
      · go_simp
        refine Calls.mono (take_yes p k m m k cL (some ⟨g, 0, none⟩) (some ⟨gL, 0, none⟩) (genM k r) (L.map fun i => ((i : Nat) : Int)) _ (by omega) (by omega) HM.out (by rw [genM_len, HPP.out]) (Nat.le_refl _) (row8_below (holds_row HA2.out 1 rfl) HTi.out) (fun h => by cases h) (by rw [List.length_map]; exact HL2.out.symm) (by omega) HR.out s2 (cell_later (HW2.out.trans (Below.mono HTi.out HW2.out.size)) HS2.out) (fun n hn => by obtain ⟨i, hi, rfl⟩ := List.mem_map.1 hn; have := HL3.out i hi; omega)) ?_
        rintro e wj ⟨g', m', rfl, hm', hg', hh', hbj⟩
        have HTj : Hid (Below w3.heap.size w3 wj) := Below.trans HTi.out (Below.mono hbj (below_size HTi.out))
        have HM' : Hid _ := hm'
        have HH' : Hid _ := hh'
        clear hm' hg' hh' hbj
        go_wp2_with fail
        refine hK.out _ _ ?_ (fun hHeld => ?_)
        · exact HTj.out
        clear hK K
        try simp only [Act.put, List.setIfInBounds_toArray, List.set_cons_zero, List.set_cons_succ]
        refine wpAnyH_take (i := 8) (oi := { dst := some 45, op := Op.move (Operand.tmp 53), type := 31, pos := "law.go:99", after := #[{ on := 7, ground := Ground.data }], guard := none }) (v := ?_) rfl (by kernel_rfl) (by kernel_rfl) (by kernel_rfl) (fun _ _ _ h => h) (Or.inl ⟨by rfl, ?_⟩) hHeld ?_
        rotate_left
        · intro u hSw
          go_simp
          try with_reducible rfl
        try simp only [Act.put, List.setIfInBounds_toArray, List.set_cons_zero, List.set_cons_succ]
        refine wpAnyH_take (i := 9) (oi := { dst := some 54, op := Op.extract (Operand.tmp 45) 0, type := 30, pos := "law.go:99", after := #[{ on := 8, ground := Ground.data }], guard := none }) (v := ?_) rfl (by kernel_rfl) (by kernel_rfl) (by kernel_rfl) (fun _ _ _ h => h) (Or.inl ⟨by rfl, ?_⟩) hHeld ?_
        rotate_left
        · intro u hSw
          go_simp
          try with_reducible rfl
        try simp only [Act.put, List.setIfInBounds_toArray, List.set_cons_zero, List.set_cons_succ]
        refine wpAnyH_take (i := 10) (oi := { dst := some 55, op := Op.extract (Operand.tmp 45) 1, type := 24, pos := "law.go:99", after := #[{ on := 8, ground := Ground.data }, { on := 12, ground := Ground.gcOnly Departure.lateStores }], guard := none }) (v := ?_) rfl (by kernel_rfl) (by kernel_rfl) (by kernel_rfl) (fun _ _ _ h => h) (Or.inl ⟨by rfl, ?_⟩) hHeld ?_
        rotate_left
        · intro u hSw
          go_simp
          try with_reducible rfl
        try simp only [Act.put, List.setIfInBounds_toArray, List.set_cons_zero, List.set_cons_succ]
        refine wpAnyH_ready (rs := [11]) (by kernel_rfl) (by simp) ?_
        refine (AllReadyH.cons (o := { dst := some 9, op := Op.alloc 30, type := 0, pos := "law.go:99", after := #[], guard := none }) rfl (fun K hK => ?_) AllReadyH.nil)
        go_simp
        have HTz : Hid (Below w3.heap.size w3 (wj.alloc (.cells #[.int .i64 0, .int .i64 0, .slice none 0 0] 30))) := Below.alloc HTj.out (below_size HTj.out) _
        have HZ : Hid ((wj.alloc (.cells #[.int .i64 0, .int .i64 0, .slice none 0 0] 30)).heap[wj.heap.size]? = some (.cells #[.int .i64 0, .int .i64 0, .slice none 0 0] 30 (0, 0))) := heap_alloc_last _ _
        have HRz : Hid _ := rowI_below HR.out ((Below.refl _ _).alloc (Nat.le_refl _) (.cells #[.int .i64 0, .int .i64 0, .slice none 0 0] 30))
        have HHz : Hid _ := (Below.heap_alloc wj (.cells #[.int .i64 0, .int .i64 0, .slice none 0 0] 30) _ (ltHeap HH'.out)).trans HH'.out
        refine hK.out _ _ ?_ (fun hHeld => ?_)
        · exact HTz.out
        clear hK K
        try simp only [Act.put, List.setIfInBounds_toArray, List.set_cons_zero, List.set_cons_succ]
        refine wpAnyH_ready (rs := [12]) (by kernel_rfl) (by simp) ?_
        refine (AllReadyH.cons (o := { dst := none, op := Op.store 30 (Operand.tmp 9) (Operand.tmp 54), type := 0, pos := "law.go:99", after := #[{ on := 11, ground := Ground.data }, { on := 9, ground := Ground.data }, { on := 7, ground := Ground.chain }, { on := 0, ground := Ground.phase }, { on := 1, ground := Ground.phase }, { on := 2, ground := Ground.phase }, { on := 3, ground := Ground.phase }, { on := 4, ground := Ground.phase }, { on := 5, ground := Ground.phase }, { on := 6, ground := Ground.phase }, { on := 7, ground := Ground.phase }, { on := 8, ground := Ground.phase }, { on := 9, ground := Ground.phase }, { on := 10, ground := Ground.textOnly Departure.lateStores }, { on := 11, ground := Ground.phase }], guard := none }) rfl (fun K hK => ?_) AllReadyH.nil)
        have HX : Hid _ := heap_alloc_last wj (.cells #[.int .i64 k, .int .i64 k, .slice (some ⟨g', 0, none⟩) m' m'] 30)
        have HY : Hid _ := (Below.heap_alloc wj (.cells #[.int .i64 k, .int .i64 k, .slice (some ⟨g', 0, none⟩) m' m'] 30) _ (ltHeap HH'.out)).trans HH'.out
        have HS : Hid _ := Below.alloc HTj.out (below_size HTj.out) (.cells #[.int .i64 k, .int .i64 k, .slice (some ⟨g', 0, none⟩) m' m'] 30)
        go_simp
        refine hK.out _ _ ?_ (fun hHeld => ?_)
        · exact Below.alloc HTj.out (below_size HTj.out) _
        clear hK K
        try simp only [Act.put, List.setIfInBounds_toArray, List.set_cons_zero, List.set_cons_succ]
        refine wpAnyH_take (i := 13) (oi := { dst := some 8, op := Op.assign (Operand.tmp 55), type := 24, pos := "law.go:99", after := #[{ on := 10, ground := Ground.data }, { on := 12, ground := Ground.chain }, { on := 0, ground := Ground.phase }, { on := 1, ground := Ground.phase }, { on := 2, ground := Ground.phase }, { on := 3, ground := Ground.phase }, { on := 4, ground := Ground.phase }, { on := 5, ground := Ground.phase }, { on := 6, ground := Ground.phase }, { on := 7, ground := Ground.phase }, { on := 8, ground := Ground.phase }, { on := 9, ground := Ground.phase }, { on := 10, ground := Ground.phase }, { on := 11, ground := Ground.phase }, { on := 12, ground := Ground.phase }], guard := none }) (v := ?_) rfl (by kernel_rfl) (by kernel_rfl) (by kernel_rfl) (fun _ _ _ h => h) (Or.inl ⟨by rfl, ?_⟩) hHeld ?_
        rotate_left
        · intro u hSw
          go_simp
          try with_reducible rfl
        try simp only [Act.put, List.setIfInBounds_toArray, List.set_cons_zero, List.set_cons_succ]
        refine wpAnyH_done (by kernel_rfl) ?_ _
        refine NoPanic.normal ?_
        go_wp2
        go_meet
        exact ⟨_, g', m', L, rfl, rfl, HX.out, HM'.out, HY.out, HL1.out, HL2.out, HL3.out, HS.out⟩
      · go_simp
        have HTz : Hid (Below w3.heap.size w3 (wi.alloc (.cells #[.int .i64 0, .int .i64 0, .slice none 0 0] 30))) := Below.alloc HTi.out (below_size HTi.out) _
        have HZ : Hid ((wi.alloc (.cells #[.int .i64 0, .int .i64 0, .slice none 0 0] 30)).heap[wi.heap.size]? = some (.cells #[.int .i64 0, .int .i64 0, .slice none 0 0] 30 (0, 0))) := heap_alloc_last _ _
        have HRz : Hid _ := rowI_below HR.out ((Below.refl _ _).alloc (Nat.le_refl _) (.cells #[.int .i64 0, .int .i64 0, .slice none 0 0] 30))
        refine hK.out _ _ ?_ (fun hHeld => ?_)
        · exact HTz.out
        clear hK K
        try simp only [Act.put, List.setIfInBounds_toArray, List.set_cons_zero, List.set_cons_succ]
        refine wpAnyH_ready (rs := [7]) (by kernel_rfl) (by simp) ?_
        refine (AllReadyH.cons (o := { dst := some 53, op := Op.call { callee := Callee.value (Operand.func 20), args := #[Operand.tmp 46, Operand.tmp 52], argTypes := #[30, 42] }, type := 31, pos := "law.go:99", after := #[{ on := 0, ground := Ground.data }, { on := 6, ground := Ground.data }, { on := 6, ground := Ground.chain }], guard := none }) rfl (fun K hK => ?_) AllReadyH.nil)
        go_simp
        refine Calls.mono (take_yes p k m m k cL (some ⟨g, 0, none⟩) (some ⟨gL, 0, none⟩) (genM k r) (L.map fun i => ((i : Nat) : Int)) _ (by omega) (by omega) HM.out (by rw [genM_len, HPP.out]) (Nat.le_refl _) (row8_below (holds_row HA2.out 1 rfl) HTz.out) (fun h => by cases h) (by rw [List.length_map]; exact HL2.out.symm) (by omega) HRz.out s2 (cell_later (HW2.out.trans (Below.mono HTz.out HW2.out.size)) HS2.out) (fun n hn => by obtain ⟨i, hi, rfl⟩ := List.mem_map.1 hn; have := HL3.out i hi; omega)) ?_
        rintro e wj ⟨g', m', rfl, hm', hg', hh', hbj⟩
        have HTj : Hid (Below w3.heap.size w3 wj) := Below.trans HTz.out (Below.mono hbj (below_size HTz.out))
        have HM' : Hid _ := hm'
        have HH' : Hid _ := hh'
        have HZj : Hid _ := heap_later HZ.out hbj
        clear hm' hg' hh' hbj
        go_wp2_with fail
        refine hK.out _ _ ?_ (fun hHeld => ?_)
        · exact HTj.out
        clear hK K
        try simp only [Act.put, List.setIfInBounds_toArray, List.set_cons_zero, List.set_cons_succ]
        refine wpAnyH_take (i := 8) (oi := { dst := some 45, op := Op.move (Operand.tmp 53), type := 31, pos := "law.go:99", after := #[{ on := 7, ground := Ground.data }], guard := none }) (v := ?_) rfl (by kernel_rfl) (by kernel_rfl) (by kernel_rfl) (fun _ _ _ h => h) (Or.inl ⟨by rfl, ?_⟩) hHeld ?_
        rotate_left
        · intro u hSw
          go_simp
          try with_reducible rfl
        try simp only [Act.put, List.setIfInBounds_toArray, List.set_cons_zero, List.set_cons_succ]
        refine wpAnyH_take (i := 9) (oi := { dst := some 54, op := Op.extract (Operand.tmp 45) 0, type := 30, pos := "law.go:99", after := #[{ on := 8, ground := Ground.data }], guard := none }) (v := ?_) rfl (by kernel_rfl) (by kernel_rfl) (by kernel_rfl) (fun _ _ _ h => h) (Or.inl ⟨by rfl, ?_⟩) hHeld ?_
        rotate_left
        · intro u hSw
          go_simp
          try with_reducible rfl
        try simp only [Act.put, List.setIfInBounds_toArray, List.set_cons_zero, List.set_cons_succ]
        refine wpAnyH_take (i := 10) (oi := { dst := some 55, op := Op.extract (Operand.tmp 45) 1, type := 24, pos := "law.go:99", after := #[{ on := 8, ground := Ground.data }, { on := 12, ground := Ground.gcOnly Departure.lateStores }], guard := none }) (v := ?_) rfl (by kernel_rfl) (by kernel_rfl) (by kernel_rfl) (fun _ _ _ h => h) (Or.inl ⟨by rfl, ?_⟩) hHeld ?_
        rotate_left
        · intro u hSw
          go_simp
          try with_reducible rfl
        try simp only [Act.put, List.setIfInBounds_toArray, List.set_cons_zero, List.set_cons_succ]
        refine wpAnyH_ready (rs := [12]) (by kernel_rfl) (by simp) ?_
        refine (AllReadyH.cons (o := { dst := none, op := Op.store 30 (Operand.tmp 9) (Operand.tmp 54), type := 0, pos := "law.go:99", after := #[{ on := 11, ground := Ground.data }, { on := 9, ground := Ground.data }, { on := 7, ground := Ground.chain }, { on := 0, ground := Ground.phase }, { on := 1, ground := Ground.phase }, { on := 2, ground := Ground.phase }, { on := 3, ground := Ground.phase }, { on := 4, ground := Ground.phase }, { on := 5, ground := Ground.phase }, { on := 6, ground := Ground.phase }, { on := 7, ground := Ground.phase }, { on := 8, ground := Ground.phase }, { on := 9, ground := Ground.phase }, { on := 10, ground := Ground.textOnly Departure.lateStores }, { on := 11, ground := Ground.phase }], guard := none }) rfl (fun K hK => ?_) AllReadyH.nil)
        have q0 := cellAt HZj.out 0 _ rfl
        have q1 := cellAt HZj.out 1 _ rfl
        have q2 := cellAt HZj.out 2 _ rfl
        have f0 := frozen_of_row _ _ 0 _ _ HZj.out
        have f1 := frozen_of_row _ _ 1 _ _ HZj.out
        have f2 := frozen_of_row _ _ 2 _ _ HZj.out
        have HX : Hid _ := store3 (v0 := .int .i64 k) (v1 := .int .i64 k) (v2 := .slice (some ⟨g', 0, none⟩) m' m') HZj.out
        have HY : Hid _ := store3_other (v0 := .int .i64 k) (v1 := .int .i64 k) (v2 := .slice (some ⟨g', 0, none⟩) m' m') HH'.out (ne_of_kind HH'.out HZj.out (by decide))
        have HS : Hid _ := ((Below.setCell HTj.out (below_size HTi.out) (.int .i64 k) (p := ⟨wi.heap.size, 0, none⟩)).setCell (below_size HTi.out) (.int .i64 k) (p := ⟨wi.heap.size, 1, none⟩)).setCell (below_size HTi.out) (.slice (some ⟨g', 0, none⟩) m' m') (p := ⟨wi.heap.size, 2, none⟩)
        go_simp
        refine hK.out _ _ ?_ (fun hHeld => ?_)
        · exact ((Below.setCell HTj.out (below_size HTi.out) _).setCell (below_size HTi.out) _).setCell (below_size HTi.out) _
        clear hK K
        try simp only [Act.put, List.setIfInBounds_toArray, List.set_cons_zero, List.set_cons_succ]
        refine wpAnyH_take (i := 13) (oi := { dst := some 8, op := Op.assign (Operand.tmp 55), type := 24, pos := "law.go:99", after := #[{ on := 10, ground := Ground.data }, { on := 12, ground := Ground.chain }, { on := 0, ground := Ground.phase }, { on := 1, ground := Ground.phase }, { on := 2, ground := Ground.phase }, { on := 3, ground := Ground.phase }, { on := 4, ground := Ground.phase }, { on := 5, ground := Ground.phase }, { on := 6, ground := Ground.phase }, { on := 7, ground := Ground.phase }, { on := 8, ground := Ground.phase }, { on := 9, ground := Ground.phase }, { on := 10, ground := Ground.phase }, { on := 11, ground := Ground.phase }, { on := 12, ground := Ground.phase }], guard := none }) (v := ?_) rfl (by kernel_rfl) (by kernel_rfl) (by kernel_rfl) (fun _ _ _ h => h) (Or.inl ⟨by rfl, ?_⟩) hHeld ?_
        rotate_left
        · intro u hSw
          go_simp
          try with_reducible rfl
        try simp only [Act.put, List.setIfInBounds_toArray, List.set_cons_zero, List.set_cons_succ]
        refine wpAnyH_done (by kernel_rfl) ?_ _
        refine NoPanic.normal ?_
        go_wp2
        go_meet
        exact ⟨_, g', m', L, rfl, rfl, HX.out, HM'.out, HY.out, HL1.out, HL2.out, HL3.out, HS.out⟩
    · go_simp
      have HTz : Hid (Below w3.heap.size w3 (w3.drew.alloc (.cells #[.int .i64 0, .int .i64 0, .slice none 0 0] 30))) := Below.alloc hR (below_size hR) _
      have HZ : Hid ((w3.drew.alloc (.cells #[.int .i64 0, .int .i64 0, .slice none 0 0] 30)).heap[w3.heap.size]? = some (.cells #[.int .i64 0, .int .i64 0, .slice none 0 0] 30 (0, 0))) := heap_alloc_last _ _
      refine hK.out _ _ ?_ (fun hHeld => ?_)
      · exact HTz.out
      clear hK K
      try simp only [Act.put, List.setIfInBounds_toArray, List.set_cons_zero, List.set_cons_succ]
      refine wpAnyH_ready (rs := [6]) (by kernel_rfl) (by simp) ?_
      refine (AllReadyH.cons (o := { dst := some 52, op := Op.call { callee := Callee.value (Operand.func 21), args := #[Operand.tmp 49, Operand.tmp 50, Operand.tmp 51], argTypes := #[3, 3, 42] }, type := 42, pos := "law.go:99", after := #[{ on := 3, ground := Ground.data }, { on := 4, ground := Ground.data }, { on := 5, ground := Ground.data }], guard := none }) rfl (fun K hK => ?_) AllReadyH.nil)
      go_simp
      refine Calls.mono (chosen_F p k ln cn an ns _ (by omega) (by omega) h1 (by omega) HLN.out hm (rowI_below HI.out (HW2.out.trans (Below.mono HTz.out HW2.out.size))) HBD.out) ?_
      rintro e wi ⟨gL, cL, L, rfl, hL1, hL2, hL3, hL4, hbi⟩
      have HTi : Hid (Below w3.heap.size w3 wi) := Below.trans HTz.out (Below.mono hbi (below_size HTz.out))
      have HR : Hid (RowI wi (some ⟨gL, 0, none⟩) (L.map fun i => ((i : Nat) : Int))) := rowI_own (by rw [← nvs_map]; exact hL4)
      have HL1 : Hid _ := hL1
      have HL2 : Hid _ := hL2
      have HL3 : Hid _ := hL3
      have HZi : Hid _ := heap_later HZ.out hbi
      clear hL1 hL2 hL3 hL4 hbi
      go_wp2_with fail
      refine hK.out _ _ ?_ (fun hHeld => ?_)
      · exact HTi.out
      clear hK K
      try simp only [Act.put, List.setIfInBounds_toArray, List.set_cons_zero, List.set_cons_succ]
      refine wpAnyH_ready (rs := [7]) (by kernel_rfl) (by simp) ?_
      refine (AllReadyH.cons (o := { dst := some 53, op := Op.call { callee := Callee.value (Operand.func 20), args := #[Operand.tmp 46, Operand.tmp 52], argTypes := #[30, 42] }, type := 31, pos := "law.go:99", after := #[{ on := 0, ground := Ground.data }, { on := 6, ground := Ground.data }, { on := 6, ground := Ground.chain }], guard := none }) rfl (fun K hK => ?_) AllReadyH.nil)
      go_simp
      refine Calls.mono (take_yes p k m m k cL (some ⟨g, 0, none⟩) (some ⟨gL, 0, none⟩) (genM k r) (L.map fun i => ((i : Nat) : Int)) _ (by omega) (by omega) HM.out (by rw [genM_len, HPP.out]) (Nat.le_refl _) (row8_below (holds_row HA2.out 1 rfl) HTi.out) (fun h => by cases h) (by rw [List.length_map]; exact HL2.out.symm) (by omega) HR.out s2 (cell_later (HW2.out.trans (Below.mono HTi.out HW2.out.size)) HS2.out) (fun n hn => by obtain ⟨i, hi, rfl⟩ := List.mem_map.1 hn; have := HL3.out i hi; omega)) ?_
      rintro e wj ⟨g', m', rfl, hm', hg', hh', hbj⟩
      have HTj : Hid (Below w3.heap.size w3 wj) := Below.trans HTi.out (Below.mono hbj (below_size HTi.out))
      have HM' : Hid _ := hm'
      have HH' : Hid _ := hh'
      have HZj : Hid _ := heap_later HZi.out hbj
      clear hm' hg' hh' hbj
      go_wp2_with fail
      refine hK.out _ _ ?_ (fun hHeld => ?_)
      · exact HTj.out
      clear hK K
      try simp only [Act.put, List.setIfInBounds_toArray, List.set_cons_zero, List.set_cons_succ]
      refine wpAnyH_take (i := 8) (oi := { dst := some 45, op := Op.move (Operand.tmp 53), type := 31, pos := "law.go:99", after := #[{ on := 7, ground := Ground.data }], guard := none }) (v := ?_) rfl (by kernel_rfl) (by kernel_rfl) (by kernel_rfl) (fun _ _ _ h => h) (Or.inl ⟨by rfl, ?_⟩) hHeld ?_
      rotate_left
      · intro u hSw
        go_simp
        try with_reducible rfl
      try simp only [Act.put, List.setIfInBounds_toArray, List.set_cons_zero, List.set_cons_succ]
      refine wpAnyH_take (i := 9) (oi := { dst := some 54, op := Op.extract (Operand.tmp 45) 0, type := 30, pos := "law.go:99", after := #[{ on := 8, ground := Ground.data }], guard := none }) (v := ?_) rfl (by kernel_rfl) (by kernel_rfl) (by kernel_rfl) (fun _ _ _ h => h) (Or.inl ⟨by rfl, ?_⟩) hHeld ?_
      rotate_left
      · intro u hSw
        go_simp
        try with_reducible rfl
      try simp only [Act.put, List.setIfInBounds_toArray, List.set_cons_zero, List.set_cons_succ]
      refine wpAnyH_take (i := 10) (oi := { dst := some 55, op := Op.extract (Operand.tmp 45) 1, type := 24, pos := "law.go:99", after := #[{ on := 8, ground := Ground.data }, { on := 12, ground := Ground.gcOnly Departure.lateStores }], guard := none }) (v := ?_) rfl (by kernel_rfl) (by kernel_rfl) (by kernel_rfl) (fun _ _ _ h => h) (Or.inl ⟨by rfl, ?_⟩) hHeld ?_
      rotate_left
      · intro u hSw
        go_simp
        try with_reducible rfl
      try simp only [Act.put, List.setIfInBounds_toArray, List.set_cons_zero, List.set_cons_succ]
      refine wpAnyH_ready (rs := [12]) (by kernel_rfl) (by simp) ?_
      refine (AllReadyH.cons (o := { dst := none, op := Op.store 30 (Operand.tmp 9) (Operand.tmp 54), type := 0, pos := "law.go:99", after := #[{ on := 11, ground := Ground.data }, { on := 9, ground := Ground.data }, { on := 7, ground := Ground.chain }, { on := 0, ground := Ground.phase }, { on := 1, ground := Ground.phase }, { on := 2, ground := Ground.phase }, { on := 3, ground := Ground.phase }, { on := 4, ground := Ground.phase }, { on := 5, ground := Ground.phase }, { on := 6, ground := Ground.phase }, { on := 7, ground := Ground.phase }, { on := 8, ground := Ground.phase }, { on := 9, ground := Ground.phase }, { on := 10, ground := Ground.textOnly Departure.lateStores }, { on := 11, ground := Ground.phase }], guard := none }) rfl (fun K hK => ?_) AllReadyH.nil)
      have q0 := cellAt HZj.out 0 _ rfl
      have q1 := cellAt HZj.out 1 _ rfl
      have q2 := cellAt HZj.out 2 _ rfl
      have f0 := frozen_of_row _ _ 0 _ _ HZj.out
      have f1 := frozen_of_row _ _ 1 _ _ HZj.out
      have f2 := frozen_of_row _ _ 2 _ _ HZj.out
      have HX : Hid _ := store3 (v0 := .int .i64 k) (v1 := .int .i64 k) (v2 := .slice (some ⟨g', 0, none⟩) m' m') HZj.out
      have HY : Hid _ := store3_other (v0 := .int .i64 k) (v1 := .int .i64 k) (v2 := .slice (some ⟨g', 0, none⟩) m' m') HH'.out (ne_of_kind HH'.out HZj.out (by decide))
      have HS : Hid _ := ((Below.setCell HTj.out (Nat.le_refl w3.heap.size) (.int .i64 k) (p := ⟨w3.heap.size, 0, none⟩)).setCell (Nat.le_refl w3.heap.size) (.int .i64 k) (p := ⟨w3.heap.size, 1, none⟩)).setCell (Nat.le_refl w3.heap.size) (.slice (some ⟨g', 0, none⟩) m' m') (p := ⟨w3.heap.size, 2, none⟩)
      go_simp
      refine hK.out _ _ ?_ (fun hHeld => ?_)
      · exact ((Below.setCell HTj.out (Nat.le_refl w3.heap.size) _).setCell (Nat.le_refl w3.heap.size) _).setCell (Nat.le_refl w3.heap.size) _
      clear hK K
      try simp only [Act.put, List.setIfInBounds_toArray, List.set_cons_zero, List.set_cons_succ]
      refine wpAnyH_take (i := 13) (oi := { dst := some 8, op := Op.assign (Operand.tmp 55), type := 24, pos := "law.go:99", after := #[{ on := 10, ground := Ground.data }, { on := 12, ground := Ground.chain }, { on := 0, ground := Ground.phase }, { on := 1, ground := Ground.phase }, { on := 2, ground := Ground.phase }, { on := 3, ground := Ground.phase }, { on := 4, ground := Ground.phase }, { on := 5, ground := Ground.phase }, { on := 6, ground := Ground.phase }, { on := 7, ground := Ground.phase }, { on := 8, ground := Ground.phase }, { on := 9, ground := Ground.phase }, { on := 10, ground := Ground.phase }, { on := 11, ground := Ground.phase }, { on := 12, ground := Ground.phase }], guard := none }) (v := ?_) rfl (by kernel_rfl) (by kernel_rfl) (by kernel_rfl) (fun _ _ _ h => h) (Or.inl ⟨by rfl, ?_⟩) hHeld ?_
      rotate_left
      · intro u hSw
        go_simp
        try with_reducible rfl
      try simp only [Act.put, List.setIfInBounds_toArray, List.set_cons_zero, List.set_cons_succ]
      refine wpAnyH_done (by kernel_rfl) ?_ _
      refine NoPanic.normal ?_
      go_wp2
      go_meet
      exact ⟨_, g', m', L, rfl, rfl, HX.out, HM'.out, HY.out, HL1.out, HL2.out, HL3.out, HS.out⟩
  case rest =>
  obtain ⟨N', g', m', L, rfl, rfl, hZ, hm', hh, hL1, hL2, hL3, hB⟩ := hcut
  generalize wc = w4 at *
  have HA4 : Hid _ := holds_cons (holds_cons (holds_nil w4) hh) hZ
  have HW4 : Hid (Below w.heap.size w w4) := HW2.out.trans (hB.mono HW2.out.size)
  have hrk : (pivL (cellF k (takeM k (genM k r) (L.map fun i => ((i : Nat) : Int))).flatten) k k).length = k := takeM_rank hL2 hL1 hL3 (by rw [HPP.out]; rfl) (by have := HPP.out; omega) (by have := HPP.out; omega)
  have HRK : Hid _ := hrk
  have HM' : Hid _ := hm'
  have hxl : (takeM k (genM k r) (L.map fun i => ((i : Nat) : Int))).flatten.length = k * k := by
    rw [takeM_grid hL3 (by rw [HPP.out]; rfl), grid_len, hL2]
  have HXL : Hid _ := hxl
  clear hZ hm' hh hL1 hL2 hL3 hB hrk hxl HA2 HW2 c1
  generalize (takeM k (genM k r) (L.map fun i => ((i : Nat) : Int))).flatten = xs at *
  have c1 := cellAt (holds_at HA4.out 0 rfl) 0 _ rfl
  have c2 := cellAt (holds_at HA4.out 0 rfl) 1 _ rfl
  have c3 := cellAt (holds_at HA4.out 0 rfl) 2 _ rfl
  go_wp2_with fail
  refine Calls.mono (rank_F k k m' m' (some ⟨g', 0, none⟩) xs _ (by omega) (by omega) HM'.out HXL.out (Nat.le_refl _) (holds_row HA4.out 1 rfl) (fun h => by cases h)) ?_
  rw [HRK.out]
  rintro e w5 ⟨rfl, hb⟩
  have HA5 : Hid _ := holds_later HA4.out hb
  have HW5 : Hid (Below w.heap.size w w5) := HW4.out.trans (hb.mono HW4.out.size)
  clear hb c1 c2 c3 HA4 HW4
  have c1 := cellAt (holds_at HA5.out 0 rfl) 0 _ rfl
  have c2 := cellAt (holds_at HA5.out 0 rfl) 1 _ rfl
  have c3 := cellAt (holds_at HA5.out 0 rfl) 2 _ rfl
  go_wp2_with fail
  refine Calls.mono (inverse_F k m' m' (some ⟨g', 0, none⟩) xs _ (by omega) HM'.out HXL.out (Nat.le_refl _) (holds_row HA5.out 1 rfl) (fun h => by cases h) s3 (cell_later HW5.out HS3.out)) ?_
  rintro e w6 (⟨_, g7, m7, Y, rfl, _, _, _, _, hb⟩ | ⟨hno, _⟩)
  rotate_left
  · exact absurd HRK.out hno
  have HW6 : Hid (Below w.heap.size w w6) := HW5.out.trans (hb.mono HW5.out.size)
  clear hb HA5 HW5 c1 c2 c3
  go_wp2
  go_ret
  exact ⟨rfl, HW6.out.alloc HW6.out.size _⟩
theorem any_walk (k r : Int) (ln cn : Nat) (an : Option Addr) (ns : List Int) (w : World) (hk0 : -9223372036854775808 ≤ k) (hk1 : k ≤ 9223372036854775807) (hr0 : -9223372036854775808 ≤ r) (hr1 : r ≤ 9223372036854775807)
    (hln : ln = ns.length) (hc : ln ≤ cn) (hm : cn ≤ 17592186043904) (hI : RowI w an ns) (hbd : ∀ x ∈ ns, -9223372036854775808 ≤ x ∧ x ≤ 9223372036854775807) (es : List Addr) (hes : ErrsAt w gsBaseS es) :
    Calls Tryd.prog 5 #[.int .i64 k, .int .i64 r, .slice an ln cn] w fun e w' => e = .returned (.bool true) ∧ Below w.heap.size w w' := by
  obtain ⟨s0, _, hs0, _⟩ := errs_at hes 0 _ rfl
  obtain ⟨s1, _, hs1, _⟩ := errs_at hes 1 _ rfl
  obtain ⟨s2, _, hs2, _⟩ := errs_at hes 3 _ rfl
  obtain ⟨s3, _, hs3, _⟩ := errs_at hes 2 _ rfl
  by_cases hL : LegalP k r
  · obtain ⟨a, b, rfl, rfl, h1, h2, h3⟩ := legal_nat hL
    exact any_ok a b ln cn an ns w s1 s2 s3 hs1 hs2 hs3 h1 h2 h3 hln (by omega) hI hbd
  · exact any_bad k r ln cn an w hk0 hk1 hr0 hr1 s0 hs0 hL
end Go.Proofs.YtokepcikpkffpaaDoor
