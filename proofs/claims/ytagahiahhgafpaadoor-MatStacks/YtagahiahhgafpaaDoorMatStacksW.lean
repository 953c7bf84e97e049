/- The walk of the statement MatStacks: it returns true of all matrices. -/
import Derived.Test.YtagahiahhgafpaaDoorMatStk
import Derived.Test.YtagahiahhgafpaaDoorMatAl
import Derived.Test.YtagahiahhgafpaaDoorNum
namespace Go.Proofs.YtagahiahhgafpaaDoor
open Go.RowKit Gf
set_option linter.unusedVariables false
theorem rowAt_append_left {r q c i : Nat} {xs ys : List F} (hx : xs.length = r * c) (hi : i < r) : rowAt c (xs ++ ys) i = rowAt c xs i := by
  have h1 : i * c + c ≤ r * c := by
    have := Nat.mul_le_mul_right c (show i + 1 ≤ r from hi)
    rwa [Nat.succ_mul] at this
  rw [rowAt, rowAt, List.drop_append_of_le_length (by omega), List.take_append_of_le_length (by rw [List.length_drop]; omega)]
theorem rowAt_append_right {r c i : Nat} {xs ys : List F} (hx : xs.length = r * c) : rowAt c (xs ++ ys) (r + i) = rowAt c ys i := by
  rw [rowAt, rowAt, Nat.add_mul, ← List.drop_drop, ← hx, List.drop_left]
theorem rows_flat {c : Nat} : ∀ {r : Nat} {xs : List F}, xs.length = r * c → ((List.range r).map (rowAt c xs)).flatten = xs
  | 0, xs, h => by
    have : xs = [] := List.eq_nil_of_length_eq_zero (by omega)
    subst this; rfl
  | r + 1, xs, h => by
    have hs : xs = xs.take (r * c) ++ xs.drop (r * c) := (List.take_append_drop _ _).symm
    have hl : (xs.take (r * c)).length = r * c := by rw [List.length_take]; rw [Nat.succ_mul] at h; omega
    have h2 : (List.range r).map (rowAt c xs) = (List.range r).map (rowAt c (xs.take (r * c))) := by
      apply List.map_congr_left
      intro i hi
      rw [List.mem_range] at hi
      have := rowAt_append_left (q := 0) (ys := xs.drop (r * c)) hl hi
      rw [List.take_append_drop] at this
      exact this
    have h3 : rowAt c xs r = xs.drop (r * c) := by
      rw [rowAt]; exact List.take_of_length_le (by rw [List.length_drop]; rw [Nat.succ_mul] at h; omega)
    rw [List.range_succ, List.map_append, List.flatten_append, h2, rows_flat hl, List.map_cons, List.map_nil, h3]
    simp
theorem stacks_first {r c : Nat} {xs ys : List F} (hx : xs.length = r * c) : (takeM c (xs ++ ys) ((List.range r).map fun i => ((i : Nat) : Int))).flatten = xs := by
  have e : takeM c (xs ++ ys) ((List.range r).map fun i => ((i : Nat) : Int)) = (List.range r).map (rowAt c xs) := by
    rw [takeM, List.map_map]
    apply List.map_congr_left
    intro i hi
    rw [List.mem_range] at hi
    exact rowAt_append_left (q := 0) hx hi
  rw [e, rows_flat hx]
theorem stacks_second {r q c : Nat} {xs ys : List F} (hx : xs.length = r * c) (hy : ys.length = q * c) : (takeM c (xs ++ ys) ((List.range q).map fun i => ((r + i : Nat) : Int))).flatten = ys := by
  have e : takeM c (xs ++ ys) ((List.range q).map fun i => ((r + i : Nat) : Int)) = (List.range q).map (rowAt c ys) := by
    rw [takeM, List.map_map]
    apply List.map_congr_left
    intro i hi
    exact rowAt_append_right hx
  rw [e, rows_flat hy]
theorem rowsM_two {r q c : Nat} {m n : Mx} (hm : m.r = r) (hn : n.r = q) (hx : m.xs.length = r * c) (hy : n.xs.length = q * c) : (rowsM c [m, n]).flatten = m.xs ++ n.xs := by
  simp only [rowsM, List.map_cons, List.map_nil, hm, hn, Int.toNat_natCast, List.flatten_cons, List.flatten_nil, List.append_nil, List.flatten_append]
  rw [rows_flat hx, rows_flat hy]
def gsStacks : List Nat := [0, 1]
theorem ints_snoc (f : Nat → Int) (k : Nat) : (List.range k).map (fun i => Value.int .i64 (f i)) ++ [.int .i64 (f k)] = (List.range (k + 1)).map (fun i => Value.int .i64 (f i)) := by rw [List.range_succ, List.map_append]; rfl
theorem own_slice {w : World} {B n : Nat} {v : Value} {e : TypeId} {f : Nat → Int} (ho : w.ownsRow B e 1 v n ((List.range n).map fun i => Value.int .i64 (f i))) : ∃ a cap, v = .slice a n cap ∧ RowI w a ((List.range n).map f) := by
  rcases ho.2 with ⟨rfl, e⟩ | ⟨g, cap, cur, rfl, h2⟩
  · exact ⟨none, 0, by rw [e], .inl (by rw [e]; rfl)⟩
  · refine ⟨_, _, rfl, .inr ⟨g, 0, rfl, fun j m hj => ?_⟩⟩
    have hlt : j < n := by have := (List.getElem?_eq_some_iff.1 hj).1; simpa using this
    rw [Nat.zero_add, ho.cellAt j (by omega), List.getElem?_map, List.getElem?_range hlt]
    rw [List.getElem?_map, List.getElem?_range hlt] at hj
    obtain rfl := Option.some.inj hj
    rfl
theorem own_apart {w w' : World} {B size n : Nat} {v u : Value} {e : TypeId} {xs : List Value} (ho : w.ownsRow B e size u n xs) (h : w.grownBy w' v.ownBlock) (hne : v.ownBlock ≠ u.ownBlock) : w'.ownsRow B e size u n xs :=
  ho.kept h (by
    cases hu : u.ownBlock with
    | none => exact .inl rfl
    | some g => exact .inr (by rw [← hu]; exact fun e => hne e.symm))
set_option maxRecDepth 100000 in
set_option maxHeartbeats 8000000 in
theorem stacks_ok (r q c la ca lb cb : Nat) (aa ab : Option Addr) (xs ys : List F) (w : World) (hr : r ≤ 64) (hq : q ≤ 64) (hc : c ≤ 64) (hsum : r + q ≤ 64) (hla : la = r * c) (hlb : lb = q * c) (hx : xs.length = r * c) (hy : ys.length = q * c) (hca : la ≤ ca) (hcb : lb ≤ cb)
    (hX : Row8 w aa xs) (hY : Row8 w ab ys) (hna : aa = none → ca = 0) (hnb : ab = none → cb = 0) (s1 s2 : Addr) (hs1 : w.cell? ⟨0, 0, none⟩ = some (errAt s1)) (hs2 : w.cell? ⟨1, 0, none⟩ = some (errAt s2)) :
    Calls Tryd.prog 8 #[.agg #[.int .i64 r, .int .i64 c, .slice aa la ca], .agg #[.int .i64 q, .int .i64 c, .slice ab lb cb]] w fun e w' => e = .returned (.bool true) ∧ Below w.heap.size w w' := by
  have HLA : Hid _ := hla
  have HLB : Hid _ := hlb
  have HXL : Hid _ := hx
  have HYL : Hid _ := hy
  have HX : Hid (Row8 w aa xs) := hX
  have HY : Hid (Row8 w ab ys) := hY
  have HNA : Hid _ := hna
  have HNB : Hid _ := hnb
  have HS1 : Hid _ := hs1
  have HS2 : Hid _ := hs2
  clear hla hlb hx hy hX hY hna hnb hs1 hs2
  go_enter Tryd.func8, Tryd.ntmps8
  go_wp2_with fail
  refine Calls.mono (alive_ok _) ?_
  rintro e w1 ⟨rfl, hb1⟩
  have hA : Holds w1 [(w.heap.size, .cells #[.int .i64 r, .int .i64 c, .slice aa la ca] 24 (0, 0)), (w.heap.size + 1, .cells #[.int .i64 q, .int .i64 c, .slice ab lb cb] 24 (0, 0))] :=
    holds_cons (holds_cons (holds_nil _) (heap_later (heap_alloc2_new w (.cells #[.int .i64 r, .int .i64 c, .slice aa la ca] 24) (.cells #[.int .i64 q, .int .i64 c, .slice ab lb cb] 24)) hb1)) (heap_later (heap_alloc2_old w (.cells #[.int .i64 r, .int .i64 c, .slice aa la ca] 24) (.cells #[.int .i64 q, .int .i64 c, .slice ab lb cb] 24)) hb1)
  have HW1 : Hid (Below w.heap.size w w1) := (((Below.refl w.heap.size w).alloc (Nat.le_refl _) _).alloc (by simp) _).trans (hb1.mono (by simp; omega))
  have c1 := cellAt (holds_at hA 0 rfl) 0 _ rfl
  have c2 := cellAt (holds_at hA 0 rfl) 1 _ rfl
  have c3 := cellAt (holds_at hA 0 rfl) 2 _ rfl
  have HA1 : Hid _ := hA
  clear hb1 hA
  go_wp2_with fail
  refine Calls.mono (inForm_yes r c aa la ca _ hr hc HLA.out) ?_
  rintro e w2 ⟨rfl, hb2⟩
  have hA := holds_later HA1.out hb2
  have HW2 : Hid (Below w.heap.size w w2) := HW1.out.trans (hb2.mono HW1.out.size)
  have c4 := cellAt (holds_at hA 1 rfl) 0 _ rfl
  have c5 := cellAt (holds_at hA 1 rfl) 1 _ rfl
  have c6 := cellAt (holds_at hA 1 rfl) 2 _ rfl
  have HA2 : Hid _ := hA
  clear hb2 hA c1 c2 c3 HA1 HW1
  go_wp2_with fail
  refine Calls.mono (inForm_yes q c ab lb cb _ hq hc HLB.out) ?_
  rintro e w3 ⟨rfl, hb3⟩
  have hA := holds_later HA2.out hb3
  have HW3 : Hid (Below w.heap.size w w3) := HW2.out.trans (hb3.mono HW2.out.size)
  have c1 := cellAt (holds_at hA 0 rfl) 0 _ rfl
  have c2 := cellAt (holds_at hA 0 rfl) 1 _ rfl
  have c3 := cellAt (holds_at hA 0 rfl) 2 _ rfl
  have b1 := cellAt (holds_at hA 1 rfl) 0 _ rfl
  have b2 := cellAt (holds_at hA 1 rfl) 1 _ rfl
  have b3 := cellAt (holds_at hA 1 rfl) 2 _ rfl
  have HA3 : Hid _ := hA
  have hsum' : ¬ (64 < (r : Int) + (q : Int)) := by omega
  clear hb3 hA c4 c5 c6 HA2 HW2
  go_wp2_with fail
  have hbl := heap_alloc_last w3 (.cells #[.int .i64 r, .int .i64 c, .slice aa la ca, .int .i64 q, .int .i64 c, .slice ab lb cb] 24)
  have hB3 : Below w.heap.size w (w3.alloc (.cells #[.int .i64 r, .int .i64 c, .slice aa la ca, .int .i64 q, .int .i64 c, .slice ab lb cb] 24)) := HW3.out.alloc HW3.out.size _
  refine Calls.mono (stack_F c w3.heap.size 2 2 [⟨r, c, aa, la, ca, xs⟩, ⟨q, c, ab, lb, cb, ys⟩] _ (by simp) rfl (by decide) (fun j m hj => ?_) (fun m hm => ?_) s1 (cell_later hB3 HS1.out)) ?_
  · match j, hj with
    | 0, hj => obtain rfl := Option.some.inj hj; exact ⟨cellAt hbl 0 _ rfl, cellAt hbl 1 _ rfl, cellAt hbl 2 _ rfl⟩
    | 1, hj => obtain rfl := Option.some.inj hj; exact ⟨cellAt hbl 3 _ rfl, cellAt hbl 4 _ rfl, cellAt hbl 5 _ rfl⟩
  · simp only [List.mem_cons, List.not_mem_nil, or_false] at hm
    rcases hm with rfl | rfl
    · exact ⟨by rw [HLA.out, HXL.out], hca, row8_below HX.out hB3, HNA.out⟩
    · exact ⟨by rw [HLB.out, HYL.out], hcb, row8_below HY.out hB3, HNB.out⟩
  have hro : rowsOf [(⟨r, c, aa, la, ca, xs⟩ : Mx), ⟨q, c, ab, lb, cb, ys⟩] = r + q := by simp [rowsOf]
  have hrm := rowsM_two (c := c) (m := ⟨r, c, aa, la, ca, xs⟩) (n := ⟨q, c, ab, lb, cb, ys⟩) (r := r) (q := q) rfl rfl HXL.out HYL.out
  have HOK : Hid (StackOk (c : Int) [(⟨r, c, aa, la, ca, xs⟩ : Mx), ⟨q, c, ab, lb, cb, ys⟩]) := ⟨by omega, by omega, fun m hm => by
    simp only [List.mem_cons, List.not_mem_nil, or_false] at hm
    rcases hm with rfl | rfl
    · exact ⟨r, rfl, rfl, hr, hc, HLA.out⟩
    · exact ⟨q, rfl, rfl, hq, hc, HLB.out⟩, by rw [hro]; exact hsum⟩
  rintro e w4 (⟨_, g, m, rfl, hm, hg, hh, hb4⟩ | ⟨hno, _⟩)
  rotate_left
  · exact absurd HOK.out hno
  rw [hro] at hm
  have hh' : w4.heap[g]? = some (.cells (vfs (xs ++ ys)) 5 (0, 0)) := by rw [hh]; show some (Obj.cells (vfs (rowsM ((c : Int).toNat) _).flatten) _ _) = _; rw [Int.toNat_natCast, hrm]
  rw [hro]
  have HP : ∃ p : Nat, p = r + q := ⟨_, rfl⟩
  obtain ⟨p, hp⟩ := HP
  rw [← hp] at hm ⊢
  have hpe : ((p : Int) != (r : Int) + (q : Int)) = false := by rw [hp]; simp
  have HPP : Hid _ := hp
  have HM : Hid (m = p * c) := by show m = p * c; simpa using hm
  have hAa := holds_cons (holds_alloc (holds_later (holds_later HA3.out ((Below.refl _ _).alloc (Nat.le_refl _) _)) hb4) (.cells #[.int .i64 p, .int .i64 c, .slice (some ⟨g, 0, none⟩) m m] 24)) (heap_alloc_last w4 (.cells #[.int .i64 p, .int .i64 c, .slice (some ⟨g, 0, none⟩) m m] 24))
  have hAb := holds_cons hAa ((Below.heap_alloc w4 (.cells #[.int .i64 p, .int .i64 c, .slice (some ⟨g, 0, none⟩) m m] 24) _ (ltHeap hh')).trans hh')
  have HW4 : Hid (Below w.heap.size w (w4.alloc (.cells #[.int .i64 p, .int .i64 c, .slice (some ⟨g, 0, none⟩) m m] 24))) := (hB3.trans (hb4.mono hB3.size)).alloc (Nat.le_trans hB3.size hb4.size) _
  have hA4 := holds_later (holds_later HA3.out ((Below.refl _ _).alloc (Nat.le_refl _) _)) hb4
  have c1 := cellAt (holds_at hA4 0 rfl) 0 _ rfl
  have b1 := cellAt (holds_at hA4 1 rfl) 0 _ rfl
  have z1 := ltHeap (holds_at hA4 0 rfl)
  have z2 := ltHeap (holds_at hA4 1 rfl)
  have zg := ltHeap hh'
  clear hm hp hh hh' hb4 hB3 hbl hrm hro HOK HA3 HW3 hg c2 c3 b2 b3
  go_wp2
  have hA := holds_new (holds_new hAb #[] 3) #[] 3
  rw [World.size_alloc, World.size_alloc] at hA
  have HW5 : Hid (Below w.heap.size w (((w4.alloc (.cells #[.int .i64 p, .int .i64 c, .slice (some ⟨g, 0, none⟩) m m] 24)).alloc (.cells #[] 3)).alloc (.cells #[] 3))) := (HW4.out.alloc HW4.out.size _).alloc (Nat.le_trans HW4.out.size (by simp)) _
  have HA5 : Hid _ := hA
  clear hA hAa hAb hA4 HW4 hsum'
  generalize hM : w4.heap.size = M at *
  generalize (((w4.alloc (.cells #[.int .i64 p, .int .i64 c, .slice (some ⟨g, 0, none⟩) m m] 24)).alloc (.cells #[] 3)).alloc (.cells #[] 3)) = W5 at *
  clear hM c1 b1
  have HF : Hid _ := fun (f : Nat → Int) (k : Nat) => ints_snoc f k
  go_loopw [7, 9] (fun v i wr => ∃ k : Nat, k ≤ r ∧ i = .int .i64 k ∧ Below (M + 1) W5 wr ∧ wr.heap[M + 1 + 1]? = some (.cells #[] 3 (0, 0)) ∧ wr.ownsRow (M + 1) 3 1 v k ((List.range k).map fun i => Value.int .i64 ((i : Nat) : Int)) ∧ v.ownBlock ≠ some (M + 1 + 1)) (fun _ i _ => r - (intOf i).toNat)
  case atStart => exact ⟨0, by omega, rfl, Below.refl _ _, holds_at HA5.out 0 rfl, ⟨rfl, .inr ⟨M + 1, 0, #[], rfl, Nat.le_refl _, holds_at HA5.out 1 rfl, Nat.le_refl _, by decide, rfl, rfl⟩⟩, by simp [Value.ownBlock]⟩
  case round =>
    obtain ⟨k, hk, rfl, hbw, h2, hown, hne⟩ := hrel
    have zw := ltHeap h2
    have hbx := (hbw.block w.heap.size (by omega)).trans (holds_at HA5.out 4 rfl)
    have c1 := cellAt hbx 0 _ rfl
    by_cases hlt : k < r
    · have ho := hown.alloc (.cells #[.int .i64 k] 3)
      obtain ⟨g2, cap2, w6, hrun, ho2, hgr, hor, hlt2⟩ := appendI (b := wr.heap.size) (c := 1) (x := (k : Int)) 44 ho (cellAt (heap_alloc_last wr (.cells #[.int .i64 k] 3)) 0 _ rfl) (by omega) (by simp; omega)
      rw [ints_snoc (fun i => ((i : Nat) : Int)) k] at ho2
      have HRun : Hid _ := hrun
      have HO2 : Hid _ := ho2
      have HB2 : Hid _ := below_own (hbw.alloc (by omega) (.cells #[.int .i64 k] 3)) ho hgr (by simp; omega)
      have H2 : Hid (w6.heap[M + 1 + 1]? = some (.cells #[] 3 (0, 0))) := (hgr.block (M + 1 + 1) (by simp; omega) (fun e => hne e.symm)).trans ((Below.heap_alloc _ _ _ zw).trans h2)
      have HNE : Hid (g2 ≠ M + 1 + 1) := fun e => by
        rcases hor with h | h
        · exact hne (by rw [h, e])
        · simp at h; omega
      clear hbw h2 hown hne hbx ho hrun ho2 hgr hor hlt2
      go_wp2_with (at_builtin; refine wpList_append_run rfl _ _ 44 rfl _ _ _ _ rfl rfl HRun.out ?_)
      refine ⟨⟨k + 1, by omega, by go_num, HB2.out, H2.out, HO2.out, ?_⟩, by simp [intOf]; omega⟩
      simp [Value.ownBlock]; exact HNE.out
    · obtain rfl : k = r := by omega
      have HB2 : Hid _ := hbw
      have HO1 : Hid _ := hown
      have H2 : Hid _ := h2
      have HNE : Hid _ := hne
      clear hbw hown h2 hne hbx
      go_wp2
      go_loopw [8, 10] (fun v i wq => ∃ j : Nat, j ≤ q ∧ i = .int .i64 j ∧ Below (M + 1) W5 wq ∧ wq.ownsRow (M + 1) 3 1 u7 k ((List.range k).map fun i => Value.int .i64 ((i : Nat) : Int)) ∧ wq.ownsRow (M + 1) 3 1 v j ((List.range j).map fun i => Value.int .i64 ((k + i : Nat) : Int)) ∧ v.ownBlock ≠ u7.ownBlock) (fun _ i _ => q - (intOf i).toNat)
      case atStart => exact ⟨0, by omega, rfl, HB2.out, HO1.out, ⟨rfl, .inr ⟨M + 1 + 1, 0, #[], rfl, by omega, H2.out, Nat.le_refl _, by decide, rfl, rfl⟩⟩, fun e => HNE.out (by rw [← e]; rfl)⟩
      case round =>
        obtain ⟨j, hj, rfl, hbw, hown1, hown, hne⟩ := hrel
        have zw := hbw.size
        have zW := ltHeap (holds_at HA5.out 1 rfl)
        have hbx := (hbw.block w.heap.size (by omega)).trans (holds_at HA5.out 4 rfl)
        have hby := (hbw.block (w.heap.size + 1) (by omega)).trans (holds_at HA5.out 5 rfl)
        have hbs := (hbw.block M (by omega)).trans (holds_at HA5.out 3 rfl)
        have hbd := (hbw.block g (by omega)).trans (holds_at HA5.out 2 rfl)
        have c1 := cellAt hbx 0 _ rfl
        have c4 := cellAt hby 0 _ rfl
        by_cases hlt2 : j < q
        · have ho := hown.alloc (.cells #[.int .i64 ((k : Int) + (j : Int))] 3)
          obtain ⟨g2, cap2, w6, hrun, ho2, hgr, hor, hlt3⟩ := appendI (b := wr.heap.size) (c := 1) (x := (k : Int) + (j : Int)) 44 ho (cellAt (heap_alloc_last wr (.cells #[.int .i64 ((k : Int) + (j : Int))] 3)) 0 _ rfl) (by omega) (by simp; omega)
          rw [show ((k : Int) + (j : Int)) = ((k + j : Nat) : Int) from rfl, ints_snoc (fun i => ((k + i : Nat) : Int)) j] at ho2
          have hB6 : Below (M + 1) W5 w6 := below_own (hbw.alloc (by omega) (.cells #[.int .i64 ((k : Int) + (j : Int))] 3)) ho hgr (by simp; omega)
          have ho1 : w6.ownsRow (M + 1) 3 1 u7 k ((List.range k).map fun i => Value.int .i64 ((i : Nat) : Int)) := own_apart (hown1.alloc _) hgr hne
          have hne2 : (Value.slice (some ⟨g2, 0, none⟩) (j + 1) cap2).ownBlock ≠ u7.ownBlock := fun e => by
            have e' : some g2 = u7.ownBlock := e
            rcases hor with h | h
            · exact hne (h.trans e')
            · have := (hown1.lt g2 e'.symm).2
              simp at h; omega
          have hs6 := (hB6.block M (by omega)).trans (holds_at HA5.out 3 rfl)
          have hd6 := (hB6.block g (by omega)).trans (holds_at HA5.out 2 rfl)
          have hx6 := (hB6.block w.heap.size (by omega)).trans (holds_at HA5.out 4 rfl)
          have hy6 := (hB6.block (w.heap.size + 1) (by omega)).trans (holds_at HA5.out 5 rfl)
          have HRun : Hid _ := hrun
          have HO2 : Hid _ := ho2
          have HO1' : Hid _ := ho1
          have HB6 : Hid _ := hB6
          have HNE2 : Hid _ := hne2
          have HD6 : Hid _ := hd6
          have HY6 : Hid _ := hy6
          have z6 := hB6.size
          have d1 := cellAt hs6 0 _ rfl
          have d2 := cellAt hs6 1 _ rfl
          have d3 := cellAt hs6 2 _ rfl
          have d4 := cellAt hx6 0 _ rfl
          clear hbw hown1 hown hne hbx hby hbs hbd ho hrun ho2 hgr hor hlt3 hB6 ho1 hne2 hs6 hd6 hx6 hy6
          go_wp2_with (at_builtin; refine wpList_append_run rfl _ _ 44 rfl _ _ _ _ rfl rfl HRun.out ?_)
          rw [show ((k : Int) + (j : Int)) = ((k + j : Nat) : Int) from rfl]
          refine Calls.mono (row_F p c m m (k + j) _ (xs ++ ys) _ (by rw [HPP.out]; exact hsum) hc HM.out (by rw [List.length_append, HXL.out, HYL.out, HPP.out, Nat.add_mul]) (Nat.le_refl _) (row8_own HD6.out) (fun h => by cases h) (by rw [HPP.out]; omega)) ?_
          rintro e w7 ⟨a7, cap7, rfl, hr7, hn7, _, hb7⟩
          have hB7 : Below (M + 1) W5 w7 := HB6.out.trans (hb7.mono (by omega))
          have hy7 := heap_later HY6.out hb7
          have e1 := cellAt hy7 0 _ rfl
          have e2 := cellAt hy7 1 _ rfl
          have e3 := cellAt hy7 2 _ rfl
          have HB7 : Hid _ := hB7
          have HR7 : Hid _ := hr7
          have HO7 : Hid _ := own_below HO1'.out hb7
          have HP7 : Hid _ := own_below HO2.out hb7
          have z7 := hB7.size
          clear hB7 hy7 hr7 hn7 hb7 d1 d2 d3 d4 c1 c4
          go_wp2_with fail
          refine Calls.mono (row_F q c lb cb j ab ys _ hq hc HLB.out HYL.out hcb (row8_below HY.out (HW5.out.trans (HB7.out.mono (by omega)))) HNB.out hlt2) ?_
          rintro e w8 ⟨a8, cap8, rfl, hr8, hn8, _, hb8⟩
          have HB8 : Hid (Below (M + 1) W5 w8) := HB7.out.trans (hb8.mono (by omega))
          have HR8 : Hid _ := row8_below HR7.out hb8
          have HS8 : Hid _ := hr8
          have HO8 : Hid _ := own_below HO7.out hb8
          have HP8 : Hid _ := own_below HP7.out hb8
          have hre := rowAt_append_right (c := c) (i := j) (ys := ys) HXL.out
          have HRE : Hid _ := hre
          have hlen : Hid (c = (rowAt c ys j).length) := (rowAt_len HYL.out hlt2).symm
          clear hr8 hn8 hb8 e1 e2 e3 hre
          go_wp2_with fail
          refine Calls.mono (sameBytes_F a7 a8 c cap7 c cap8 (rowAt c ys j) (rowAt c ys j) _ hlen.out hlen.out (by rw [← HRE.out]; exact HR8.out) HS8.out) ?_
          rintro e w9 ⟨rfl, rfl⟩
          rw [eqB_true]
          go_wp2
          exact ⟨⟨j + 1, by omega, by go_num, HB8.out, HO8.out, HP8.out, HNE2.out⟩, by simp [intOf]; omega⟩
        · obtain rfl : j = q := by omega
          obtain ⟨a1, cap1, rfl, hi1⟩ := own_slice (f := fun i => ((i : Nat) : Int)) hown1
          obtain ⟨a2, cap2, rfl, hi2⟩ := own_slice (f := fun i => ((k + i : Nat) : Int)) hown
          have HBW : Hid _ := hbw
          have HI1 : Hid _ := hi1
          have HI2 : Hid _ := hi2
          have d1 := cellAt hbs 0 _ rfl
          have d2 := cellAt hbs 1 _ rfl
          have d3 := cellAt hbs 2 _ rfl
          have HD : Hid _ := hbd
          have HBS : Hid _ := hbs
          have HBX : Hid _ := hbx
          have HBY : Hid _ := hby
          have hpl : Hid ((xs ++ ys).length = p * c) := by show _ = _; rw [List.length_append, HXL.out, HYL.out, HPP.out, Nat.add_mul]
          have HT1 : Hid _ := stacks_first (ys := ys) HXL.out
          have HT2 : Hid _ := stacks_second HXL.out HYL.out
          have z0 : W5.heap.size ≤ wr.heap.size := zw
          clear hbw hown1 hown hne hbx hby hbs hbd hi1 hi2
          go_wp2_with fail
          refine Calls.mono (take_F p c m m k cap1 _ a1 (xs ++ ys) ((List.range k).map fun i => ((i : Nat) : Int)) _ (by rw [HPP.out]; exact hsum) hc HM.out hpl.out (Nat.le_refl _) (row8_own HD.out) (fun h => by cases h) (by simp) (by omega) HI1.out s2 (cell_later (HW5.out.trans (HBW.out.mono (by omega))) HS2.out)) ?_
          rintro e w6 (⟨_, g6, m6, rfl, hm6, hg6, hh6, hb6⟩ | ⟨hno, _⟩)
          rotate_left
          · refine absurd (fun n hn => ?_) hno
            simp only [List.mem_map, List.mem_range] at hn
            obtain ⟨i, hi, rfl⟩ := hn
            have := HPP.out
            omega
          rw [HT1.out] at hh6
          have hs6 := heap_later HBS.out hb6
          have d4 := cellAt hs6 0 _ rfl
          have d5 := cellAt hs6 1 _ rfl
          have d6 := cellAt hs6 2 _ rfl
          have zs6 := ltHeap hs6
          have HB6 : Hid (Below (M + 1) W5 w6) := HBW.out.trans (hb6.mono (by omega))
          have HD6 : Hid _ := heap_later HD.out hb6
          have HX6 : Hid _ := heap_later HBX.out hb6
          have HY6 : Hid _ := heap_later HBY.out hb6
          have HJ6 : Hid _ := rowI_below HI2.out hb6
          have HH6 : Hid _ := hh6
          have HM6 : Hid _ := hm6
          have z6 := hb6.size
          clear hs6 hb6 hh6 hm6 hg6 d1 d2 d3 c1 c4
          go_wp2_with fail
          have hAl := (Below.refl w6.heap.size w6).alloc (Nat.le_refl _) (.cells #[.int .i64 k, .int .i64 c, .slice (some ⟨g6, 0, none⟩) m6 m6] 24)
          refine Calls.mono (take_F p c m m j cap2 _ a2 (xs ++ ys) ((List.range j).map fun i => ((k + i : Nat) : Int)) _ (by rw [HPP.out]; exact hsum) hc HM.out hpl.out (Nat.le_refl _) (row8_below (row8_own HD6.out) hAl) (fun h => by cases h) (by simp) (by omega) (rowI_below HJ6.out hAl) s2 (cell_later ((HW5.out.trans (HB6.out.mono (by omega))).trans (hAl.mono (by have := HW5.out.size; have := HB6.out.size; omega))) HS2.out)) ?_
          rintro e w7 (⟨_, g7, m7, rfl, hm7, hg7, hh7, hb7⟩ | ⟨hno, _⟩)
          rotate_left
          · refine absurd (fun n hn => ?_) hno
            simp only [List.mem_map, List.mem_range] at hn
            obtain ⟨i, hi, rfl⟩ := hn
            have := HPP.out
            omega
          rw [HT2.out] at hh7
          have ht7 := heap_later (heap_alloc_last w6 (.cells #[.int .i64 k, .int .i64 c, .slice (some ⟨g6, 0, none⟩) m6 m6] 24)) hb7
          have hx7 := heap_later (heap_later HX6.out hAl) hb7
          have hy7 := heap_later (heap_later HY6.out hAl) hb7
          have hq7 := heap_later (heap_later HH6.out hAl) hb7
          have HB7 : Hid (Below (M + 1) W5 w7) := (HB6.out.trans (hAl.mono (by have := HB6.out.size; omega))).trans (hb7.mono (by have := HB6.out.size; simp; omega))
          have d1 := cellAt ht7 0 _ rfl
          have d2 := cellAt ht7 1 _ rfl
          have d3 := cellAt ht7 2 _ rfl
          have e1 := cellAt hx7 0 _ rfl
          have e2 := cellAt hx7 1 _ rfl
          have e3 := cellAt hx7 2 _ rfl
          have zt7 := ltHeap ht7
          have zx7 := ltHeap hx7
          have HY7 : Hid _ := hy7
          have HQ7 : Hid _ := hq7
          have HH7 : Hid _ := hh7
          have HM7 : Hid _ := hm7
          have z7 := HB7.out.size
          clear ht7 hx7 hy7 hq7 hh7 hm7 hb7 hg7 d4 d5 d6 hAl
          go_wp2_with fail
          have hAl := (Below.refl w7.heap.size w7).alloc (Nat.le_refl _) (.cells #[.int .i64 j, .int .i64 c, .slice (some ⟨g7, 0, none⟩) m7 m7] 24)
          have hW8 : Below w.heap.size w (w7.alloc (.cells #[.int .i64 j, .int .i64 c, .slice (some ⟨g7, 0, none⟩) m7 m7] 24)) := (HW5.out.trans (HB7.out.mono (by omega))).trans (hAl.mono (by have := HW5.out.size; omega))
          refine Calls.mono (same_F k c _ aa m6 m6 la ca xs xs _ (by rw [HM6.out, HXL.out]) (by rw [HLA.out, HXL.out]) (row8_below (row8_own HQ7.out) hAl) (row8_below HX.out hW8)) ?_
          rintro e w8 ⟨rfl, hb8⟩
          rw [eqB_true]
          have ht8 := heap_later (heap_alloc_last w7 (.cells #[.int .i64 j, .int .i64 c, .slice (some ⟨g7, 0, none⟩) m7 m7] 24)) hb8
          have hy8 := heap_later (heap_later HY7.out hAl) hb8
          have HH8 : Hid _ := heap_later (heap_later HH7.out hAl) hb8
          have HW8 : Hid (Below w.heap.size w w8) := hW8.trans (hb8.mono hW8.size)
          have d4 := cellAt ht8 0 _ rfl
          have d5 := cellAt ht8 1 _ rfl
          have d6 := cellAt ht8 2 _ rfl
          have e4 := cellAt hy8 0 _ rfl
          have e5 := cellAt hy8 1 _ rfl
          have e6 := cellAt hy8 2 _ rfl
          clear hb8 ht8 hy8 hAl hW8 d1 d2 d3 e1 e2 e3
          go_wp2_with fail
          refine Calls.mono (same_F j c _ ab m7 m7 lb cb ys ys _ (by rw [HM7.out, HYL.out]) (by rw [HLB.out, HYL.out]) (row8_own HH8.out) (row8_below HY.out HW8.out)) ?_
          rintro e w9 ⟨rfl, hb9⟩
          rw [eqB_true]
          have HW9 : Hid (Below w.heap.size w w9) := HW8.out.trans (hb9.mono HW8.out.size)
          clear hb9
          go_wp2
          go_ret
          exact ⟨rfl, HW9.out⟩
set_option maxHeartbeats 1000000 in
theorem stacks_noA (ra cA rb cB : Int) (la ca lb cb : Nat) (aa ab : Option Addr) (w : World) (h : ¬ (0 ≤ ra ∧ ra ≤ 64 ∧ 0 ≤ cA ∧ cA ≤ 64 ∧ (la : Int) = ra * cA)) :
    Calls Tryd.prog 8 #[.agg #[.int .i64 ra, .int .i64 cA, .slice aa la ca], .agg #[.int .i64 rb, .int .i64 cB, .slice ab lb cb]] w fun e w' => e = .returned (.bool true) ∧ Below w.heap.size w w' := by
  have H : Hid _ := h
  clear h
  go_enter Tryd.func8, Tryd.ntmps8
  go_wp2_with fail
  refine Calls.mono (alive_ok _) ?_
  rintro e w1 ⟨rfl, hb1⟩
  have hA := holds_cons (holds_cons (holds_nil _) (heap_later (heap_alloc2_new w (.cells #[.int .i64 ra, .int .i64 cA, .slice aa la ca] 24) (.cells #[.int .i64 rb, .int .i64 cB, .slice ab lb cb] 24)) hb1)) (heap_later (heap_alloc2_old w (.cells #[.int .i64 ra, .int .i64 cA, .slice aa la ca] 24) (.cells #[.int .i64 rb, .int .i64 cB, .slice ab lb cb] 24)) hb1)
  have HW1 : Hid (Below w.heap.size w w1) := (((Below.refl w.heap.size w).alloc (Nat.le_refl _) _).alloc (by simp) _).trans (hb1.mono (by simp; omega))
  have c1 := cellAt (holds_at hA 0 rfl) 0 _ rfl
  have c2 := cellAt (holds_at hA 0 rfl) 1 _ rfl
  have c3 := cellAt (holds_at hA 0 rfl) 2 _ rfl
  have HA1 : Hid _ := hA
  clear hb1 hA
  go_wp2_with fail
  refine Calls.mono (inForm_no ra cA aa la ca _ H.out) ?_
  rintro e w2 ⟨rfl, hb2⟩
  have HW2 : Hid (Below w.heap.size w w2) := HW1.out.trans (hb2.mono HW1.out.size)
  clear hb2 c1 c2 c3
  go_wp2
  go_ret
  exact ⟨rfl, HW2.out⟩
set_option maxHeartbeats 1000000 in
theorem stacks_noB (r c : Nat) (rb cB : Int) (la ca lb cb : Nat) (aa ab : Option Addr) (w : World) (hr : r ≤ 64) (hc : c ≤ 64) (hla : la = r * c) (h : ¬ (0 ≤ rb ∧ rb ≤ 64 ∧ 0 ≤ cB ∧ cB ≤ 64 ∧ (lb : Int) = rb * cB)) :
    Calls Tryd.prog 8 #[.agg #[.int .i64 r, .int .i64 c, .slice aa la ca], .agg #[.int .i64 rb, .int .i64 cB, .slice ab lb cb]] w fun e w' => e = .returned (.bool true) ∧ Below w.heap.size w w' := by
  have H : Hid _ := h
  have HLA : Hid _ := hla
  clear h hla
  go_enter Tryd.func8, Tryd.ntmps8
  go_wp2_with fail
  refine Calls.mono (alive_ok _) ?_
  rintro e w1 ⟨rfl, hb1⟩
  have hA := holds_cons (holds_cons (holds_nil _) (heap_later (heap_alloc2_new w (.cells #[.int .i64 r, .int .i64 c, .slice aa la ca] 24) (.cells #[.int .i64 rb, .int .i64 cB, .slice ab lb cb] 24)) hb1)) (heap_later (heap_alloc2_old w (.cells #[.int .i64 r, .int .i64 c, .slice aa la ca] 24) (.cells #[.int .i64 rb, .int .i64 cB, .slice ab lb cb] 24)) hb1)
  have HW1 : Hid (Below w.heap.size w w1) := (((Below.refl w.heap.size w).alloc (Nat.le_refl _) _).alloc (by simp) _).trans (hb1.mono (by simp; omega))
  have c1 := cellAt (holds_at hA 0 rfl) 0 _ rfl
  have c2 := cellAt (holds_at hA 0 rfl) 1 _ rfl
  have c3 := cellAt (holds_at hA 0 rfl) 2 _ rfl
  have HA1 : Hid _ := hA
  clear hb1 hA
  go_wp2_with fail
  refine Calls.mono (inForm_yes r c aa la ca _ hr hc HLA.out) ?_
  rintro e w2 ⟨rfl, hb2⟩
  have hA := holds_later HA1.out hb2
  have HW2 : Hid (Below w.heap.size w w2) := HW1.out.trans (hb2.mono HW1.out.size)
  have c4 := cellAt (holds_at hA 1 rfl) 0 _ rfl
  have c5 := cellAt (holds_at hA 1 rfl) 1 _ rfl
  have c6 := cellAt (holds_at hA 1 rfl) 2 _ rfl
  have HA2 : Hid _ := hA
  clear hb2 hA c1 c2 c3 HA1 HW1
  go_wp2_with fail
  refine Calls.mono (inForm_no rb cB ab lb cb _ H.out) ?_
  rintro e w3 ⟨rfl, hb3⟩
  have HW3 : Hid (Below w.heap.size w w3) := HW2.out.trans (hb3.mono HW2.out.size)
  clear hb3 c4 c5 c6
  go_wp2
  go_ret
  exact ⟨rfl, HW3.out⟩
set_option maxHeartbeats 1000000 in
theorem stacks_noC (r c q d : Nat) (la ca lb cb : Nat) (aa ab : Option Addr) (w : World) (hr : r ≤ 64) (hc : c ≤ 64) (hq : q ≤ 64) (hd : d ≤ 64) (hla : la = r * c) (hlb : lb = q * d) (h : c ≠ d ∨ 64 < r + q) :
    Calls Tryd.prog 8 #[.agg #[.int .i64 r, .int .i64 c, .slice aa la ca], .agg #[.int .i64 q, .int .i64 d, .slice ab lb cb]] w fun e w' => e = .returned (.bool true) ∧ Below w.heap.size w w' := by
  have HLA : Hid _ := hla
  have HLB : Hid _ := hlb
  clear hla hlb
  by_cases hcd : c = d
  · subst hcd
    have hs : 64 < (r : Int) + (q : Int) := by omega
    clear h
    go_enter Tryd.func8, Tryd.ntmps8
    go_wp2_with fail
    refine Calls.mono (alive_ok _) ?_
    rintro e w1 ⟨rfl, hb1⟩
    have hA := holds_cons (holds_cons (holds_nil _) (heap_later (heap_alloc2_new w (.cells #[.int .i64 r, .int .i64 c, .slice aa la ca] 24) (.cells #[.int .i64 q, .int .i64 c, .slice ab lb cb] 24)) hb1)) (heap_later (heap_alloc2_old w (.cells #[.int .i64 r, .int .i64 c, .slice aa la ca] 24) (.cells #[.int .i64 q, .int .i64 c, .slice ab lb cb] 24)) hb1)
    have HW1 : Hid (Below w.heap.size w w1) := (((Below.refl w.heap.size w).alloc (Nat.le_refl _) _).alloc (by simp) _).trans (hb1.mono (by simp; omega))
    have c1 := cellAt (holds_at hA 0 rfl) 0 _ rfl
    have c2 := cellAt (holds_at hA 0 rfl) 1 _ rfl
    have c3 := cellAt (holds_at hA 0 rfl) 2 _ rfl
    have HA1 : Hid _ := hA
    clear hb1 hA
    go_wp2_with fail
    refine Calls.mono (inForm_yes r c aa la ca _ hr hc HLA.out) ?_
    rintro e w2 ⟨rfl, hb2⟩
    have hA := holds_later HA1.out hb2
    have HW2 : Hid (Below w.heap.size w w2) := HW1.out.trans (hb2.mono HW1.out.size)
    have c4 := cellAt (holds_at hA 1 rfl) 0 _ rfl
    have c5 := cellAt (holds_at hA 1 rfl) 1 _ rfl
    have c6 := cellAt (holds_at hA 1 rfl) 2 _ rfl
    have HA2 : Hid _ := hA
    clear hb2 hA c1 c2 c3 HA1 HW1
    go_wp2_with fail
    refine Calls.mono (inForm_yes q c ab lb cb _ hq hc HLB.out) ?_
    rintro e w3 ⟨rfl, hb3⟩
    have hA := holds_later HA2.out hb3
    have HW3 : Hid (Below w.heap.size w w3) := HW2.out.trans (hb3.mono HW2.out.size)
    have c1 := cellAt (holds_at hA 0 rfl) 0 _ rfl
    have c2 := cellAt (holds_at hA 0 rfl) 1 _ rfl
    have b1 := cellAt (holds_at hA 1 rfl) 0 _ rfl
    have b2 := cellAt (holds_at hA 1 rfl) 1 _ rfl
    clear hb3 hA c4 c5 c6
    go_wp2
    go_ret
    exact ⟨rfl, HW3.out⟩
  · have hs : ((c : Int) != (d : Int)) = true := by rw [bne_iff_ne]; omega
    clear h
    go_enter Tryd.func8, Tryd.ntmps8
    go_wp2_with fail
    refine Calls.mono (alive_ok _) ?_
    rintro e w1 ⟨rfl, hb1⟩
    have hA := holds_cons (holds_cons (holds_nil _) (heap_later (heap_alloc2_new w (.cells #[.int .i64 r, .int .i64 c, .slice aa la ca] 24) (.cells #[.int .i64 q, .int .i64 d, .slice ab lb cb] 24)) hb1)) (heap_later (heap_alloc2_old w (.cells #[.int .i64 r, .int .i64 c, .slice aa la ca] 24) (.cells #[.int .i64 q, .int .i64 d, .slice ab lb cb] 24)) hb1)
    have HW1 : Hid (Below w.heap.size w w1) := (((Below.refl w.heap.size w).alloc (Nat.le_refl _) _).alloc (by simp) _).trans (hb1.mono (by simp; omega))
    have c1 := cellAt (holds_at hA 0 rfl) 0 _ rfl
    have c2 := cellAt (holds_at hA 0 rfl) 1 _ rfl
    have c3 := cellAt (holds_at hA 0 rfl) 2 _ rfl
    have HA1 : Hid _ := hA
    clear hb1 hA
    go_wp2_with fail
    refine Calls.mono (inForm_yes r c aa la ca _ hr hc HLA.out) ?_
    rintro e w2 ⟨rfl, hb2⟩
    have hA := holds_later HA1.out hb2
    have HW2 : Hid (Below w.heap.size w w2) := HW1.out.trans (hb2.mono HW1.out.size)
    have c4 := cellAt (holds_at hA 1 rfl) 0 _ rfl
    have c5 := cellAt (holds_at hA 1 rfl) 1 _ rfl
    have c6 := cellAt (holds_at hA 1 rfl) 2 _ rfl
    have HA2 : Hid _ := hA
    clear hb2 hA c1 c2 c3 HA1 HW1
    go_wp2_with fail
    refine Calls.mono (inForm_yes q d ab lb cb _ hq hd HLB.out) ?_
    rintro e w3 ⟨rfl, hb3⟩
    have hA := holds_later HA2.out hb3
    have HW3 : Hid (Below w.heap.size w w3) := HW2.out.trans (hb3.mono HW2.out.size)
    have c1 := cellAt (holds_at hA 0 rfl) 0 _ rfl
    have c2 := cellAt (holds_at hA 0 rfl) 1 _ rfl
    have b1 := cellAt (holds_at hA 1 rfl) 0 _ rfl
    have b2 := cellAt (holds_at hA 1 rfl) 1 _ rfl
    clear hb3 hA c4 c5 c6
    go_wp2
    go_ret
    exact ⟨rfl, HW3.out⟩
theorem stacks_walk (ra cA rb cB : Int) (la ca lb cb : Nat) (aa ab : Option Addr) (xs ys : List F) (w : World) (hx : la = xs.length) (hy : lb = ys.length) (hca : la ≤ ca) (hcb : lb ≤ cb)
    (hX : Row8 w aa xs) (hY : Row8 w ab ys) (hna : aa = none → ca = 0) (hnb : ab = none → cb = 0) (es : List Addr) (hes : ErrsAt w gsStacks es) :
    Calls Tryd.prog 8 #[.agg #[.int .i64 ra, .int .i64 cA, .slice aa la ca], .agg #[.int .i64 rb, .int .i64 cB, .slice ab lb cb]] w fun e w' => e = .returned (.bool true) ∧ Below w.heap.size w w' := by
  by_cases h1 : 0 ≤ ra ∧ ra ≤ 64 ∧ 0 ≤ cA ∧ cA ≤ 64 ∧ (la : Int) = ra * cA
  · obtain ⟨r, rfl⟩ := Int.eq_ofNat_of_zero_le h1.1
    obtain ⟨c, rfl⟩ := Int.eq_ofNat_of_zero_le h1.2.2.1
    have e1 : la = r * c := by have := h1.2.2.2.2; rw [← Int.natCast_mul] at this; omega
    by_cases h2 : 0 ≤ rb ∧ rb ≤ 64 ∧ 0 ≤ cB ∧ cB ≤ 64 ∧ (lb : Int) = rb * cB
    · obtain ⟨q, rfl⟩ := Int.eq_ofNat_of_zero_le h2.1
      obtain ⟨d, rfl⟩ := Int.eq_ofNat_of_zero_le h2.2.2.1
      have e2 : lb = q * d := by have := h2.2.2.2.2; rw [← Int.natCast_mul] at this; omega
      by_cases h3 : c = d ∧ r + q ≤ 64
      · obtain ⟨rfl, h3⟩ := h3
        obtain ⟨s1, _, hs1, _⟩ := errs_at hes 0 0 rfl
        obtain ⟨s2, _, hs2, _⟩ := errs_at hes 1 1 rfl
        exact stacks_ok r q c la ca lb cb aa ab xs ys w (by omega) (by omega) (by omega) h3 e1 e2 (by omega) (by omega) hca hcb hX hY hna hnb s1 s2 hs1 hs2
      · exact stacks_noC r c q d la ca lb cb aa ab w (by omega) (by omega) (by omega) (by omega) e1 e2 (by omega)
    · exact stacks_noB r c rb cB la ca lb cb aa ab w (by omega) (by omega) e1 h2
  · exact stacks_noA ra cA rb cB la ca lb cb aa ab w h1
end Go.Proofs.YtagahiahhgafpaaDoor
