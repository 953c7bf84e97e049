/- What the statements' own looks at lists of numbers answer: Ints, KeptInts, SameInts; nothing that was there turns. -/
import Derived.Test.YtkoakingmnjdoabDoorMatO
import Derived.Test.YtkoakingmnjdoabDoorMatA
import Derived.LaidLaws
import Derived.MakeChecks
import Derived.LaidEql
import Derived.Test.YtkoakingmnjdoabDoorOwn
import Derived.Test.YtkoakingmnjdoabDoorNumKept
/- Plain algebra of stage 6: how many bytes a half has, how many stripes there are, bytes cut and joined; nothing of the program is proved here. -/
namespace Go.Proofs.YtkoakingmnjdoabDoor
open Go.RowKit Gf
set_option linter.unusedVariables false
set_option maxRecDepth 20000
/-- how many pieces of m make n -/
def cntN (m n : Nat) : Nat := (n + m - 1) / m
theorem lt_cnt {m n i : Nat} (hm : 0 < m) : i < cntN m n ↔ i * m < n := by
  show i + 1 ≤ (n + m - 1) / m ↔ _
  rw [Nat.le_div_iff_mul_le hm, Nat.add_mul, Nat.one_mul]
  omega
theorem cnt_cover {m n : Nat} (hm : 0 < m) : n ≤ cntN m n * m := by
  have h0 : ¬ cntN m n * m < n := fun h => Nat.lt_irrefl _ ((lt_cnt (i := cntN m n) (n := n) hm).2 h)
  omega
theorem cnt_tight {m n : Nat} (hm : 0 < m) (hn : 0 < n) : 0 < cntN m n ∧ (cntN m n - 1) * m < n := by
  have h1 : 0 < cntN m n := (lt_cnt hm).2 (by simpa using hn)
  exact ⟨h1, (lt_cnt hm).1 (by omega)⟩
theorem cnt_eq {m n i : Nat} (hm : 0 < m) (h1 : i = 0 ∨ (i - 1) * m < n) (h2 : n ≤ i * m) : i = cntN m n := by
  rcases Nat.lt_trichotomy i (cntN m n) with h | h | h
  · have := (lt_cnt hm).1 h; omega
  · exact h
  · rcases h1 with rfl | h1
    · omega
    · have := (lt_cnt (i := i - 1) hm).2 h1; omega
/-- numbers of data shards -/
def OkK (k : Int) : Prop := 1 ≤ k ∧ k ≤ 14
instance (k : Int) : Decidable (OkK k) := inferInstanceAs (Decidable (_ ∧ _))
/-- Half's error, as a number -/
def halfE (k size : Int) : Nat := if OkK k then (if size < 1 then 12 else if 128 * k < size then 20 else 0) else 1
/-- Half's answer -/
def halfV (k size : Int) : Nat := if halfE k size = 0 then cntN (2 * k.toNat) size.toNat else 0
theorem half_ok {k size : Int} (h : halfE k size = 0) : ∃ a n : Nat, k = a ∧ size = n ∧ 1 ≤ a ∧ a ≤ 14 ∧ 1 ≤ n ∧ n ≤ 128 * a := by
  unfold halfE at h
  split at h
  · rename_i hk
    obtain ⟨h1, h2⟩ := hk
    split at h
    · cases h
    · split at h
      · cases h
      · exact ⟨k.toNat, size.toNat, by omega, by omega, by omega, by omega, by omega, by omega⟩
  · cases h
theorem halfE_ok {a n : Nat} (h1 : 1 ≤ a) (h2 : a ≤ 14) (h3 : 1 ≤ n) (h4 : n ≤ 128 * a) : halfE a n = 0 := by
  unfold halfE
  rw [if_pos (show OkK a from ⟨by omega, by omega⟩), if_neg (by omega), if_neg (by omega)]
theorem halfV_ok {a n : Nat} (h1 : 1 ≤ a) (h2 : a ≤ 14) (h3 : 1 ≤ n) (h4 : n ≤ 128 * a) : halfV a n = cntN (2 * a) n := by
  unfold halfV
  rw [if_pos (halfE_ok h1 h2 h3 h4)]; simp
theorem halfV_no {k size : Int} (h : halfE k size ≠ 0) : halfV k size = 0 := by unfold halfV; rw [if_neg h]
/-- what H is held to -/
theorem cnt_half {a n : Nat} (h1 : 1 ≤ a) (h2 : a ≤ 14) (h3 : 1 ≤ n) (h4 : n ≤ 128 * a) : 1 ≤ cntN (2 * a) n ∧ cntN (2 * a) n ≤ 64 ∧ n ≤ 2 * a * cntN (2 * a) n ∧ 2 * a * (cntN (2 * a) n - 1) < n := by
  obtain ⟨e1, e2⟩ := cnt_tight (m := 2 * a) (n := n) (by omega) (by omega)
  have e3 := cnt_cover (m := 2 * a) (n := n) (by omega)
  have e4 : ¬ 64 < cntN (2 * a) n := fun h => by
    have := (lt_cnt (m := 2 * a) (n := n) (by omega)).1 h
    omega
  refine ⟨e1, by omega, by rw [Nat.mul_comm]; exact e3, by rw [Nat.mul_comm]; exact e2⟩
/-- Stripes' error, as a number -/
def stripesE (k size : Int) : Nat := if OkK k then (if size < 0 then 12 else if 4096 < size then 20 else 0) else 1
theorem stripes_ok {k size : Int} (h : stripesE k size = 0) : ∃ a n : Nat, k = a ∧ size = n ∧ 1 ≤ a ∧ a ≤ 14 ∧ n ≤ 4096 := by
  unfold stripesE at h
  split at h
  · rename_i hk
    obtain ⟨h1, h2⟩ := hk
    split at h
    · cases h
    · split at h
      · cases h
      · exact ⟨k.toNat, size.toNat, by omega, by omega, by omega, by omega, by omega⟩
  · cases h
theorem stripesE_ok {a n : Nat} (h1 : 1 ≤ a) (h2 : a ≤ 14) (h4 : n ≤ 4096) : stripesE a n = 0 := by
  unfold stripesE
  rw [if_pos (show OkK a from ⟨by omega, by omega⟩), if_neg (by omega), if_neg (by omega)]
/-- the first i sizes of pieces of m of n -/
def strL (m n i : Nat) : List Int := (List.range i).map fun j => ((min (n - j * m) m : Nat) : Int)
theorem strL_len (m n i : Nat) : (strL m n i).length = i := by simp [strL]
theorem strL_succ (m n i : Nat) : strL m n (i + 1) = strL m n i ++ [((min (n - i * m) m : Nat) : Int)] := by simp [strL, List.range_succ]
theorem strL_at {m n i j : Nat} (h : j < i) : (strL m n i)[j]? = some ((min (n - j * m) m : Nat) : Int) := by simp [strL, h]
/-- Stripes' answer -/
def stripesL (k size : Int) : List Int := if stripesE k size = 0 then strL (128 * k.toNat) size.toNat (cntN (128 * k.toNat) size.toNat) else []
theorem stripesL_ok {a n : Nat} (h1 : 1 ≤ a) (h2 : a ≤ 14) (h4 : n ≤ 4096) : stripesL a n = strL (128 * a) n (cntN (128 * a) n) := by
  unfold stripesL
  rw [if_pos (stripesE_ok h1 h2 h4)]; simp
theorem stripesL_no {k size : Int} (h : stripesE k size ≠ 0) : stripesL k size = [] := by unfold stripesL; rw [if_neg h]
theorem cnt_stripes {a n : Nat} (h1 : 1 ≤ a) (h4 : n ≤ 4096) : cntN (128 * a) n ≤ 32 := by
  apply Decidable.byContradiction
  intro h
  have := (lt_cnt (m := 128 * a) (n := n) (by omega)).1 (show 32 < _ by omega)
  omega
/-- half v of H bytes -/
def hf (H : Nat) (xs : List F) (v : Nat) : List F := rowF H (fun i => at8 xs (v * H + i))
theorem hf_len (H : Nat) (xs : List F) (v : Nat) : (hf H xs v).length = H := rowF_len _ _
/-- a stripe's bytes, filled up -/
def padF (m : Nat) (xs : List F) : List F := rowF m (at8 xs)
theorem padF_len (m : Nat) (xs : List F) : (padF m xs).length = m := rowF_len _ _
theorem pad_eq {m : Nat} {xs : List F} (h : xs.length ≤ m) : xs ++ (zeros m).drop xs.length = padF m xs := by
  refine rowF_eq (by rw [List.length_append, List.length_drop, zeros_len]; omega) fun j hj => ?_
  by_cases hl : j < xs.length
  · rw [at8_left hl]
  · rw [at8_right (by omega), at8_drop, at8_zeros, at8_over (by omega)]
theorem at8_padF {m j : Nat} {xs : List F} (h : j < m) : at8 (padF m xs) j = at8 xs j := at8_rowF h
theorem flat_at {c : Nat} : ∀ {L : List (List F)} {i j : Nat}, (∀ xs ∈ L, xs.length = c) → i < L.length → j < c → at8 L.flatten (i * c + j) = at8 (L.getD i []) j
  | [], i, j, _, hi, _ => absurd hi (by simp)
  | xs :: L, 0, j, h, _, hj => by
    have h0 := h xs (List.mem_cons_self ..)
    rw [Nat.zero_mul, Nat.zero_add, List.flatten_cons, at8_left (by omega)]
    rfl
  | xs :: L, i + 1, j, h, hi, hj => by
    have h0 := h xs (List.mem_cons_self ..)
    rw [List.flatten_cons, at8_right (by rw [h0, Nat.add_mul]; omega), h0, Nat.add_mul, Nat.one_mul, show i * c + c + j - c = i * c + j from by omega, flat_at (fun ys hy => h ys (List.mem_cons_of_mem _ hy)) (by simpa using hi) hj]
    rfl
/-- the halves of a stripe, one behind the other, begin with its bytes -/
theorem flat_halves (H c : Nat) (xs : List F) : ((List.range c).map (hf H xs)).flatten = padF (c * H) xs := by
  have h1 : ∀ ys ∈ (List.range c).map (hf H xs), ys.length = H := fun ys hy => by
    obtain ⟨v, _, rfl⟩ := List.mem_map.1 hy
    exact hf_len _ _ _
  refine rowF_eq (by rw [flat_len h1]; simp) fun p hp => ?_
  obtain ⟨i, j, hi, hj, rfl⟩ := split_place hp
  rw [flat_at h1 (by simpa using hi) hj, List.getD_eq_getElem?_getD, List.getElem?_map, List.getElem?_range hi]
  exact at8_rowF hj
theorem take_pad {m : Nat} {xs : List F} (h : xs.length ≤ m) : (padF m xs).take xs.length = xs := by
  rw [← pad_eq h, List.take_left]
end Go.Proofs.YtkoakingmnjdoabDoor

/- What the named variables of package api hold, by the rows' condition: errors, each of a block of its own. -/
namespace Go.Proofs.YtkoakingmnjdoabDoor
open Go.RowKit Go.ChangeShapes
set_option linter.unusedVariables false
set_option maxRecDepth 20000
theorem cellsES : Tryd.prog.cellsOf 119 = 1 := by kernel_rfl
theorem cellsStr : Tryd.prog.cellsOf 9 = 1 := by kernel_rfl
theorem starES : "*" ++ "errors.errorString" = "*errors.errorString" := by decide
theorem rowES (u : TypeId) (h : Tryd.prog.typeName? 3 u = some "*errors.errorString") : u = 102 :=
  typeName_ptr_named (nm := "errors.errorString") (by rw [starES]; kernel_rfl) (by kernel_rfl) (by decide) u (by rw [starES]; exact h)
/-- an error's datum -/
def errD (text : List UInt8) : DataW Unit := .iface "*errors.errorString" (.ptr (.agg [.lit (.string text)]))
def ErrsAt (W : World) (gs : List Nat) (es : List Addr) : Prop :=
  gs.length = es.length ∧ es.Nodup ∧ ∀ (k g : Nat) (a : Addr), gs[k]? = some g → es[k]? = some a → W.cell? ⟨g, 0, none⟩ = some (errAt a) ∧ ∃ c t, W.heap[a.block]? = some (.cells c t (0, 0))
theorem errs_go {W : World} : ∀ (laid : List (String × DataW Unit)) (gs : List Nat) (ps : List MemPlace), DataW.LaidVars Tryd.prog W laid ps → ps.Nodup →
    (∀ b off, MemPlace.cell b off ∈ ps → (∃ c t, W.heap[b]? = some (.cells c t (0, 0))) ∧ ∀ u v, W.cell? ⟨b, off, none⟩ = some (.iface u v) → Value.okWide Tryd.prog W .any 0 u v) →
    laid.map (fun x => Tryd.prog.globalNamed x.1) = gs.map some → (∀ g ∈ gs, (Tryd.prog.globals[g]?).map (·.type) = some 28) → (∀ x ∈ laid, ∃ text, x.2 = errD text) →
    ∃ es : List Addr, gs.length = es.length ∧ es.Nodup ∧ (∀ a ∈ es, MemPlace.cell a.block a.off ∈ ps) ∧ ∀ (k g : Nat) (a : Addr), gs[k]? = some g → es[k]? = some a → W.cell? ⟨g, 0, none⟩ = some (errAt a) ∧ ∃ c t, W.heap[a.block]? = some (.cells c t (0, 0))
  | [], [], _, _, _, _, _, _, _ => ⟨[], rfl, List.nodup_nil, fun a h => by simp at h, fun k g a h => by simp at h⟩
  | [], _ :: _, _, _, _, _, h, _, _ => by simp at h
  | _ :: _, [], _, _, _, _, h, _, _ => by simp at h
  | (n, d) :: r, g :: gs, ps, hv, hnd, hrows, hn, ht, hd => by
    obtain ⟨text, hdd⟩ := hd _ List.mem_cons_self
    simp only at hdd
    subst hdd
    obtain ⟨g0, t0, cs0, f0, p0, q0, hg0, ht0, hv0, hd0, hq, rfl⟩ := hv
    simp only [List.map_cons, List.cons.injEq] at hn
    obtain rfl := Option.some.inj (hg0.symm.trans hn.1)
    obtain rfl := Option.some.inj (ht0.symm.trans (ht _ List.mem_cons_self))
    obtain ⟨l0⟩ := cs0
    have ok0 : ∀ u v, l0 = [.iface u v] → Value.okWide Tryd.prog W .any 0 u v := fun u v e => by
      subst e
      exact (hrows g0 0 (by simp [MemPlace.row])).2 u v (by simpa using World.var?_cell hg0 hv0 0)
    obtain ⟨a0, s0, rfl, hc0, hs0, hz0, rfl⟩ := errorString_of_trod Tryd.underlying28 rowES Tryd.underlying102 Tryd.underlying119 rfl rfl Tryd.underlying9 cellsES cellsStr hd0 ok0
    have hndq : q0.Nodup := List.Nodup.sublist (List.sublist_append_right _ _) hnd
    obtain ⟨es, h1, h2, h3, h4⟩ := errs_go r gs q0 hq hndq (fun b off hm => hrows b off (List.mem_append_right _ hm)) hn.2 (fun g hg => ht g (List.mem_cons_of_mem _ hg)) (fun x hx => hd x (List.mem_cons_of_mem _ hx))
    have hm0 : MemPlace.cell a0.block a0.off ∈ MemPlace.row ⟨g0, 0, none⟩ (Array.mk [Value.iface 102 (.pointer (some a0))]).size ++ MemPlace.row a0 1 := by simp [MemPlace.row]
    refine ⟨a0 :: es, by simp [h1], List.nodup_cons.2 ⟨fun hin => ?_, h2⟩, fun a ha => ?_, fun k g a hk ha => ?_⟩
    · exact (List.nodup_append.1 hnd).2.2 _ hm0 _ (h3 _ hin) rfl
    · rcases List.mem_cons.1 ha with rfl | ha
      · exact List.mem_append_left _ hm0
      · exact List.mem_append_right _ (h3 _ ha)
    · cases k with
      | zero =>
        simp only [List.getElem?_cons_zero, Option.some.injEq] at hk ha
        subst hk ha
        exact ⟨by simpa [errAt] using World.var?_cell hg0 hv0 0, (hrows a0.block a0.off (List.mem_append_left _ hm0)).1⟩
      | succ k => exact h4 k g a (by simpa using hk) (by simpa using ha)
theorem errs_of_laid {W : World} {laid : List (String × DataW Unit)} {gs : List Nat} (h : laidMetH Tryd.prog laid W) (hp : (laid.all fun x => x.2.handleName?.isNone) = true)
    (hn : laid.map (fun x => Tryd.prog.globalNamed x.1) = gs.map some) (ht : ∀ g ∈ gs, (Tryd.prog.globals[g]?).map (·.type) = some 28) (hd : ∀ x ∈ laid, ∃ text, x.2 = errD text) : ∃ es, ErrsAt W gs es := by
  rw [MakeChecks.laidMetH_plain _ _ _ hp] at h
  obtain ⟨ps, hv, hnd, hrows⟩ := h
  obtain ⟨es, h1, h2, _, h4⟩ := errs_go laid gs ps hv hnd hrows hn ht hd
  exact ⟨es, h1, h2, h4⟩
theorem errs_at {W : World} {gs : List Nat} {es : List Addr} (h : ErrsAt W gs es) (k g : Nat) (hk : gs[k]? = some g) : ∃ a, es[k]? = some a ∧ W.cell? ⟨g, 0, none⟩ = some (errAt a) ∧ ∃ c t, W.heap[a.block]? = some (.cells c t (0, 0)) := by
  have hlt : k < es.length := by
    rw [← h.1]; exact (List.getElem?_eq_some_iff.1 hk).1
  exact ⟨es[k], List.getElem?_eq_getElem hlt, h.2.2 k g _ hk (List.getElem?_eq_getElem hlt)⟩
theorem errsAt_below {w w' : World} {gs : List Nat} {es : List Addr} (h : ErrsAt w gs es) (hb : Below w.heap.size w w') : ErrsAt w' gs es :=
  ⟨h.1, h.2.1, fun k g a hk ha => by
    obtain ⟨h1, c, t, h2⟩ := h.2.2 k g a hk ha
    exact ⟨(hb.cell (p := ⟨g, 0, none⟩) (by simpa using World.block_lt_of_cell? w _ h1)).trans h1, c, t, heap_later h2 hb⟩⟩
theorem infoPtr : ∃ i, Tryd.prog.info? 102 = some i ∧ i.comparable = true := by
  have h : (Tryd.prog.info? 102).map (·.comparable) = some true := by kernel_rfl
  cases hq : Tryd.prog.info? 102 with
  | none => simp [hq] at h
  | some i => simp only [hq, Option.map_some, Option.some.injEq] at h; exact ⟨i, rfl, h⟩
theorem infoES : ∃ j, Tryd.prog.info? 119 = some j ∧ j.size ≠ 0 := by
  have h : (Tryd.prog.info? 119).map (·.size) = some 1 := by kernel_rfl
  cases hq : Tryd.prog.info? 119 with
  | none => simp [hq] at h
  | some i => simp only [hq, Option.map_some, Option.some.injEq] at h; exact ⟨i, rfl, by omega⟩
/-- one error held against itself -/
theorem eq_same (w : World) (a : Addr) : (binOp .eql 28 (.iface 102 (.pointer (some a))) (.iface 102 (.pointer (some a)))).run Tryd.prog w = .ok (.bool true) w := by
  obtain ⟨i, h1, h2⟩ := infoPtr
  obtain ⟨j, h3, _⟩ := infoES
  exact run_eql_iface_ptr_same w a Tryd.underlying28 Tryd.underlying102 h1 h2 h3
theorem eq_other {w : World} {a b : Addr} {ca cb : Array Value} {ta tb : TypeId} (hne : a ≠ b) (ha : w.heap[a.block]? = some (.cells ca ta (0, 0))) (hb : w.heap[b.block]? = some (.cells cb tb (0, 0))) :
    (binOp .eql 28 (.iface 102 (.pointer (some a))) (.iface 102 (.pointer (some b)))).run Tryd.prog w = .ok (.bool false) w := by
  obtain ⟨i, h1, h2⟩ := infoPtr
  obtain ⟨j, h3, h4⟩ := infoES
  exact run_eql_iface_ptr_other w Tryd.underlying28 Tryd.underlying102 h1 h2 h3 h4 hne ha hb
end Go.Proofs.YtkoakingmnjdoabDoor

/- What the statements' own looks at lists of numbers answer: Ints, KeptInts, SameInts; nothing that was there turns. -/
namespace Go.Proofs.YtkoakingmnjdoabDoor
open Go.RowKit Gf
set_option linter.unusedVariables false
set_option maxRecDepth 20000
theorem rowI_at {w : World} {b off : Nat} {ns : List Int} (h : ∀ j n, ns[j]? = some n → w.cell? ⟨b, off + j, none⟩ = some (.int .i64 n)) (j : Nat) (hj : j < ns.length) : w.cell? ⟨b, off + j, none⟩ = some (.int .i64 (ns.getD j 0)) := by
  refine h j _ ?_
  rw [List.getD_eq_getElem?_getD, List.getElem?_eq_getElem hj]; rfl
theorem rowI_cell {w : World} {a : Option Addr} {ns : List Int} (h : RowI w a ns) {j : Nat} (hj : j < ns.length) : ∃ b off, a = some ⟨b, off, none⟩ ∧ b < w.heap.size ∧ ∀ j, j < ns.length → w.cell? ⟨b, off + j, none⟩ = some (.int .i64 (ns.getD j 0)) := by
  rcases h with e | ⟨b, off, rfl, h⟩
  · rw [e] at hj; simp at hj
  · have := World.block_lt_of_cell? w _ (rowI_at h j hj)
    exact ⟨b, off, rfl, by simpa using this, fun j hj => rowI_at h j hj⟩
def eqI (ns ms : List Int) : Bool := decide (ns = ms)
theorem eqI_true (ns : List Int) : eqI ns ns = true := by simp [eqI]
theorem eqI_ext {ns ms : List Int} (hl : ns.length = ms.length) (h : ∀ j, j < ns.length → ns.getD j 0 = ms.getD j 0) : ns = ms := by
  apply List.ext_getElem hl
  intro j h1 h2
  have := h j h1
  simpa [List.getD_eq_getElem?_getD, h1, h2] using this
theorem eqI_len {ns ms : List Int} (h : ns.length ≠ ms.length) : eqI ns ms = false := by
  simp only [eqI, decide_eq_false_iff_not]
  intro e; exact h (by rw [e])
theorem eqI_no {ns ms : List Int} {k : Nat} (h : ns.getD k 0 ≠ ms.getD k 0) : eqI ns ms = false := by
  simp only [eqI, decide_eq_false_iff_not]
  intro e; exact h (by rw [e])
/-- the marks behind a copied list of numbers -/
def marksI : List Int := [-91, -92, -93, -94]
def vis (ns : List Int) : Array Value := (ns.map (Value.int .i64)).toArray
theorem vis_size (ns : List Int) : (vis ns).size = ns.length := by simp [vis]
theorem vis_get {ns : List Int} {j : Nat} {n : Int} (h : ns[j]? = some n) : (vis ns)[j]? = some (.int .i64 n) := by simp [vis, h]
theorem rowI_front {w : World} {g : Nat} {ns ms : List Int} {t : TypeId} {fr : Nat × Nat} (h : w.heap[g]? = some (.cells (vis (ns ++ ms)) t fr)) : RowI w (some ⟨g, 0, none⟩) ns :=
  .inr ⟨g, 0, rfl, fun j n hj => by
    rw [Nat.zero_add]
    exact cellAt h j _ (vis_get (by rw [List.getElem?_append_left (List.getElem?_eq_some_iff.1 hj).1]; exact hj))⟩
theorem rowI_vis {w : World} {g : Nat} {ns : List Int} {t : TypeId} {fr : Nat × Nat} (h : w.heap[g]? = some (.cells (vis ns) t fr)) : RowI w (some ⟨g, 0, none⟩) ns :=
  .inr ⟨g, 0, rfl, fun j n hj => by rw [Nat.zero_add]; exact cellAt h j _ (vis_get hj)⟩
theorem rowI_alloc {w : World} {a : Option Addr} {ns : List Int} (h : RowI w a ns) (o : Obj) : RowI (w.alloc o) a ns := rowI_below h ((Below.refl _ _).alloc (Nat.le_refl _) _)
theorem run_appendI_room {w : World} {g n cap : Nat} {ns old ms : List Int} {a : Option Addr} {m c : Nat} (ty : TypeId) (h : w.heap[g]? = some (.cells (vis (ns ++ old)) 3 (0, 0))) (hn : n = ns.length) (hc : n + m ≤ cap) (hm : m = ms.length) (hroom : ms.length ≤ old.length) (hy : RowI w a ms) (hnil : a = none → c = 0) :
    (Builtin.append_ #[23, 23] ty #[.slice (some ⟨g, 0, none⟩) n cap, .slice a m c]).run Tryd.prog w = .ok (.slice (some ⟨g, 0, none⟩) (n + m) cap) (w.setRow g (vis (ns ++ ms ++ old.drop ms.length))) := by
  subst hn hm
  obtain ⟨i, hi, h1, h2, h3⟩ := infoI
  cases a with
  | none =>
    have hys : ms = [] := by
      rcases hy with e | ⟨b, off, e, _⟩
      · exact e
      · cases e
    subst hys
    have hc0 := hnil rfl
    subst hc0
    rw [List.append_nil, List.length_nil, List.drop_zero, setRow_self w g _ _ _ h]
    have hle : ns.length ≤ cap := by simpa using hc
    simp [Builtin.append_, run_underlying Tryd.underlying23, sizeOf, typeInfo, hi, Builtin.lenOf, Builtin.firstCells, loadCells, hle, storeCells]
  | some ad =>
    have := run_append_room (P := Tryd.prog) w 23 ty 3 i Tryd.underlying23 hi g ns.length cap _ h ad ms.length c (ms.map (Value.int .i64)) (by simp [h1]) (fun j v hv => by
      simp only [List.getElem?_map, Option.map_eq_some_iff] at hv
      obtain ⟨x, hx1, rfl⟩ := hv
      have hj : j < ms.length := (List.getElem?_eq_some_iff.1 hx1).1
      rcases hy with e' | ⟨b, off, e', hy⟩
      · rw [e'] at hj; simp at hj
      · cases e'
        have hadd : (⟨b, off, none⟩ : Addr).add j = ⟨b, off + j, none⟩ := by unfold Addr.add; split <;> simp_all
        rw [hadd, hy j _ hx1]) (fun v hv => by
      simp only [List.mem_map] at hv
      obtain ⟨x, _, rfl⟩ := hv
      rfl) hc (by simp [h1, vis_size]; omega)
    rw [this]
    congr 2
    rw [h1]
    simp only [vis, Nat.mul_one, List.length_map, List.map_append, List.toList_toArray]
    congr 1
    rw [List.take_left' (by simp), List.append_assoc, List.append_assoc, ← List.drop_drop, List.drop_left' (by simp), List.map_drop]
def zerosI (n : Nat) : List Int := List.replicate n 0
theorem madeI (n : Nat) : madeCells (Value.int .i64 0).cells n = vis (zerosI n) := by
  apply Array.ext_getElem?
  intro i
  by_cases h : i < n <;> simp [madeCells, vis, zerosI, Value.cells, h, Nat.mod_one]
theorem run_makeI_room (n : Nat) (hn : n ≤ 17592186043904) (w : World) :
    (Instr.makeSlice 23 (.int .i64 0) (.int .i64 ((n : Int) + 4))).run Tryd.prog w = .ok (.slice (some ⟨w.heap.size, 0, none⟩) 0 (n + 4)) (w.alloc (.cells (vis (zerosI (n + 4))) 3)) := by
  obtain ⟨i, hi, h1, h2, h3⟩ := infoI
  have := run_make (P := Tryd.prog) w 23 3 i _ Tryd.underlying23 hi h3 .i64 .i64 0 ((n : Int) + 4) (by omega) (by omega) (by rw [h2]; omega) (by omega)
  rw [this, h1]
  have e : ((n : Int) + 4).toNat = n + 4 := by omega
  simp only [e, Nat.mul_one, madeI, Int.toNat_zero]
theorem rowI_keep {w : World} {a : Option Addr} {ns : List Int} (h : RowI w a ns) : ∀ w', Below w.heap.size w w' → RowI w' a ns := fun w' hb => rowI_below h hb
end Go.Proofs.YtkoakingmnjdoabDoor
