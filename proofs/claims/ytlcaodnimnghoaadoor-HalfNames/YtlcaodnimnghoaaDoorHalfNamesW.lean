/- The walk of HalfNames: at all numbers and texts. -/
import Derived.Test.YtlcaodnimnghoaaDoorHalfM
import Derived.Test.YtlcaodnimnghoaaDoorHalfP
import Derived.Test.YtlcaodnimnghoaaDoorOwn
import Derived.Test.YtlcaodnimnghoaaDoorMatS
import Derived.Test.YtlcaodnimnghoaaDoorHalfF
import Derived.Test.YtlcaodnimnghoaaDoorErrs
import Derived.Deep.DeepCutAuto
/- What Row of package half answers, and Rows of numbers that aren't legal; alive of stage 5; nothing that was there turns. -/
namespace Go.Proofs.YtlcaodnimnghoaaDoor
open Go.RowKit Gf
set_option linter.unusedVariables false
set_option maxRecDepth 20000
set_option maxHeartbeats 1000000 in
theorem hrows_bad (k r : Int) (w : World) (s : Addr) (hs : w.cell? ⟨0, 0, none⟩ = some (errAt s)) (hk0 : -9223372036854775808 ≤ k) (hk1 : k ≤ 9223372036854775807) (hr0 : -9223372036854775808 ≤ r) (hr1 : r ≤ 9223372036854775807) (h : ¬ LegalP k r) :
    Calls Tryd.prog 18 #[.int .i64 k, .int .i64 r] w fun e w' => e = .returned (.tuple #[.agg #[.int .i64 0, .int .i64 0, .slice none 0 0], errAt s]) ∧ Below w.heap.size w w' := by
  have HB0 : Hid _ := (Below.refl w.heap.size w).alloc (Nat.le_refl _) (.cells #[.int .i64 0, .int .i64 0, .slice none 0 0] 42)
  have HA0 : Hid _ := holds_new (holds_nil w) #[.int .i64 0, .int .i64 0, .slice none 0 0] 42
  have HS : Hid _ := cell_later HB0.out hs
  have H : Hid _ := h
  clear h hs
  unfold errAt at *
  go_enter Tryd.func18, Tryd.ntmps18
  go_wp2_with fail
  refine Calls.mono (generator_bad k r _ s HS.out hk0 hk1 hr0 hr1 H.out) ?_
  unfold errAt
  rintro e w1 ⟨rfl, hb1⟩
  have HA1 : Hid _ := holds_alloc (holds_later HA0.out hb1) (.cells #[.int .i64 0, .int .i64 0, .slice none 0 0] 42)
  have hB1 := HB0.out.trans (hb1.mono HB0.out.size)
  have HB1 : Hid _ := hB1.alloc hB1.size (.cells #[.int .i64 0, .int .i64 0, .slice none 0 0] 42)
  have zz := hb1.size
  have k2 := holds_at (holds_later HA0.out hb1) 0 rfl
  have d4 : w1.frozen? ⟨w.heap.size, 0, none⟩ = false := frozen_of_row _ _ _ _ _ k2
  have d5 : w1.frozen? ⟨w.heap.size, 1, none⟩ = false := frozen_of_row _ _ _ _ _ k2
  have d6 : w1.frozen? ⟨w.heap.size, 2, none⟩ = false := frozen_of_row _ _ _ _ _ k2
  have c4 := cellAt k2 0 _ rfl
  have c5 := cellAt k2 1 _ rfl
  have c6 := cellAt k2 2 _ rfl
  have z4 := ltHeap k2
  have hbX : Hid _ := hb1
  clear hb1 hB1 k2
  go_wp2
  refine bodyPost_ret (v := .tuple #[.agg #[.int .i64 0, .int .i64 0, .slice none 0 0], .iface 121 (.pointer (some s))]) (by simp [results, Tryd.results18, go_sem, c4, c5, c6, z4]) rfl ⟨rfl, ?_⟩
  have hX := (((HB0.out.trans (hbX.out.mono HB0.out.size)).setCell (p := ⟨w.heap.size, 0, none⟩) (Nat.le_refl _) (.int .i64 0)).setCell (p := ⟨w.heap.size, 1, none⟩) (Nat.le_refl _) (.int .i64 0)).setCell (p := ⟨w.heap.size, 2, none⟩) (Nat.le_refl _) (.slice none 0 0)
  exact hX.alloc hX.size _
theorem rowAt_half {k r h : Nat} (hh : h < 2 * (k + r)) : rowAt (2 * k) (halfM k r) h = rowF (2 * k) (halfF k (carN (groupN k r)) h) := rowAt_grid hh
set_option maxHeartbeats 1000000 in
theorem hrow_F (k r h : Nat) (w : World) (s0 : Addr) (hs0 : w.cell? ⟨3, 0, none⟩ = some (errAt s0)) (h1 : 1 ≤ k) (h2 : 2 ≤ r) (h3 : k + r ≤ 16) (hh : h < 2 * (k + r)) :
    Calls Tryd.prog 17 #[.int .i64 k, .int .i64 r, .int .i64 h] w fun e w' => ∃ g cap, e = .returned (.tuple #[.slice (some ⟨g, 0, none⟩) (2 * k) cap, .nilIface]) ∧ w.heap.size ≤ g ∧ Has8 w' g (rowF (2 * k) (halfF k (carN (groupN k r)) h)) cap ∧ Below w.heap.size w w' := by
  obtain ⟨s, p, hp, hst, en⟩ : ∃ s p : Nat, p < 2 ∧ s < k + r ∧ h = 2 * s + p := ⟨h / 2, h % 2, by omega, by omega, by omega⟩
  have HE : Hid _ := en
  have HV : Hid _ := fun w s hs => hrows_F k r w s hs h1 h2 h3
  have hrh := rowAt_half hh
  have hml := halfM_len k r
  obtain ⟨n, hn⟩ : ∃ n, n = 2 * (k + r) := ⟨_, rfl⟩
  obtain ⟨c, hc⟩ : ∃ c, c = 2 * k := ⟨_, rfl⟩
  rw [← hn] at hh
  rw [← hn, ← hc] at HV hml
  rw [← hc] at hrh ⊢
  rw [← hrh]
  have hn32 : n ≤ 32 := by omega
  have hc32 : c ≤ 32 := by omega
  have HML : Hid _ := hml
  have HS : Hid _ := hs0
  clear en hrh hml hn hc hs0
  go_enter Tryd.func17, Tryd.ntmps17
  go_wp2_with fail
  refine (find_ok k r h s p _ h1 h2 h3 HE.out hp hst).mono ?_
  rintro e w1 ⟨rfl, hb1⟩
  have HB1 : Hid _ := hb1.alloc hb1.size (.cells #[.int .i64 s, .int .i64 p] 66)
  clear hb1
  go_wp2_with fail
  refine Calls.mono (HV.out _ s0 (cell_later HB1.out HS.out)) ?_
  rintro e w2 ⟨g2, m2, rfl, hm2, hg2, hh2, hb2⟩
  have HM2 : Hid _ := hm2
  have HA2 : Hid _ := holds_new (holds_cons (holds_nil w2) hh2) #[.int .i64 n, .int .i64 c, .slice (some ⟨g2, 0, none⟩) m2 m2] 42
  have hB2 := HB1.out.trans (hb2.mono HB1.out.size)
  have HB2 : Hid _ := hB2.alloc hB2.size (.cells #[.int .i64 n, .int .i64 c, .slice (some ⟨g2, 0, none⟩) m2 m2] 42)
  clear hb2 hh2 hm2 hB2
  have c1 := cellAt (holds_at HA2.out 0 rfl) 0 _ rfl
  have c2 := cellAt (holds_at HA2.out 0 rfl) 1 _ rfl
  have c3 := cellAt (holds_at HA2.out 0 rfl) 2 _ rfl
  have z3 := ltHeap (holds_at HA2.out 0 rfl)
  go_wp2_with fail
  refine Calls.mono (row_F n c m2 m2 h (some ⟨g2, 0, none⟩) (halfM k r) _ (by omega) (by omega) HM2.out HML.out (Nat.le_refl _) (holds_row HA2.out 1 rfl) (fun h => by cases h) hh) ?_
  rintro e w5 ⟨a5, cap5, rfl, hr5, hn5, h5, hb5⟩
  obtain ⟨g5, rfl, hg5, h8⟩ := h5 (by simp)
  have H8 : Hid _ := h8
  have HB5 : Hid (Below w.heap.size w w5) := HB2.out.trans (hb5.mono HB2.out.size)
  have hz := HB2.out.size
  clear hb5 hr5 hn5 h5 h8 c1 c2 c3 z3
  go_wp2
  go_ret2
  exact ⟨g5, cap5, rfl, by omega, H8.out, HB5.out⟩
theorem hrow_err (k r h : Int) (s : Addr) (w : World) (hF : ∀ w0 : World, w0 = w → Calls Tryd.prog 34 #[.int .i64 k, .int .i64 r, .int .i64 h] w0 fun e w' => e = .returned (.tuple #[.agg #[.int .i64 0, .int .i64 0], errAt s]) ∧ Below w0.heap.size w0 w') :
    Calls Tryd.prog 17 #[.int .i64 k, .int .i64 r, .int .i64 h] w fun e w' => e = .returned (.tuple #[.slice none 0 0, errAt s]) ∧ Below w.heap.size w w' := by
  have HF : Hid _ := hF
  clear hF
  unfold errAt at HF ⊢
  go_enter Tryd.func17, Tryd.ntmps17
  go_wp2_with fail
  refine (HF.out _ rfl).mono ?_
  rintro e w1 ⟨rfl, hb⟩
  have HB : Hid _ := hb
  clear hb
  go_wp2
  go_ret2
  exact ⟨rfl, HB.out.alloc HB.out.size _⟩
theorem hrow_bad (k r h : Int) (w : World) (s : Addr) (hs : w.cell? ⟨0, 0, none⟩ = some (errAt s)) (hk0 : -9223372036854775808 ≤ k) (hk1 : k ≤ 9223372036854775807) (hr0 : -9223372036854775808 ≤ r) (hr1 : r ≤ 9223372036854775807) (hL : ¬ LegalP k r) :
    Calls Tryd.prog 17 #[.int .i64 k, .int .i64 r, .int .i64 h] w fun e w' => e = .returned (.tuple #[.slice none 0 0, errAt s]) ∧ Below w.heap.size w w' :=
  hrow_err k r h s w fun w0 e => find_bad k r h w0 s (e ▸ hs) hk0 hk1 hr0 hr1 hL
theorem hrow_no (k r : Nat) (h : Int) (w : World) (s : Addr) (hs : w.cell? ⟨1, 0, none⟩ = some (errAt s)) (h1 : 1 ≤ k) (h2 : 2 ≤ r) (h3 : k + r ≤ 16) (hh : ¬ (0 ≤ h ∧ h < 2 * (k + r))) :
    Calls Tryd.prog 17 #[.int .i64 k, .int .i64 r, .int .i64 h] w fun e w' => e = .returned (.tuple #[.slice none 0 0, errAt s]) ∧ Below w.heap.size w w' :=
  hrow_err k r h s w fun w0 e => find_no k r h w0 s (e ▸ hs) h1 h2 h3 hh
theorem alive5_row : rowF (2 * 1) (halfF 1 (carN (groupN 1 2)) 5) = [1, 142] := by decide +kernel
theorem alive5_name : strB (nameB 4 9) = ⟨#[112, 48, 98]⟩ := by decide +kernel
set_option maxHeartbeats 2000000 in
theorem alive5_ok (w : World) (s0 : Addr) (hs0 : w.cell? ⟨3, 0, none⟩ = some (errAt s0)) : Calls Tryd.prog 9 #[] w fun e w' => e = .returned (.bool true) ∧ Below w.heap.size w w' := by
  have HS : Hid _ := hs0
  clear hs0
  go_enter Tryd.func9, Tryd.ntmps9
  go_wp2_with fail
  refine Calls.mono (name_ok 4 3 9 _ (by decide) (by decide) (by decide) (by decide)) ?_
  rw [alive5_name]
  rintro e w1 ⟨rfl, hb1⟩
  have HB1 : Hid _ := hb1
  clear hb1
  go_wp2_with fail
  refine Calls.mono (hrow_F 1 2 5 _ s0 (cell_later HB1.out HS.out) (by decide) (by decide) (by decide) (by decide)) ?_
  rw [alive5_row]
  rintro e w2 ⟨g, cap, rfl, hg, hh, hb2⟩
  have HB2 : Hid (Below w.heap.size w w2) := HB1.out.trans (hb2.mono HB1.out.size)
  have hcv := conv8 (la := 2) (ca := cap) (show 2 = ([1, 142] : List F).length from rfl) (row8_has hh)
  rw [show str8 [1, 142] = { data := #[1, 142] } by decide +kernel] at hcv
  have hcv2 := conv8 (ca := 2) (show 2 = ([1, 142] : List F).length from rfl) (row8_own (heap_alloc_last w2 (.cells #[.int .u8 1, .int .u8 142] 5)) (xs := [1, 142]))
  rw [show str8 [1, 142] = { data := #[1, 142] } by decide +kernel] at hcv2
  clear hb2 hh
  go_wp2
  go_ret
  exact ⟨rfl, HB2.out.alloc HB2.out.size _⟩
end Go.Proofs.YtlcaodnimnghoaaDoor

/- What the statements' own choice of numbers answers: so many numbers, rising, all below the bound; nothing that was there turns. -/
namespace Go.Proofs.YtlcaodnimnghoaaDoor
open Go.RowKit Gf
set_option linter.unusedVariables false
set_option maxRecDepth 20000
/-- marks in memory -/
def bvs (n : Nat) (f : Nat → Bool) : Array Value := ((List.range n).map fun i => Value.bool (f i)).toArray
theorem bvs_size (n : Nat) (f : Nat → Bool) : (bvs n f).size = n := by simp [bvs]
theorem bvs_get {n i : Nat} {f : Nat → Bool} (h : i < n) : (bvs n f)[i]? = some (.bool (f i)) := by simp [bvs, h]
def upB (f : Nat → Bool) (i : Nat) : Nat → Bool := fun j => f j || decide (j = i)
theorem bvs_set {n i : Nat} {f : Nat → Bool} : (bvs n f).setIfInBounds i (.bool true) = bvs n (upB f i) := by
  apply Array.ext_getElem?
  intro j
  simp only [bvs, Array.getElem?_setIfInBounds, List.size_toArray, List.length_map, List.length_range, List.getElem?_toArray, List.getElem?_map, upB]
  by_cases h : i = j
  · subst h; by_cases h2 : i < n <;> simp [h2]
  · rw [if_neg h]
    by_cases h2 : j < n <;> simp [h2, Ne.symm h]
theorem madeB (n : Nat) : madeCells (Value.bool false).cells n = bvs n (fun _ => false) := by
  apply Array.ext_getElem?
  intro i
  by_cases h : i < n <;> simp [madeCells, bvs, Value.cells, h, Nat.mod_one]
theorem run_makeB (n : Nat) (hn : n ≤ 65536) (w : World) :
    (Instr.makeSlice 58 (.int .i64 (n : Int)) (.int .i64 (n : Int))).run Tryd.prog w = .ok (.slice (some ⟨w.heap.size, 0, none⟩) n n) (w.alloc (.cells (bvs n (fun _ => false)) 4)) := by
  have hi : (Tryd.prog.info? 4).map (fun i => (i.size, i.bytes, i.zero)) = some (1, 1, some (.bool false)) := by kernel_rfl
  cases hq : Tryd.prog.info? 4 with
  | none => simp [hq] at hi
  | some i =>
    simp only [hq, Option.map_some, Option.some.injEq, Prod.mk.injEq] at hi
    have := run_make (P := Tryd.prog) w 58 4 i _ Tryd.underlying58 hq hi.2.2 .i64 .i64 n n (by omega) (by omega) (by rw [hi.2.1]; omega) (by omega)
    rw [this, hi.1]
    simp only [Int.toNat_natCast, Nat.mul_one, madeB]
/-- how many are marked -/
def cntB (f : Nat → Bool) (n : Nat) : Nat := ((List.range n).filter f).length
theorem cntB_le (f : Nat → Bool) (n : Nat) : cntB f n ≤ n := by have := List.length_filter_le f (List.range n); simpa [cntB] using this
theorem cntB_succ (f : Nat → Bool) (n : Nat) : cntB f (n + 1) = cntB f n + if f n then 1 else 0 := by
  simp only [cntB, List.range_succ, List.filter_append, List.length_append, List.filter_cons, List.filter_nil]
  split <;> rfl
theorem cntB_same {f g : Nat → Bool} : ∀ {n : Nat}, (∀ i, i < n → f i = g i) → cntB f n = cntB g n
  | 0, _ => rfl
  | n + 1, h => by rw [cntB_succ, cntB_succ, cntB_same (n := n) (fun i hi => h i (by omega)), h n (by omega)]
theorem cntB_up {f : Nat → Bool} {i : Nat} (hf : f i = false) : ∀ {n : Nat}, i < n → cntB (upB f i) n = cntB f n + 1
  | 0, h => absurd h (Nat.not_lt_zero _)
  | n + 1, h => by
    rw [cntB_succ, cntB_succ]
    by_cases e : i = n
    · subst e
      rw [cntB_same (f := upB f i) (g := f) (fun j hj => by simp [upB, Nat.ne_of_lt hj]), hf]
      simp [upB]
    · rw [cntB_up hf (n := n) (by omega)]
      have : upB f i n = f n := by simp [upB, Ne.symm e]
      rw [this]; omega
theorem cntB_all {f : Nat → Bool} : ∀ {n : Nat}, (∀ i, i < n → f i = true) → cntB f n = n
  | 0, _ => rfl
  | n + 1, h => by rw [cntB_succ, cntB_all (n := n) (fun i hi => h i (by omega)), h n (by omega)]; rfl
theorem cntB_none (n : Nat) : cntB (fun _ => false) n = 0 := by simp [cntB]
/-- the marked numbers -/
def pickB (f : Nat → Bool) (n : Nat) : List Nat := (List.range n).filter f
theorem pickB_same {f g : Nat → Bool} {n : Nat} (h : ∀ i, i < n → f i = g i) : pickB f n = pickB g n := List.filter_congr fun i hi => h i (by simpa using hi)
theorem pickB_yes {f : Nat → Bool} {n : Nat} (h : f n = true) : pickB f (n + 1) = pickB f n ++ [n] := by simp [pickB, List.range_succ, h]
theorem pickB_no {f : Nat → Bool} {n : Nat} (h : f n = false) : pickB f (n + 1) = pickB f n := by simp [pickB, List.range_succ, h]
theorem pickB_up {f : Nat → Bool} {n : Nat} : pickB (upB f n) n = pickB f n := pickB_same fun i hi => by simp [upB, Nat.ne_of_lt hi]
theorem pickB_sorted (f : Nat → Bool) (n : Nat) : (pickB f n).Pairwise (· < ·) := List.pairwise_lt_range.filter _
theorem pickB_lt {f : Nat → Bool} {n : Nat} : ∀ x ∈ pickB f n, x < n := fun x hx => by simpa using (List.mem_filter.1 hx).1
/-- numbers as values -/
def nvs (L : List Nat) : List Value := L.map fun i => Value.int .i64 ((i : Nat) : Int)
theorem nvs_snoc (L : List Nat) (i : Nat) : nvs L ++ [.int .i64 (i : Int)] = nvs (L ++ [i]) := by simp [nvs]
theorem own_setCell {w : World} {B n g i : Nat} {v x : Value} {e : TypeId} {s : Nat} {xs : List Value} (h : w.ownsRow B e s v n xs) (hg : g < B) : (w.setCell ⟨g, i, none⟩ x).ownsRow B e s v n xs := by
  refine ⟨h.1, h.2.imp id fun ⟨b, cap, cur, h1, h2, h3, h4⟩ => ⟨b, cap, cur, h1, h2, (heap_setCell_other _ _ _ _ (by show b ≠ g; omega)).trans h3, h4⟩⟩
theorem mod_place (x : Int) {n : Nat} (hn : 1 ≤ n) : (-(n : Int) < x.tmod n ∧ x.tmod n < n) ∧ ∃ j : Nat, j < n ∧ x.tmod n % (n : Int) = j := by
  have h1 : -(n : Int) < x.tmod n := by
    rcases Int.le_total 0 x with h | h
    · have := Int.tmod_nonneg n h; omega
    · have h2 := Int.neg_tmod (a := -x) (b := (n : Int))
      have h3 := Int.tmod_lt_of_pos (-x) (show (0 : Int) < n by omega)
      rw [Int.neg_neg] at h2; omega
  have h2 := Int.tmod_lt_of_pos x (show (0 : Int) < n by omega)
  have h3 : 0 ≤ x.tmod n % (n : Int) := Int.emod_nonneg _ (by omega)
  have h4 := Int.emod_lt_of_pos (x.tmod n) (show (0 : Int) < n by omega)
  exact ⟨⟨h1, h2⟩, (x.tmod n % (n : Int)).toNat, by omega, by omega⟩
end Go.Proofs.YtlcaodnimnghoaaDoor

/- What Carried of package half answers, at all numbers; nothing that was there turns. -/
namespace Go.Proofs.YtlcaodnimnghoaaDoor
open Go.RowKit Gf
set_option linter.unusedVariables false
set_option maxRecDepth 20000
/-- what a parity carries -/
def carL (k g i : Nat) : List Nat := pickB (fun x => decide (carN g x = i)) k
def castL (L : List Nat) : List Int := L.map fun x => ((x : Nat) : Int)
theorem castL_len (L : List Nat) : (castL L).length = L.length := by simp [castL]
theorem nvs_cast (L : List Nat) : nvs L = (castL L).map (Value.int .i64) := by simp [nvs, castL]
theorem ownI_slice {w : World} {B n : Nat} {v : Value} {L : List Nat} (ho : w.ownsRow B 3 1 v n (nvs L)) : ∃ a cap, v = .slice a n cap ∧ RowI w a (castL L) ∧ n = L.length ∧ (a = none → cap = 0) := by
  have hl := ho.1
  rw [nvs, List.length_map] at hl
  rcases ho.2 with ⟨rfl, e⟩ | ⟨g, cap, cur, rfl, h2⟩
  · exact ⟨none, 0, by rw [e], .inl (by rw [List.eq_nil_of_length_eq_zero (l := L) (by omega)]; rfl), by omega, fun _ => rfl⟩
  · rw [nvs_cast] at ho
    exact ⟨_, _, rfl, rowI_own ho, by omega, fun h => by cases h⟩
set_option maxHeartbeats 4000000 in
theorem hcarried_F (k r i : Nat) (w : World) (h1 : 1 ≤ k) (h2 : 2 ≤ r) (h3 : k + r ≤ 16) (hi : i < r) :
    Calls Tryd.prog 13 #[.int .i64 k, .int .i64 r, .int .i64 i] w fun e w' => ∃ a n cap, e = .returned (.tuple #[.slice a n cap, .nilIface]) ∧ n = (carL k (groupN k r) i).length ∧ RowI w' a (castL (carL k (groupN k r) i)) ∧ (a = none → cap = 0) ∧ Below w.heap.size w w' := by
  obtain ⟨g1, _, _, g2⟩ := groupN_least h1 h2 h3
  have HG : Hid _ := fun w => bgroup_ok k r w h1 h2 h3
  generalize groupN k r = g at *
  have HCF : Hid _ := fun j w (hj : j ≤ 1000) => carrier_F g j w g1 (by omega) hj
  obtain ⟨f, hf⟩ : ∃ f : Nat → Bool, f = fun x => decide (carN g x = i) := ⟨_, rfl⟩
  have hcl : carL k g i = pickB f k := by rw [hf]; rfl
  have hft : Hid (∀ x, carN g x = i → f x = true) := fun x h => by rw [hf]; exact decide_eq_true h
  have hff : Hid (∀ x, ¬ carN g x = i → f x = false) := fun x h => by rw [hf]; exact decide_eq_false h
  rw [hcl]
  generalize carN g = car at *
  have i1 : (i : Int) < r := by omega
  have HI : Hid _ := i1
  clear hf hcl i1
  go_enter Tryd.func13, Tryd.ntmps13
  go_wp2_with fail
  refine (HG.out _).mono ?_
  rintro e w1 ⟨rfl, rfl⟩
  go_wp2_with fail
  refine (hthere_yes _ _ _ (by omega) HI.out).mono ?_
  rintro e w1 ⟨rfl, rfl⟩
  go_wp2
  go_loopw [10, 27] (fun v t wr => ∃ j : Nat, j ≤ k ∧ t = .int .i64 j ∧ Below w.heap.size w wr ∧ wr.ownsRow w.heap.size 3 1 v (pickB f j).length (nvs (pickB f j))) (fun _ t _ => k - (intOf t).toNat)
  case atStart => exact ⟨0, by omega, rfl, Below.refl _ _, World.ownsRow_nil _ _ _ _⟩
  case round =>
    obtain ⟨j, hj, rfl, hb, ho⟩ := hrel
    have HB : Hid _ := hb
    have HO : Hid _ := ho
    obtain ⟨av, cv, rfl, hv, hn, hnil⟩ := ownI_slice ho
    have HV : Hid _ := hv
    have HNN : Hid _ := hnil
    have hl : (pickB f j).length ≤ 16 := by have := cntB_le f j; show cntB f j ≤ 16; omega
    clear hb ho hv hn hnil
    by_cases hlt : j < k
    · go_wp2_with fail
      refine (HCF.out j _ (by omega)).mono ?_
      rintro e w2 ⟨rfl, rfl⟩
      by_cases hc : car j = i
      · have hci : (car j : Int) = i := by omega
        have ho := World.ownsRow.alloc HO.out (.cells #[.int .i64 j] 3)
        obtain ⟨g2, cap2, w6, hrun, ho2, hgr, hor, hlt2⟩ := appendI (b := wr.heap.size) (c := 1) (x := (j : Int)) 31 ho (cellAt (heap_alloc_last wr (.cells #[.int .i64 j] 3)) 0 _ rfl) (by omega) (by have := HB.out.size; simp; omega)
        rw [nvs_snoc, ← pickB_yes (hft.out j hc)] at ho2
        have hb6 := below_own (B := w.heap.size) (HB.out.alloc HB.out.size (.cells #[.int .i64 j] 3)) ho hgr (by have := HB.out.size; simp; omega)
        have hlen : (pickB f j).length + 1 = (pickB f (j + 1)).length := by rw [pickB_yes (hft.out j hc)]; simp
        have HRun : Hid _ := hrun
        have HO2 : Hid _ := ho2
        have HB6 : Hid _ := hb6
        have HL : Hid _ := hlen
        clear ho hrun ho2 hb6 hgr hor hlt2 hlen hc
        go_wp2_with (at_builtin; refine wpList_append_run rfl _ _ 31 rfl _ _ _ _ rfl rfl HRun.out ?_)
        have ho9 := HO2.out
        rw [HL.out] at ho9
        rw [HL.out]
        exact ⟨⟨j + 1, by omega, by go_num, HB6.out, ho9⟩, by simp [intOf]; omega⟩
      · have hci : ¬ (car j : Int) = i := by omega
        have hpk := pickB_no (hff.out j hc)
        have HPK : Hid _ := hpk
        clear hc hpk
        go_wp2
        have ho9 := HO.out
        exact ⟨⟨j + 1, by omega, by go_num, HB.out, by rw [HPK.out]; exact ho9⟩, by simp [intOf]; omega⟩
    · obtain rfl : j = k := by omega
      go_wp2
      go_ret2
      exact ⟨av, _, cv, rfl, rfl, HV.out, HNN.out, HB.out⟩
theorem hcarried_bad (k r x : Int) (w : World) (s : Addr) (hs : w.cell? ⟨0, 0, none⟩ = some (errAt s)) (hk0 : -9223372036854775808 ≤ k) (hk1 : k ≤ 9223372036854775807) (hr0 : -9223372036854775808 ≤ r) (hr1 : r ≤ 9223372036854775807) (hL : ¬ LegalP k r) :
    Calls Tryd.prog 13 #[.int .i64 k, .int .i64 r, .int .i64 x] w fun e w' => e = .returned (.tuple #[.slice none 0 0, errAt s]) ∧ w = w' := by
  have HS : Hid _ := hs
  have H : Hid _ := hL
  clear hs hL
  go_enter Tryd.func13, Tryd.ntmps13
  go_wp2_with fail
  refine (bgroup_bad k r _ s HS.out hk0 hk1 hr0 hr1 H.out).mono ?_
  unfold errAt
  rintro e w' ⟨rfl, rfl⟩
  go_wp2
  go_ret2
  exact ⟨rfl, rfl⟩
theorem hcarried_no (k r : Nat) (x : Int) (w : World) (s : Addr) (hs : w.cell? ⟨2, 0, none⟩ = some (errAt s)) (h1 : 1 ≤ k) (h2 : 2 ≤ r) (h3 : k + r ≤ 16) (hx : ¬ (0 ≤ x ∧ x < r)) :
    Calls Tryd.prog 13 #[.int .i64 k, .int .i64 r, .int .i64 x] w fun e w' => e = .returned (.tuple #[.slice none 0 0, errAt s]) ∧ Below w.heap.size w w' := by
  have hlt := World.block_lt_of_cell? w _ hs
  simp at hlt
  have HX : Hid _ := hx
  unfold errAt at *
  clear hx
  go_enter Tryd.func13, Tryd.ntmps13
  go_wp2_with fail
  refine (bgroup_ok _ _ _ h1 h2 h3).mono ?_
  rintro e w' ⟨rfl, rfl⟩
  go_wp2_with fail
  refine (hthere_no _ _ _ HX.out).mono ?_
  rintro e w' ⟨rfl, rfl⟩
  go_wp2
  go_region
  go_wp2
  go_ret2
  exact ⟨rfl, (Below.refl _ _).drew⟩
end Go.Proofs.YtlcaodnimnghoaaDoor

/- The walk of HalfCarries: at all numbers. -/
namespace Go.Proofs.YtlcaodnimnghoaaDoor
open Go.RowKit Gf
set_option linter.unusedVariables false
set_option maxRecDepth 20000
def gsHalf : List Nat := [0, 3, 1, 2]
/-- so many data shards do the first parities carry -/
def carS (k g i : Nat) : Nat := ((List.range i).map fun x => (carL k g x).length).sum
theorem carS_succ (k g i : Nat) : carS k g (i + 1) = carS k g i + (carL k g i).length := by simp [carS, List.range_succ]
theorem carS_all : ∀ k < 15, ∀ r < 17, 1 ≤ k → 2 ≤ r → k + r ≤ 16 → carS k (groupN k r) r = k := by decide +kernel
theorem carL_le1 : ∀ k < 15, ∀ r < 17, (1 ≤ k ∧ 2 ≤ r ∧ k + r ≤ 16) → ∀ i < r, (carL k (groupN k r) i).length ≤ groupN k r := by decide +kernel
theorem carS_le : ∀ k < 15, ∀ r < 17, (1 ≤ k ∧ 2 ≤ r ∧ k + r ≤ 16) → ∀ i < r, carS k (groupN k r) i ≤ 16 := by decide +kernel
theorem carL_zero (k g : Nat) : (carL k g 0).length = 0 := by
  rw [List.length_eq_zero_iff, carL, pickB, List.filter_eq_nil_iff]
  intro x _
  simp [carN]
theorem carL_at {k g i q x : Nat} (h : (carL k g i)[q]? = some x) : x < k ∧ carN g x = i := by
  have hm : x ∈ carL k g i := List.mem_of_getElem? h
  rw [carL, pickB, List.mem_filter] at hm
  exact ⟨List.mem_range.1 hm.1, of_decide_eq_true hm.2⟩
theorem carL_up {k g i q x y : Nat} (h : (carL k g i)[q]? = some y) (h2 : (carL k g i)[q + 1]? = some x) : y < x := by
  have hp := pickB_sorted (fun x => decide (carN g x = i)) k
  obtain ⟨a1, a2⟩ := List.getElem?_eq_some_iff.1 h
  obtain ⟨b1, b2⟩ := List.getElem?_eq_some_iff.1 h2
  have := List.pairwise_iff_getElem.1 hp q (q + 1) a1 b1 (by omega)
  rw [← a2, ← b2]; exact this
theorem castL_at {L : List Nat} {q x : Nat} (h : L[q]? = some x) : (castL L)[q]? = some (x : Int) := by simp [castL, h]
set_option maxHeartbeats 4000000 in
theorem carries_ok (k r : Nat) (w : World) (s0 : Addr) (hs : w.cell? ⟨3, 0, none⟩ = some (errAt s0)) (h1 : 1 ≤ k) (h2 : 2 ≤ r) (h3 : k + r ≤ 16) :
    Calls Tryd.prog 6 #[.int .i64 k, .int .i64 r] w fun e w' => e = .returned (.bool true) ∧ Below w.heap.size w w' := by
  have HS : Hid _ := hs
  have HRG : Hid _ := fun w => rgroup_F k r w h1 h2 h3
  have HCD : Hid _ := fun i w hi => hcarried_F k r i w h1 h2 h3 hi
  have HCR : Hid _ := fun j w hj => hcarrier_ok k r j w h1 h2 h3 hj
  have HLE : Hid (∀ i, i < r → (carL k (groupN k r) i).length ≤ groupN k r ∧ (i = 0 → (carL k (groupN k r) i).length = 0) ∧ carS k (groupN k r) i ≤ 16) := fun i hi => ⟨carL_le1 k (by omega) r (by omega) ⟨h1, h2, h3⟩ i hi, fun e => by rw [e]; exact carL_zero _ _, carS_le k (by omega) r (by omega) ⟨h1, h2, h3⟩ i hi⟩
  have HSUM : Hid _ := carS_all k (by omega) r (by omega) h1 h2 h3
  obtain ⟨_, _, _, g16⟩ := groupN_least h1 h2 h3
  generalize groupN k r = g at *
  clear hs
  go_enter Tryd.func6, Tryd.ntmps6
  go_wp2_with fail
  refine Calls.mono (alive5_ok _ s0 HS.out) ?_
  rintro e w1 ⟨rfl, hb⟩
  have HB1 : Hid _ := hb
  clear hb
  go_wp2_with fail
  refine Calls.mono (legal_yes k r _ h1 h2 h3) ?_
  rintro e w2 ⟨rfl, rfl⟩
  go_wp2_with fail
  refine Calls.mono (HRG.out _) ?_
  rintro e w2 ⟨rfl, rfl⟩
  go_wp2
  go_loopw [6, 7] (fun c v wr => ∃ i : Nat, i ≤ r ∧ v = .int .i64 i ∧ c = .int .i64 (carS k g i) ∧ Below w.heap.size w wr) (fun _ v _ => r - (intOf v).toNat)
  case atStart => exact ⟨0, by omega, rfl, rfl, HB1.out⟩
  case round =>
    obtain ⟨i, hi, rfl, rfl, hb⟩ := hrel
    have HB : Hid _ := hb
    clear hb
    by_cases hlt : i < r
    · obtain ⟨l1, l2, l3⟩ := HLE.out i hlt
      go_wp2_with fail
      refine Calls.mono (HCD.out i _ hlt) ?_
      rintro e w3 ⟨a, n, cap, rfl, hn, hrow, _, hb3⟩
      have HN : Hid _ := hn
      have HR : Hid _ := hrow
      have HB3 : Hid (Below w.heap.size w w3) := HB.out.trans (hb3.mono HB.out.size)
      rw [← hn] at l1 l2
      have hss : carS k g (i + 1) = carS k g i + n := by rw [carS_succ, hn]
      have HSS : Hid _ := hss
      clear hn hrow hb3 hss
      generalize hsi : carS k g i = si at *
      have HSI : Hid _ := hsi
      clear hsi
      go_upto_region 11 with fail
      go_cut [51] (fun s51 wx => s51 = .bool false ∧ w3 = wx)
      case first =>
        by_cases hi0 : i = 0
        · have n0 := l2 hi0
          subst hi0
          subst n0
          go_wp2
          go_meet
          exact ⟨rfl, rfl⟩
        · go_wp2
          go_meet
          exact ⟨congrArg Value.bool (decide_eq_false (by omega)), rfl⟩
      case rest =>
      obtain ⟨rfl, rfl⟩ := hcut
      go_wp2
      go_loopw [6, 54] (fun c v wr => ∃ q : Nat, q ≤ n ∧ v = .int .i64 q ∧ c = .int .i64 (si + q : Nat) ∧ Below w3.heap.size w3 wr) (fun _ v _ => n - (intOf v).toNat)
      case atStart => exact ⟨0, by omega, rfl, rfl, Below.refl _ _⟩
      case round =>
        obtain ⟨q, hq, rfl, rfl, hb⟩ := hrel
        have HBB : Hid _ := hb
        clear hb
        by_cases hqn : q < n
        · obtain ⟨x, hx⟩ : ∃ x, (carL k g i)[q]? = some x := ⟨_, List.getElem?_eq_getElem (by rw [← HN.out]; exact hqn)⟩
          rcases HR.out with e0 | ⟨b, off, rfl, hrows⟩
          · have := congrArg List.length e0
            rw [castL_len, ← HN.out] at this
            simp at this; omega
          have c1 := cell_later HBB.out (hrows q _ (castL_at hx))
          obtain ⟨x1, x2⟩ := carL_at hx
          go_wp2_with fail
          refine Calls.mono (HCR.out x _ x1) ?_
          rw [x2]
          rintro e w5 ⟨rfl, rfl⟩
          cases q with
          | zero =>
            clear hrows
            go_wp2
            exact ⟨⟨1, by omega, by go_num, by go_num, HBB.out⟩, by simp [intOf]; omega⟩
          | succ p =>
            obtain ⟨y, hy⟩ : ∃ y, (carL k g i)[p]? = some y := ⟨_, List.getElem?_eq_getElem (by rw [← HN.out]; omega)⟩
            have c2 := cell_later HBB.out (hrows p _ (castL_at hy))
            have hyx := carL_up hy hx
            have hyx2 : (y : Int) < x := by omega
            clear hrows hx hy hyx
            go_wp2
            exact ⟨⟨p + 1 + 1, by omega, by go_num, by go_num, HBB.out⟩, by simp [intOf]; omega⟩
        · obtain rfl : q = n := by omega
          go_wp2
          exact ⟨⟨i + 1, by omega, by go_num, by rw [HSS.out], HB3.out.trans (HBB.out.mono HB3.out.size)⟩, by simp [intOf]; omega⟩
    · obtain rfl : i = r := by omega
      rw [HSUM.out]
      go_wp2
      go_ret
      exact ⟨rfl, HB.out⟩
set_option maxHeartbeats 4000000 in
theorem carries_walk (k r : Int) (w : World) (hk0 : -9223372036854775808 ≤ k) (hk1 : k ≤ 9223372036854775807) (hr0 : -9223372036854775808 ≤ r) (hr1 : r ≤ 9223372036854775807) (es : List Addr) (hes : ErrsAt w gsHalf es) :
    Calls Tryd.prog 6 #[.int .i64 k, .int .i64 r] w fun e w' => e = .returned (.bool true) ∧ Below w.heap.size w w' := by
  obtain ⟨s3, _, hs3, _⟩ := errs_at hes 1 _ rfl
  by_cases hL : LegalP k r
  · obtain ⟨a, b, rfl, rfl, h1, h2, h3⟩ := legal_nat hL
    exact carries_ok a b w s3 hs3 h1 h2 h3
  · have H : Hid _ := hL
    have HS : Hid _ := hs3
    clear hL hs3 hes
    go_enter Tryd.func6, Tryd.ntmps6
    go_wp2_with fail
    refine Calls.mono (alive5_ok _ s3 HS.out) ?_
    rintro e w1 ⟨rfl, hb⟩
    have HB1 : Hid _ := hb
    clear hb
    go_wp2_with fail
    refine Calls.mono (legal_no k r _ hk0 hk1 hr0 hr1 H.out) ?_
    rintro e w2 ⟨rfl, rfl⟩
    go_wp2
    go_ret
    exact ⟨rfl, HB1.out⟩
end Go.Proofs.YtlcaodnimnghoaaDoor

/- One error held against another with !=. -/
namespace Go.Proofs.YtlcaodnimnghoaaDoor
open Go.RowKit Go.ChangeShapes
set_option linter.unusedVariables false
set_option maxRecDepth 20000
theorem run_neq_iface_same {P : Program} (w : World) {ti tp te : TypeId} {ms : Array (String × TypeId)} {i j : TypeInfo} (a : Addr)
    (hi : P.underlying ti = some (.interface ms)) (hp : P.underlying tp = some (.pointer te)) (hinfo : P.info? tp = some i) (hcomp : i.comparable = true) (hte : P.info? te = some j) :
    (binOp .neq ti (.iface tp (.pointer (some a))) (.iface tp (.pointer (some a)))).run P w = .ok (.bool false) w := by
  simp only [binOp]
  simp [Op.equal, Op.maxDepth, run_equalIn_iface_ptr_same w 9998 a hi hp hinfo hcomp hte]
theorem run_neq_iface_other {P : Program} (w : World) {ti tp te : TypeId} {ms : Array (String × TypeId)} {i j : TypeInfo} {a b : Addr} {ca cb : Array Value} {ta tb : TypeId}
    (hi : P.underlying ti = some (.interface ms)) (hp : P.underlying tp = some (.pointer te)) (hinfo : P.info? tp = some i) (hcomp : i.comparable = true) (hte : P.info? te = some j) (hsz : j.size ≠ 0)
    (hne : a ≠ b) (ha : w.heap[a.block]? = some (.cells ca ta (0, 0))) (hb : w.heap[b.block]? = some (.cells cb tb (0, 0))) :
    (binOp .neq ti (.iface tp (.pointer (some a))) (.iface tp (.pointer (some b)))).run P w = .ok (.bool true) w := by
  simp only [binOp]
  simp [Op.equal, Op.maxDepth, run_equalIn_iface_ptr_other w 9998 hi hp hinfo hcomp hte hsz hne ha hb]
theorem neq_same (w : World) (a : Addr) : (binOp .neq 25 (.iface 121 (.pointer (some a))) (.iface 121 (.pointer (some a)))).run Tryd.prog w = .ok (.bool false) w := by
  obtain ⟨i, h1, h2⟩ := infoPtr
  obtain ⟨j, h3, _⟩ := infoES
  exact run_neq_iface_same w a Tryd.underlying25 Tryd.underlying121 h1 h2 h3
theorem neq_other {w : World} {a b : Addr} {ca cb : Array Value} {ta tb : TypeId} (hne : a ≠ b) (ha : w.heap[a.block]? = some (.cells ca ta (0, 0))) (hb : w.heap[b.block]? = some (.cells cb tb (0, 0))) :
    (binOp .neq 25 (.iface 121 (.pointer (some a))) (.iface 121 (.pointer (some b)))).run Tryd.prog w = .ok (.bool true) w := by
  obtain ⟨i, h1, h2⟩ := infoPtr
  obtain ⟨j, h3, h4⟩ := infoES
  exact run_neq_iface_other w Tryd.underlying25 Tryd.underlying121 h1 h2 h3 h4 hne ha hb
end Go.Proofs.YtlcaodnimnghoaaDoor

/- The walk of HalfNames: at all numbers and texts. -/
namespace Go.Proofs.YtlcaodnimnghoaaDoor
open Go.RowKit Gf
set_option linter.unusedVariables false
set_option maxRecDepth 20000
/-- what Name tells of a number -/
def NamedAs (k r : Nat) (n : Int) (s : Addr) (b : List UInt8) (ev : Value) : Prop :=
  (∃ h : Nat, n = h ∧ h < 2 * (k + r) ∧ b = nameB k h ∧ ev = .nilIface) ∨ (¬ (0 ≤ n ∧ n < 2 * (k + r)) ∧ b = [] ∧ ev = errAt s)
theorem name_F (k r : Nat) (n : Int) (w : World) (s : Addr) (hs : w.cell? ⟨1, 0, none⟩ = some (errAt s)) (h1 : 1 ≤ k) (h2 : 2 ≤ r) (h3 : k + r ≤ 16) :
    Calls Tryd.prog 23 #[.int .i64 k, .int .i64 r, .int .i64 n] w fun e w' => ∃ b ev, e = .returned (.tuple #[.string (strB b), ev]) ∧ NamedAs k r n s b ev ∧ Below w.heap.size w w' := by
  by_cases hn : 0 ≤ n ∧ n < 2 * (k + r)
  · obtain ⟨h, rfl⟩ := Int.eq_ofNat_of_zero_le hn.1
    exact (name_ok k r h w h1 h2 h3 (by omega)).mono fun e w' ⟨he, hb⟩ => ⟨_, _, he, .inl ⟨h, rfl, by omega, rfl, rfl⟩, hb⟩
  · exact (name_no k r n w s hs h1 h2 h3 hn).mono fun e w' ⟨he, hb⟩ => ⟨_, _, he, .inr ⟨hn, rfl, rfl⟩, hb⟩
/-- what Parse tells of a text -/
def ReadAs (k r : Nat) (l : List UInt8) (s : Addr) (x : Int) (ev : Value) : Prop :=
  (∃ h : Nat, h < 2 * (k + r) ∧ nameB k h = l ∧ x = h ∧ ev = .nilIface) ∨ (∀ h, h < 2 * (k + r) → nameB k h ≠ l) ∧ x = 0 ∧ ev = errAt s
theorem parse_G (k r : Nat) (l : List UInt8) (w : World) (s : Addr) (hs : w.cell? ⟨1, 0, none⟩ = some (errAt s)) (h1 : 1 ≤ k) (h2 : 2 ≤ r) (h3 : k + r ≤ 16) :
    Calls Tryd.prog 24 #[.int .i64 k, .int .i64 r, .string (strB l)] w fun e w' => ∃ x ev, e = .returned (.tuple #[.int .i64 x, ev]) ∧ ReadAs k r l s x ev ∧ Below w.heap.size w w' :=
  (parse_F k r l w s hs h1 h2 h3).mono fun e w' ⟨⟨v, he, hv⟩, hb⟩ => by
    rcases hv with ⟨h, a1, a2, rfl⟩ | ⟨a1, rfl⟩
    · exact ⟨_, _, he, .inl ⟨h, a1, a2, rfl, rfl⟩, hb⟩
    · exact ⟨_, _, he, .inr ⟨a1, rfl, rfl⟩, hb⟩
/-- a name leads to its half -/
theorem read_back {k r h : Nat} {s : Addr} {x : Int} {ev : Value} (h3 : k + r ≤ 16) (h2 : 2 ≤ r) (hh : h < 2 * (k + r)) (H : ReadAs k r (nameB k h) s x ev) : x = h ∧ ev = .nilIface := by
  rcases H with ⟨j, a1, a2, a3, a4⟩ | ⟨a1, _⟩
  · have := nameB_inj k (by omega) j (by omega) h (by omega) a2
    exact ⟨by rw [a3, this], a4⟩
  · exact absurd rfl (a1 h hh)
set_option maxHeartbeats 4000000 in
theorem names_bad (k r n : Int) (l : List UInt8) (w : World) (hk0 : -9223372036854775808 ≤ k) (hk1 : k ≤ 9223372036854775807) (hr0 : -9223372036854775808 ≤ r) (hr1 : r ≤ 9223372036854775807) (s0 s1 : Addr) (hs : w.cell? ⟨0, 0, none⟩ = some (errAt s0)) (hs1 : w.cell? ⟨3, 0, none⟩ = some (errAt s1)) (h : ¬ LegalP k r) :
    Calls Tryd.prog 5 #[.agg #[.int .i64 k, .int .i64 r, .int .i64 n, .string (strB l)]] w fun e w' => e = .returned (.bool true) ∧ Below w.heap.size w w' := by
  have HS : Hid _ := hs
  have HS1 : Hid _ := hs1
  have H : Hid _ := h
  clear h hs hs1
  have HA0 : Hid _ := holds_new (holds_nil w) #[.int .i64 k, .int .i64 r, .int .i64 n, .string (strB l)] 51
  have HB0 : Hid _ := (Below.refl w.heap.size w).alloc (Nat.le_refl _) (.cells #[.int .i64 k, .int .i64 r, .int .i64 n, .string (strB l)] 51)
  go_enter Tryd.func5, Tryd.ntmps5
  go_wp2
  go_region
  go_wp2_with fail
  refine Calls.mono (alive5_ok _ s1 (cell_later HB0.out.drew HS1.out)) ?_
  rintro e w1 ⟨rfl, hb⟩
  have HB1 : Hid (Below w.heap.size w w1) := HB0.out.drew.trans (hb.mono HB0.out.size)
  have HP1 : Hid _ := cell_later HB1.out HS.out
  clear hb
  go_wp2_with fail
  refine Calls.mono (name_bad k r n _ s0 HP1.out hk0 hk1 hr0 hr1 H.out) ?_
  rintro e w2 ⟨rfl, hb⟩
  have HB2 : Hid (Below w.heap.size w w2) := HB1.out.trans (hb.mono HB1.out.size)
  have HP2 : Hid _ := cell_later HB2.out HS.out
  clear hb
  go_wp2_with fail
  refine Calls.mono (parse_bad k r (strB l) _ s0 HP2.out hk0 hk1 hr0 hr1 H.out) ?_
  rintro e w3 ⟨rfl, rfl⟩
  go_wp2_with fail
  refine Calls.mono (legal_no k r _ hk0 hk1 hr0 hr1 H.out) ?_
  rintro e w3 ⟨rfl, rfl⟩
  have c0 := HP2.out
  have q := eq_same w2 s0
  have hse : (strB []).toList.isEmpty = true := by rw [strB_list]; rfl
  have hg : 0 < w2.heap.size := by
    have := World.block_lt_of_cell? _ _ HP2.out; simpa using this
  unfold errAt at *
  go_wp2
  go_ret
  exact ⟨rfl, HB2.out⟩
set_option maxHeartbeats 8000000 in
theorem names_ok (k r : Nat) (n : Int) (l : List UInt8) (w : World) (hn0 : -9223372036854775808 ≤ n) (hn1 : n ≤ 9223372036854775807) (s1 s2 : Addr) (hs1 : w.cell? ⟨3, 0, none⟩ = some (errAt s1)) (hs2 : w.cell? ⟨1, 0, none⟩ = some (errAt s2)) (h1 : 1 ≤ k) (h2 : 2 ≤ r) (h3 : k + r ≤ 16) :
    Calls Tryd.prog 5 #[.agg #[.int .i64 k, .int .i64 r, .int .i64 n, .string (strB l)]] w fun e w' => e = .returned (.bool true) ∧ Below w.heap.size w w' := by
  have HS1 : Hid _ := hs1
  have HS2 : Hid _ := hs2
  clear hs1 hs2
  have HA0 : Hid _ := holds_new (holds_nil w) #[.int .i64 k, .int .i64 r, .int .i64 n, .string (strB l)] 51
  have HB0 : Hid _ := (Below.refl w.heap.size w).alloc (Nat.le_refl _) (.cells #[.int .i64 k, .int .i64 r, .int .i64 n, .string (strB l)] 51)
  go_enter Tryd.func5, Tryd.ntmps5
  go_wp2
  go_region
  go_wp2_with fail
  refine Calls.mono (alive5_ok _ s1 (cell_later HB0.out.drew HS1.out)) ?_
  rintro e w1 ⟨rfl, hb⟩
  have HB1 : Hid (Below w.heap.size w w1) := HB0.out.drew.trans (hb.mono HB0.out.size)
  clear hb
  go_wp2_with fail
  refine Calls.mono (name_F k r n _ s2 (cell_later HB1.out HS2.out) h1 h2 h3) ?_
  rintro e w2 ⟨b, ev, rfl, hN, hb⟩
  have HB2 : Hid (Below w.heap.size w w2) := HB1.out.trans (hb.mono HB1.out.size)
  have HN : Hid _ := hN
  clear hb hN
  go_wp2_with fail
  refine Calls.mono (parse_G k r l _ s2 (cell_later HB2.out HS2.out) h1 h2 h3) ?_
  rintro e w3 ⟨x, ev2, rfl, hR, hb⟩
  have HB3 : Hid (Below w.heap.size w w3) := HB2.out.trans (hb.mono HB2.out.size)
  have HR : Hid _ := hR
  clear hb hR
  go_wp2_with fail
  refine Calls.mono (legal_yes k r _ h1 h2 h3) ?_
  rintro e w4 ⟨rfl, rfl⟩
  go_upto_region 8 with fail
  go_cut [67] (fun s67 wx => (s67 = .bool false ∧ (0 ≤ n ∧ n < 2 * (k + r)) ∨ s67 = .bool true ∧ ¬ (0 ≤ n ∧ n < 2 * (k + r))) ∧ w3 = wx)
  case first =>
    by_cases hn : n < 0
    · go_wp2
      go_meet
      exact ⟨.inr ⟨rfl, by omega⟩, rfl⟩
    · by_cases hn2 : n < 2 * ((k : Int) + r)
      · go_wp2
        go_meet
        exact ⟨.inl ⟨congrArg Value.bool (decide_eq_false (by omega)), by omega⟩, rfl⟩
      · go_wp2
        go_meet
        exact ⟨.inr ⟨rfl, by omega⟩, rfl⟩
  case rest =>
  obtain ⟨h67, rfl⟩ := hcut
  have H67 : Hid _ := h67
  clear h67
  go_upto_if 67 with fail
  go_cut [11, 12] (fun s11 s12 wx => Below w.heap.size w wx)
  case first =>
    rcases HN.out with ⟨h, rfl, hh, rfl, rfl⟩ | ⟨hno, rfl, rfl⟩
    · rcases H67.out with ⟨rfl, _⟩ | ⟨_, hx⟩
      rotate_left
      · exact absurd (show (0 : Int) ≤ h ∧ (h : Int) < 2 * (k + r) by omega) hx
      go_wp2_with fail
      refine Calls.mono (parse_G k r (nameB k h) _ s2 (cell_later HB3.out HS2.out) h1 h2 h3) ?_
      rintro e w5 ⟨x5, ev5, rfl, hR5, hb⟩
      obtain ⟨rfl, rfl⟩ := read_back h3 h2 hh hR5
      have HB5 : Hid (Below w.heap.size w w5) := HB3.out.trans (hb.mono HB3.out.size)
      clear hb hR5
      go_wp2_with fail
      refine Calls.mono (rname_F k h _ (by omega) (by omega)) ?_
      rintro e w6 ⟨rfl, hb⟩
      have HB6 : Hid (Below w.heap.size w w6) := HB5.out.trans (hb.mono HB5.out.size)
      have hq := strB_eq (a := nameB k h) rfl
      clear hb
      go_wp2
      go_meet
      exact HB6.out
    · rcases H67.out with ⟨_, hx⟩ | ⟨rfl, _⟩
      · exact absurd hx hno
      have c0 := cell_later HB3.out HS2.out
      have q := neq_same w3 s2
      have hg := World.block_lt_of_cell? _ _ c0
      simp at hg
      have hse : (strB []).toList.isEmpty = true := by rw [strB_list]; rfl
      unfold errAt at *
      go_wp2
      go_meet
      exact HB3.out
  case rest =>
  have HBC : Hid _ := hcut
  clear hcut HN H67
  generalize wc = w5 at *
  go_wp2
  go_loopw [13] (fun v wr => ∃ j : Nat, j ≤ 2 * (k + r) ∧ v = .int .i64 j ∧ Below w.heap.size w wr ∧ ∀ h, h < j → nameB k h ≠ l) (fun v _ => 2 * (k + r) - (intOf v).toNat)
  case atStart => exact ⟨0, by omega, rfl, HBC.out, fun h hh => absurd hh (Nat.not_lt_zero h)⟩
  case round =>
    obtain ⟨j, hj, rfl, hb, hno⟩ := hrel
    have HB : Hid _ := hb
    have HNO : Hid _ := hno
    clear hb hno
    by_cases hlt : j < 2 * (k + r)
    · have a1 : (j : Int) < 2 * ((k : Int) + r) := by omega
      go_wp2_with fail
      refine Calls.mono (rname_F k j _ (by omega) (by omega)) ?_
      rintro e w6 ⟨rfl, hb⟩
      have HB6 : Hid (Below w.heap.size w w6) := HB.out.trans (hb.mono HB.out.size)
      clear hb
      by_cases he : nameB k j = l
      · have hq := strB_eq he
        rcases HR.out with ⟨h, a2, a3, rfl, rfl⟩ | ⟨a2, _⟩
        · have hjh : h = j := nameB_inj k (by omega) h (by omega) j (by omega) (a3.trans he.symm)
          subst hjh
          clear he a3
          go_wp2
          go_ret
          exact ⟨by first | rfl | simp, HB6.out⟩
        · exact absurd he (a2 j hlt)
      · have hq := strB_ne he
        go_wp2
        refine ⟨⟨j + 1, by omega, by go_num, HB6.out, fun h hh => ?_⟩, by simp [intOf]; omega⟩
        by_cases e : h = j
        · rw [e]; exact he
        · exact HNO.out h (by omega)
    · have a1 : ¬ (j : Int) < 2 * ((k : Int) + r) := by omega
      obtain rfl : j = 2 * (k + r) := by omega
      rcases HR.out with ⟨h, a2, a3, _⟩ | ⟨_, rfl, rfl⟩
      · exact absurd a3 (HNO.out h a2)
      have c0 := cell_later HB.out HS2.out
      have q := eq_same wr s2
      have hg := World.block_lt_of_cell? _ _ c0
      simp at hg
      unfold errAt at *
      go_wp2
      go_ret
      exact ⟨rfl, HB.out⟩
theorem names_walk (k r n : Int) (l : List UInt8) (w : World) (hk0 : -9223372036854775808 ≤ k) (hk1 : k ≤ 9223372036854775807) (hr0 : -9223372036854775808 ≤ r) (hr1 : r ≤ 9223372036854775807) (hn0 : -9223372036854775808 ≤ n) (hn1 : n ≤ 9223372036854775807) (es : List Addr) (hes : ErrsAt w gsHalf es) :
    Calls Tryd.prog 5 #[.agg #[.int .i64 k, .int .i64 r, .int .i64 n, .string (strB l)]] w fun e w' => e = .returned (.bool true) ∧ Below w.heap.size w w' := by
  obtain ⟨s0, _, hs0, _⟩ := errs_at hes 0 _ rfl
  obtain ⟨s1, _, hs1, _⟩ := errs_at hes 1 _ rfl
  obtain ⟨s2, _, hs2, _⟩ := errs_at hes 2 _ rfl
  by_cases hL : LegalP k r
  · obtain ⟨a, b, rfl, rfl, h1, h2, h3⟩ := legal_nat hL
    exact names_ok a b n l w hn0 hn1 s1 s2 hs1 hs2 h1 h2 h3
  · exact names_bad k r n l w hk0 hk1 hr0 hr1 s0 s1 hs0 hs1 hL
end Go.Proofs.YtlcaodnimnghoaaDoor
