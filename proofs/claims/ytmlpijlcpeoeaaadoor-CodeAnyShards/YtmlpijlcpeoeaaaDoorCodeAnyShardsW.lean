/- The walk of CodeAnyShards: at all numbers, lists of bytes and picks. -/
import Derived.Test.YtmlpijlcpeoeaaaDoorMatTake
import Derived.Test.YtmlpijlcpeoeaaaDoorHalfM
import Derived.Test.YtmlpijlcpeoeaaaDoorCodeE
import Derived.Test.YtmlpijlcpeoeaaaDoorPlacesK
import Derived.Test.YtmlpijlcpeoeaaaDoorHalfF
import Derived.Lib.ItoaNum
import Derived.Lib.ItoaWalk
import Derived.Test.YtmlpijlcpeoeaaaDoorShardsJ
import Derived.Test.YtmlpijlcpeoeaaaDoorNumApart
import Derived.Test.YtmlpijlcpeoeaaaDoorHolds
import Derived.Deep.DeepCutAuto
import Derived.BigRegion
import Derived.Test.YtmlpijlcpeoeaaaDoorErrs
import Derived.Test.YtmlpijlcpeoeaaaDoorShardsA
import Derived.Test.YtmlpijlcpeoeaaaDoorCodeV
import Derived.Test.YtmlpijlcpeoeaaaDoorRegHeld
import Derived.Test.YtmlpijlcpeoeaaaDoorHalfC
import Derived.Test.YtmlpijlcpeoeaaaDoorInts
import Derived.Test.YtmlpijlcpeoeaaaDoorSolveF
import Derived.Deep.CutBlock
import Derived.Test.YtmlpijlcpeoeaaaDoorSolveG
import Derived.Test.YtmlpijlcpeoeaaaDoorMatAl
import Derived.Test.YtmlpijlcpeoeaaaDoorMatOf
/- What combine of package code answers, of all matrices in form and as many lists of one size as columns; nothing that was there turns. -/
namespace Go.Proofs.YtmlpijlcpeoeaaaDoor
open Go.RowKit Gf
set_option linter.unusedVariables false
set_option maxRecDepth 20000
/-- lists as values, each in a block of its own -/
def rowsP (H : Nat) (gs : List (Nat × Nat)) : List Value := gs.map fun p => .slice (some ⟨p.1, 0, none⟩) H p.2
theorem rowsP_len (H : Nat) (gs : List (Nat × Nat)) : (rowsP H gs).length = gs.length := by simp [rowsP]
theorem rowsP_snoc (H : Nat) (gs : List (Nat × Nat)) (g cap : Nat) : rowsP H gs ++ [.slice (some ⟨g, 0, none⟩) H cap] = rowsP H (gs ++ [(g, cap)]) := by simp [rowsP]
theorem rowsP_at {H i : Nat} {gs : List (Nat × Nat)} {p : Nat × Nat} (h : gs[i]? = some p) : (rowsP H gs)[i]? = some (.slice (some ⟨p.1, 0, none⟩) H p.2) := by simp [rowsP, h]
/-- what row i of a combination is, byte by byte -/
def combL (c H : Nat) (xs : List F) (L : List (List F)) (i : Nat) : List F := rowF H (fun b => sumF (fun v => gm (at8 xs (i * c + v)) (bytesD L v b)) c)
theorem combL_len (c H : Nat) (xs : List F) (L : List (List F)) (i : Nat) : (combL c H xs L i).length = H := rowF_len _ _
/-- rows in blocks of their own, the later the higher -/
def RowsP (w : World) (B : Nat) (gs : List (Nat × Nat)) (f : Nat → List F) : Prop :=
  (∀ (i : Nat) (p : Nat × Nat), gs[i]? = some p → B ≤ p.1 ∧ Has8 w p.1 (f i) p.2) ∧ ∀ (i j : Nat) (p q : Nat × Nat), i < j → gs[i]? = some p → gs[j]? = some q → p.1 < q.1
theorem rowsP_nil (w : World) (B : Nat) (f : Nat → List F) : RowsP w B [] f := ⟨fun i p h => by simp at h, fun i j p q _ h => by simp at h⟩
theorem has8_later {w w' : World} {g cap : Nat} {xs : List F} (h : Has8 w g xs cap) (hb : Below w.heap.size w w') : Has8 w' g xs cap := by
  obtain ⟨cur, h1, h2⟩ := h
  exact ⟨cur, heap_later h1 hb, h2⟩
theorem has8_set_other {w : World} {g cap M j : Nat} {xs : List F} {v : Value} (h : Has8 w g xs cap) (hne : g ≠ M) : Has8 (w.setCell ⟨M, j, none⟩ v) g xs cap := by
  obtain ⟨cur, h1, h2⟩ := h
  exact ⟨cur, (heap_setCell_other _ _ _ _ hne).trans h1, h2⟩
theorem has8_lt {w : World} {g cap : Nat} {xs : List F} (h : Has8 w g xs cap) : g < w.heap.size := by
  obtain ⟨cur, h1, _⟩ := h
  exact ltHeap h1
theorem rowsP_below {w w' : World} {B : Nat} {gs : List (Nat × Nat)} {f : Nat → List F} (h : RowsP w B gs f) (hb : Below w.heap.size w w') : RowsP w' B gs f :=
  ⟨fun i p hp => ⟨(h.1 i p hp).1, has8_later (h.1 i p hp).2 hb⟩, h.2⟩
theorem rowsP_step {w w' : World} {B M g cap : Nat} {v : Value} {gs : List (Nat × Nat)} {f : Nat → List F} (h : RowsP w B gs f) (hb : Below w.heap.size w w') (hg : w.heap.size ≤ g) (hB : B ≤ g) (hM : M < w.heap.size) (hMg : ∀ (i : Nat) (p : Nat × Nat), gs[i]? = some p → p.1 ≠ M) (hr : Has8 w' g (f gs.length) cap) :
    RowsP (w'.setCell ⟨M, gs.length, none⟩ v) B (gs ++ [(g, cap)]) f := by
  refine ⟨fun i p hp => ?_, fun i j p q hij hp hq => ?_⟩
  · by_cases hi : i < gs.length
    · rw [List.getElem?_append_left hi] at hp
      exact ⟨(h.1 i p hp).1, has8_set_other (has8_later (h.1 i p hp).2 hb) (hMg i p hp)⟩
    · have e := (List.getElem?_eq_some_iff.1 hp).1
      simp at e
      obtain rfl : i = gs.length := by omega
      rw [List.getElem?_append_right (Nat.le_refl _), Nat.sub_self] at hp
      obtain rfl := Option.some.inj hp
      exact ⟨hB, has8_set_other hr (by show g ≠ M; omega)⟩
  · have ej := (List.getElem?_eq_some_iff.1 hq).1
    simp at ej
    rw [List.getElem?_append_left (by omega)] at hp
    by_cases hj : j < gs.length
    · rw [List.getElem?_append_left hj] at hq
      exact h.2 i j p q hij hp hq
    · obtain rfl : j = gs.length := by omega
      rw [List.getElem?_append_right (Nat.le_refl _), Nat.sub_self] at hq
      obtain rfl := Option.some.inj hq
      have := has8_lt (h.1 i p hp).2
      show p.1 < g
      omega
theorem rowsP_rows {w : World} {B M H R : Nat} {gs : List (Nat × Nat)} {f : Nat → List F} (h : RowsP w B gs f) (hl : gs.length = R) (hf : ∀ i, (f i).length = H) (hM : w.heap[M]? = some (.cells (slW (rowsP H gs) R) 22 (0, 0))) : Rows8 w (some ⟨M, 0, none⟩) ((List.range R).map f) := by
  refine .inr ⟨M, 0, rfl, fun j xs hj => ?_⟩
  have hjR : j < R := by have := (List.getElem?_eq_some_iff.1 hj).1; simpa using this
  rw [List.getElem?_map, List.getElem?_range hjR] at hj
  obtain rfl := Option.some.inj hj
  have hg : gs[j]? = some gs[j] := List.getElem?_eq_getElem (by omega)
  refine ⟨some ⟨gs[j].1, 0, none⟩, gs[j].2, ?_, row8_has (h.1 j _ hg).2⟩
  rw [Nat.zero_add, hf]
  exact cellAt hM j _ (slW_at (rowsP_at hg))
theorem comb_row {R c H i : Nat} {xs : List F} {L : List (List F)} (hi : i < R) (hL : L.length = c) (hLH : ∀ ys ∈ L, ys.length = H) : rowAt H (mulM c H xs L.flatten R) i = combL c H xs L i := by
  rw [mulM, rowAt_grid hi]
  refine rowF_congr fun b hb => sumF_congr fun v hv => ?_
  rw [bytesD, flat_at hLH (by omega) hb]
set_option maxHeartbeats 4000000 in
theorem ccomb_F (R c H l cap lh ch : Nat) (a ah : Option Addr) (xs : List F) (L : List (List F)) (w : World) (hR : R ≤ 64) (hc1 : 1 ≤ c) (hc : c ≤ 64) (hH : H ≤ 64) (hl : l = R * c) (hx : xs.length = R * c) (hcap : l ≤ cap) (hX : Row8 w a xs)
    (hlh : lh = c) (hL : L.length = c) (hLH : ∀ ys ∈ L, ys.length = H) (hLX : Rows8 w ah L) :
    Calls Tryd.prog 30 #[.agg #[.int .i64 R, .int .i64 c, .slice a l cap], .slice ah lh ch] w fun e w' => ∃ M gs, e = .returned (.tuple #[.slice (some ⟨M, 0, none⟩) R R, .nilIface]) ∧ w.heap.size ≤ M ∧ gs.length = R ∧
      w'.heap[M]? = some (.cells (slW (rowsP H gs) R) 22 (0, 0)) ∧ RowsP w' w.heap.size gs (combL c H xs L) ∧ Below w.heap.size w w' := by
  have HL : Hid (l = R * c) := hl
  have HX : Hid (xs.length = R * c) := hx
  have HRX : Hid (Row8 w a xs) := hX
  have HLL : Hid (L.length = c) := hL
  have HLH : Hid (∀ ys ∈ L, ys.length = H) := hLH
  have HLX : Hid (Rows8 w ah L) := hLX
  have HLc : Hid (lh = c) := hlh
  obtain ⟨b, off, rfl, hb0, hcl⟩ := rows8_at hLX (show 0 < L.length by omega)
  obtain ⟨a0, cap0, e0, -⟩ := hcl 0 _ (List.getElem?_eq_getElem (by omega))
  rw [hLH _ (List.getElem_mem _), Nat.add_zero] at e0
  have hlh0 : 0 < lh := by omega
  have hmk := run_makeS R hR
  rw [slW_nil] at hmk
  have hA := holds_new (holds_nil w) #[.int .i64 R, .int .i64 c, .slice a l cap] 65
  have HB1 : Hid (Below w.heap.size w (w.alloc (.cells #[.int .i64 R, .int .i64 c, .slice a l cap] 65))) := (Below.refl w.heap.size w).alloc (Nat.le_refl _) _
  have e1 := cell_later HB1.out e0
  have HA : Hid _ := hA
  clear hl hx hX hL hLH hLX hcl e0 hA hlh
  go_enter Tryd.func30, Tryd.ntmps30
  go_wp2_with fail
  refine Calls.mono (of_F H lh ch _ L _ hH (by have h1 := HLL.out; have h2 := HLc.out; omega) (by have := HLc.out; omega) HLH.out (rows8_below HLX.out HB1.out)) ?_
  rintro e w2 ⟨g2, n2, rfl, hn2, hg2, hh2, hb2⟩
  have HB2 : Hid (Below w.heap.size w w2) := HB1.out.trans (hb2.mono HB1.out.size)
  have HA2 : Hid _ := holds_cons (holds_later HA.out hb2) hh2
  have HN2 : Hid (n2 = lh * H) := hn2
  clear hb2 hh2 hn2 e1 HA HB1
  have c0 := cellAt (holds_at HA2.out 1 rfl) 0 _ rfl
  have c1 := cellAt (holds_at HA2.out 1 rfl) 1 _ rfl
  have c2 := cellAt (holds_at HA2.out 1 rfl) 2 _ rfl
  have HA3 : Hid _ := holds_new HA2.out #[.int .i64 lh, .int .i64 H, .slice (some ⟨g2, 0, none⟩) n2 n2] 65
  have HB3 : Hid _ := HB2.out.alloc HB2.out.size (.cells #[.int .i64 lh, .int .i64 H, .slice (some ⟨g2, 0, none⟩) n2 n2] 65)
  have z2 := ltHeap (holds_at HA2.out 1 rfl)
  have HFL : Hid (L.flatten.length = c * H) := by show _ = _; rw [flat_len HLH.out, HLL.out]
  clear HA2 HB2
  go_wp2_with fail
  obtain rfl : lh = c := HLc.out
  refine Calls.mono (product_F R lh H l cap n2 n2 a (some ⟨g2, 0, none⟩) xs L.flatten _ hR hc hH HL.out HX.out hcap (row8_below HRX.out HB3.out) HN2.out HFL.out (Nat.le_refl _) (holds_row HA3.out 1 rfl)) ?_
  rintro e w4 ⟨g4, n4, rfl, hn4, hg4, hh4, hb4⟩
  have HB4 : Hid (Below w.heap.size w w4) := HB3.out.trans (hb4.mono HB3.out.size)
  have HH4 : Hid (w4.heap[g4]? = some (.cells (vfs (mulM lh H xs L.flatten R)) 5 (0, 0))) := hh4
  have HN4 : Hid (n4 = R * H) := hn4
  clear hb4 hh4 hn4 c0 c1 c2 z2 HA3 HB3 hg2 hg4 HN2 HFL
  go_wp2
  have hz4 := HB4.out.size
  have hA5 := holds_new (holds_new (holds_cons (holds_nil w4) HH4.out) #[.int .i64 R, .int .i64 H, .slice (some ⟨g4, 0, none⟩) n4 n4] 65) (slW [] R) 22
  rw [World.size_alloc] at hA5
  have HB5 : Hid (Below w.heap.size w ((w4.alloc (.cells #[.int .i64 R, .int .i64 H, .slice (some ⟨g4, 0, none⟩) n4 n4] 65)).alloc (.cells (slW [] R) 22))) := (HB4.out.alloc hz4 _).alloc (by simp; omega) _
  have HA5 : Hid _ := hA5
  clear hA5 HB4 HH4 hmk
  generalize ((w4.alloc (.cells #[.int .i64 R, .int .i64 H, .slice (some ⟨g4, 0, none⟩) n4 n4] 65)).alloc (.cells (slW [] R) 22)) = W5 at *
  generalize hP : w4.heap.size = P at *
  generalize hM : P + 1 = M at *
  have hM0 : w.heap.size ≤ M := by omega
  have hPM : P ≠ M := by omega
  have hgM : g4 ≠ M := kind_ne (holds_at HA5.out 2 rfl) (holds_at HA5.out 0 rfl) (by decide)
  clear hP hM
  go_loopw [37] (fun i wr => ∃ j : Nat, ∃ gs : List (Nat × Nat), j ≤ R ∧ i = .int .i64 j ∧ gs.length = j ∧ Below w.heap.size w wr ∧
    Holds wr [(M, .cells (slW (rowsP H gs) R) 22 (0, 0)), (P, .cells #[.int .i64 R, .int .i64 H, .slice (some ⟨g4, 0, none⟩) n4 n4] 65 (0, 0)), (g4, .cells (vfs (mulM lh H xs L.flatten R)) 5 (0, 0))] ∧
    RowsP wr w.heap.size gs (combL lh H xs L)) (fun i _ => R - (intOf i).toNat)
  case atStart => exact ⟨0, [], by omega, rfl, rfl, HB5.out, HA5.out, rowsP_nil _ _ _⟩
  case round =>
    obtain ⟨j, gs, hj, rfl, hgs, hb, hh, hrows⟩ := hrel
    have HB : Hid _ := hb
    have HH : Hid _ := hh
    have HR : Hid (RowsP wr w.heap.size gs (combL lh H xs L)) := hrows
    have HGS : Hid (gs.length = j) := hgs
    clear hb hh hrows hgs
    by_cases hlt : j < R
    · have c0 := cellAt (holds_at HH.out 1 rfl) 0 _ rfl
      have c1 := cellAt (holds_at HH.out 1 rfl) 1 _ rfl
      have c2 := cellAt (holds_at HH.out 1 rfl) 2 _ rfl
      go_wp2_with fail
      refine Calls.mono (row_F R H n4 n4 j (some ⟨g4, 0, none⟩) (mulM lh H xs L.flatten R) _ hR hH HN4.out (mulM_len _ _ _ _ _) (Nat.le_refl _) (holds_row HH.out 2 rfl) (fun h => by cases h) hlt) ?_
      rintro e w6 ⟨a6, cap6, rfl, _, _, hg6, hb6⟩
      obtain ⟨g6, rfl, hg6, hr6⟩ := hg6 (by simp)
      rw [comb_row hlt HLL.out HLH.out] at hr6
      have hz := HB.out.size
      have hlM := ltHeap (holds_at HH.out 0 rfl)
      have hs6 := heap_later (holds_at HH.out 0 rfl) hb6
      have hg6M : g6 ≠ M := by omega
      have hS := HGS.out
      have c7 : w6.cell? ⟨M, j, none⟩ = some (.slice none 0 0) := cellAt hs6 j _ (by have e := slW_next (vs := rowsP H gs) (r := R) (by rw [rowsP_len, hS]; exact hlt); rwa [rowsP_len, hS] at e)
      have c8 : w6.frozen? ⟨M, j, none⟩ = false := frozen_of_row _ _ _ _ _ hs6
      have HRX' : Hid (RowsP (w6.setCell ⟨M, j, none⟩ (.slice (some ⟨g6, 0, none⟩) H cap6)) w.heap.size (gs ++ [(g6, cap6)]) (combL lh H xs L)) := by
        have := rowsP_step (v := .slice (some ⟨g6, 0, none⟩) H cap6) (M := M) (cap := cap6) HR.out hb6 hg6 (by omega) hlM (fun i p hp => by
          obtain ⟨cur, h1, _⟩ := (HR.out.1 i p hp).2
          exact kind_ne h1 (holds_at HH.out 0 rfl) (by decide)) (by rw [hS]; exact hr6)
        rwa [hS] at this
      have HT6 : Hid ((w6.setCell ⟨M, j, none⟩ (.slice (some ⟨g6, 0, none⟩) H cap6)).heap[M]? = some (.cells (slW (rowsP H (gs ++ [(g6, cap6)])) R) 22 (0, 0))) := by
        show _ = _
        have e := slW_set (.slice (some ⟨g6, 0, none⟩) H cap6) (vs := rowsP H gs) (r := R) (by rw [rowsP_len, hS]; exact hlt)
        rw [rowsP_len, hS, rowsP_snoc] at e
        rw [heap_setCell_same _ _ _ _ _ _ hs6, e]
      have hX0 := holds_later HH.out hb6
      have HHX : Hid (Holds (w6.setCell ⟨M, j, none⟩ (.slice (some ⟨g6, 0, none⟩) H cap6)) [(M, .cells (slW (rowsP H (gs ++ [(g6, cap6)])) R) 22 (0, 0)), (P, .cells #[.int .i64 R, .int .i64 H, .slice (some ⟨g4, 0, none⟩) n4 n4] 65 (0, 0)), (g4, .cells (vfs (mulM lh H xs L.flatten R)) 5 (0, 0))]) :=
        holds_cons (holds_cons (holds_cons (holds_nil _) ((heap_setCell_other _ _ _ _ hgM).trans (holds_at hX0 2 rfl))) ((heap_setCell_other _ _ _ _ hPM).trans (holds_at hX0 1 rfl))) HT6.out
      have HBX : Hid (Below w.heap.size w (w6.setCell ⟨M, j, none⟩ (.slice (some ⟨g6, 0, none⟩) H cap6))) := (HB.out.trans (hb6.mono HB.out.size)).setCell (by show w.heap.size ≤ M; omega) _
      clear hs6 hb6 hr6 hX0 c0 c1 c2 hS
      go_wp2
      exact ⟨⟨j + 1, gs ++ [(g6, cap6)], by omega, by go_num, by simp [HGS.out], HBX.out, HHX.out, HRX'.out⟩, by simp [intOf]; omega⟩
    · obtain rfl : j = R := by omega
      go_wp2
      go_ret2
      exact ⟨M, gs, rfl, hM0, HGS.out, holds_at HH.out 0 rfl, HR.out, HB.out⟩
end Go.Proofs.YtmlpijlcpeoeaaaDoor

/- What small numbers in decimal, and names of halves, answer: the library's Itoa, nameOf, Name, Parse of package half, the document's own Number and Name; nothing that was there turns. -/
namespace Go.Proofs.YtmlpijlcpeoeaaaDoor
open Go.RowKit Gf
set_option linter.unusedVariables false
set_option maxRecDepth 20000
/-- a number below a hundred in decimal -/
def numB (n : Nat) : List UInt8 := if n < 10 then [UInt8.ofNat (48 + n)] else [UInt8.ofNat (48 + n / 10), UInt8.ofNat (48 + n % 10)]
/-- bytes as a string -/
def strB (l : List UInt8) : ByteArray := ⟨l.toArray⟩
theorem numB_dec {n : Nat} (h : n < 100) : Lib.decDigits n = numB n := by
  by_cases h1 : n < 10
  · rw [Lib.decDigits_one h1, numB, if_pos h1]
  · rw [Lib.decDigits_two h1 h, numB, if_neg h1]
theorem small_ba (x : ByteArray) (l : List UInt8) (h : x.data.toList = l) : x = strB l := by
  subst h
  cases x
  simp [strB]
theorem extr_data (x : ByteArray) (i j : Nat) : (x.extract i j).data.toList = (x.data.toList.drop i).take (j - i) := by
  simp [ByteArray.data_extract]
/-- a half's name -/
def nameB (k h : Nat) : List UInt8 := (if h / 2 < k then 100 :: numB (h / 2) else 112 :: numB (h / 2 - k)) ++ [if h % 2 = 0 then 97 else 98]
theorem ab0 : (⟨#[97, 98]⟩ : ByteArray).extract 0 1 = strB [97] := by decide +kernel
theorem ab1 : (⟨#[97, 98]⟩ : ByteArray).extract 1 2 = strB [98] := by decide +kernel
theorem strB_app (a b : List UInt8) : strB a ++ strB b = strB (a ++ b) := by
  apply ByteArray.ext
  simp [strB]
theorem strB_size (l : List UInt8) : (strB l).size = l.length := by simp [strB, ByteArray.size]
theorem numB_size (n : Nat) : (strB (numB n)).size ≤ 2 := by
  rw [strB_size, numB]
  split <;> simp
theorem strB_one (c : UInt8) : (⟨#[c]⟩ : ByteArray) = strB [c] := rfl
theorem strB_nil : (⟨#[]⟩ : ByteArray) = strB [] := rfl
theorem strB_inj {a b : List UInt8} (h : strB a = strB b) : a = b := by
  have := congrArg (fun x => x.data.toList) h
  simpa [strB] using this
def dig (d : Nat) : UInt8 := UInt8.ofNat (48 + d)
theorem numB_one {n : Nat} (h : n < 10) : numB n = [dig n] := if_pos h
theorem numB_two {n : Nat} (h : ¬ n < 10) : numB n = [dig (n / 10), dig (n % 10)] := if_neg h
theorem strB_list (l : List UInt8) : (strB l).toList = l := by simp [strB]
theorem strB_some {l : List UInt8} (h : l ≠ []) : (strB l).toList.isEmpty = false := by rw [strB_list]; cases l with | nil => exact absurd rfl h | cons => rfl
theorem numB_ne (n : Nat) : numB n ≠ [] := by rw [numB]; split <;> simp
def emptyN : Value → Nat | .string b => if b.size = 0 then 1 else 0 | _ => 0
theorem vf_digit {d : Nat} (h : d < 10) : Value.int .u8 (48 + (d : Int)) = vf (dig d) := by
  have : (UInt8.ofNat (48 + d)).toNat = 48 + d := by rw [UInt8.toNat_ofNat']; omega
  simp only [vf, dig, this]
  simp
theorem conv_digit {d : Nat} (h : d < 10) (w : World) : (convert 22 9 (.slice (some ⟨w.heap.size, 0, none⟩) 1 1)).run Tryd.prog (w.alloc (.cells #[.int .u8 (48 + (d : Int))] 5)) = .ok (.string (strB [dig d])) (w.alloc (.cells #[.int .u8 (48 + (d : Int))] 5)) := by
  rw [vf_digit h]
  exact conv8 (xs := [dig d]) rfl (row8_own (heap_alloc_last w (.cells (vfs [dig d]) 5)))
end Go.Proofs.YtmlpijlcpeoeaaaDoor

/- What Name and Parse of package half answer, at all numbers and texts; unlike halves have unlike names; nothing that was there turns. -/
namespace Go.Proofs.YtmlpijlcpeoeaaaDoor
open Go.RowKit Gf
set_option linter.unusedVariables false
set_option maxRecDepth 20000
theorem strB_eq {a b : List UInt8} (h : a = b) : ((strB a).toList == (strB b).toList) = true := by rw [h]; exact beq_self_eq_true _
theorem strB_ne {a b : List UInt8} (h : ¬ a = b) : ((strB a).toList == (strB b).toList) = false := by rw [strB_list, strB_list]; exact beq_eq_false_iff_ne.2 h
theorem nameB_inj : ∀ k < 15, ∀ h < 32, ∀ j < 32, nameB k h = nameB k j → h = j := by decide +kernel
theorem nameB_len : ∀ k < 15, ∀ h < 32, 3 ≤ (nameB k h).length ∧ (nameB k h).length ≤ 4 := by decide +kernel
/-- which half a name is -/
def ParsedAs (k n : Nat) (l : List UInt8) (s : Addr) (v : Value) : Prop :=
  (∃ h : Nat, h < n ∧ nameB k h = l ∧ v = .tuple #[.int .i64 h, .nilIface]) ∨ (∀ h, h < n → nameB k h ≠ l) ∧ v = .tuple #[.int .i64 0, errAt s]
end Go.Proofs.YtmlpijlcpeoeaaaDoor

/- What Row of package half answers, and Rows of numbers that aren't legal; alive of stage 5; nothing that was there turns. -/
namespace Go.Proofs.YtmlpijlcpeoeaaaDoor
open Go.RowKit Gf
set_option linter.unusedVariables false
set_option maxRecDepth 20000
set_option maxHeartbeats 1000000 in
theorem hrows_bad (k r : Int) (w : World) (s : Addr) (hs : w.cell? ⟨0, 0, none⟩ = some (errAt s)) (hk0 : -9223372036854775808 ≤ k) (hk1 : k ≤ 9223372036854775807) (hr0 : -9223372036854775808 ≤ r) (hr1 : r ≤ 9223372036854775807) (h : ¬ LegalP k r) :
    Calls Tryd.prog 28 #[.int .i64 k, .int .i64 r] w fun e w' => e = .returned (.tuple #[.agg #[.int .i64 0, .int .i64 0, .slice none 0 0], errAt s]) ∧ Below w.heap.size w w' := by
  have HB0 : Hid _ := (Below.refl w.heap.size w).alloc (Nat.le_refl _) (.cells #[.int .i64 0, .int .i64 0, .slice none 0 0] 65)
  have HA0 : Hid _ := holds_new (holds_nil w) #[.int .i64 0, .int .i64 0, .slice none 0 0] 65
  have HS : Hid _ := cell_later HB0.out hs
  have H : Hid _ := h
  clear h hs
  unfold errAt at *
  go_enter Tryd.func28, Tryd.ntmps28
  go_wp2_with fail
  refine Calls.mono (generator_bad k r _ s HS.out hk0 hk1 hr0 hr1 H.out) ?_
  unfold errAt
  rintro e w1 ⟨rfl, hb1⟩
  have HA1 : Hid _ := holds_alloc (holds_later HA0.out hb1) (.cells #[.int .i64 0, .int .i64 0, .slice none 0 0] 65)
  have hB1 := HB0.out.trans (hb1.mono HB0.out.size)
  have HB1 : Hid _ := hB1.alloc hB1.size (.cells #[.int .i64 0, .int .i64 0, .slice none 0 0] 65)
  have zz := hb1.size
  have k2 := holds_at (holds_later HA0.out hb1) 0 rfl
  have d4 : w1.frozen? ⟨w.heap.size, 0, none⟩ = false := frozen_of_row _ _ _ _ _ k2
  have d5 : w1.frozen? ⟨w.heap.size, 1, none⟩ = false := frozen_of_row _ _ _ _ _ k2
  have d6 : w1.frozen? ⟨w.heap.size, 2, none⟩ = false := frozen_of_row _ _ _ _ _ k2
  have c4 := cellAt k2 0 _ rfl
  have c5 := cellAt k2 1 _ rfl
  have c6 := cellAt k2 2 _ rfl
  have z4 := ltHeap k2
  have hbX : Hid _ := hb1
  clear hb1 hB1 k2
  go_wp2
  refine bodyPost_ret (v := .tuple #[.agg #[.int .i64 0, .int .i64 0, .slice none 0 0], .iface 140 (.pointer (some s))]) (by simp [results, Tryd.results28, go_sem, c4, c5, c6, z4]) rfl ⟨rfl, ?_⟩
  have hX := (((HB0.out.trans (hbX.out.mono HB0.out.size)).setCell (p := ⟨w.heap.size, 0, none⟩) (Nat.le_refl _) (.int .i64 0)).setCell (p := ⟨w.heap.size, 1, none⟩) (Nat.le_refl _) (.int .i64 0)).setCell (p := ⟨w.heap.size, 2, none⟩) (Nat.le_refl _) (.slice none 0 0)
  exact hX.alloc hX.size _
theorem rowAt_half {k r h : Nat} (hh : h < 2 * (k + r)) : rowAt (2 * k) (halfM k r) h = rowF (2 * k) (halfF k (carN (groupN k r)) h) := rowAt_grid hh
theorem alive5_row : rowF (2 * 1) (halfF 1 (carN (groupN 1 2)) 5) = [1, 142] := by decide +kernel
theorem alive5_name : strB (nameB 4 9) = ⟨#[112, 48, 98]⟩ := by decide +kernel
end Go.Proofs.YtmlpijlcpeoeaaaDoor

/- What SameLists answers of two lists that are the same, and what Apart answers of two pieces of memory that lie apart: the second one is written over. -/
namespace Go.Proofs.YtmlpijlcpeoeaaaDoor
open Go.RowKit Gf
set_option linter.unusedVariables false
set_option maxRecDepth 20000
set_option maxHeartbeats 1000000 in
theorem sameLists_F (l ca cb : Nat) (a b : Option Addr) (L : List (List F)) (w : World) (hl : l = L.length) (hl9 : l ≤ 140737488355328) (ha : Rows8 w a L) (hb : Rows8 w b L) :
    Calls Tryd.prog 15 #[.slice a l ca, .slice b l cb] w fun e w' => e = .returned (.bool true) ∧ Below w.heap.size w w' := by
  have HL : Hid _ := hl
  have HA : Hid _ := ha
  have HB : Hid _ := hb
  clear hl ha hb
  go_enter Tryd.func15, Tryd.ntmps15
  go_wp2
  go_loopw [13] (fun t wr => ∃ j : Nat, j ≤ l ∧ t = .int .i64 j ∧ Below w.heap.size w wr) (fun t _ => l - (intOf t).toNat)
  case atStart => exact ⟨0, by omega, rfl, Below.refl _ _⟩
  case round =>
    obtain ⟨j, hj, rfl, hbw⟩ := hrel
    have HBW : Hid _ := hbw
    by_cases hlt : j < l
    · obtain ⟨b1, o1, rfl, _, h1⟩ := rows8_at (rows8_below HA.out hbw) (show j < L.length by rw [← HL.out]; exact hlt)
      obtain ⟨b2, o2, rfl, _, h2⟩ := rows8_at (rows8_below HB.out hbw) (show j < L.length by rw [← HL.out]; exact hlt)
      obtain ⟨xs, hxs⟩ : ∃ xs, L[j]? = some xs := ⟨_, List.getElem?_eq_getElem (by rw [← HL.out]; exact hlt)⟩
      obtain ⟨a1, q1, e1, r1⟩ := h1 j xs hxs
      obtain ⟨a2, q2, e2, r2⟩ := h2 j xs hxs
      have c1 : ∀ w', Below wr.heap.size wr w' → w'.cell? ⟨b1, o1 + j, none⟩ = some (.slice a1 xs.length q1) := fun w' hb => cell_later hb e1
      have c2 : ∀ w', Below wr.heap.size wr w' → w'.cell? ⟨b2, o2 + j, none⟩ = some (.slice a2 xs.length q2) := fun w' hb => cell_later hb e2
      have kA := conv_keep8 (ca := q1) (show xs.length = xs.length from rfl) (row_keep r1)
      have kB := conv_keep8 (ca := q2) (show xs.length = xs.length from rfl) (row_keep r2)
      clear hbw h1 h2 hxs e1 e2 r1 r2
      go_upto_region 6 with fail
      have hR2 : Below wr.heap.size wr wr.drew := (Below.refl _ _).drew
      go_region_held3 (fun w' => Below wr.heap.size wr w') (first | assumption | (refine Below.drew ?_; assumption)) (fail)
      clear kA kB c1 c2 hR2
      go_wp2
      exact ⟨⟨j + 1, by omega, by go_num, HBW.out.drew⟩, by simp [intOf]; omega⟩
    · obtain rfl : j = l := by omega
      clear hbw
      go_wp2
      go_ret
      exact ⟨rfl, HBW.out⟩
/-- turned as far as byte o + k -/
theorem flTo_len' (xs : List F) (k : Nat) : (flTo xs k).length = xs.length := flTo_len xs k
theorem append8_growsAt {w : World} {g o n cap : Nat} {xs ys : List F} {ad : Addr} {m c : Nat} (ty : TypeId) (hx : Row8 w (some ⟨g, o, none⟩) xs) (hn : n = xs.length) (hm : m = ys.length) (hcap : cap < n + m) (hb : n + m ≤ 140737488355328)
    (hy : ∀ j, j < ys.length → w.cell? (ad.add j) = some (.int .u8 ((at8 ys j).toNat : Int))) :
    ∃ g' cap' w', (Builtin.append_ #[22, 22] ty #[.slice (some ⟨g, o, none⟩) n cap, .slice (some ad) m c]).run Tryd.prog w = .ok (.slice (some ⟨g', 0, none⟩) (n + m) cap') w' ∧
      Has8 w' g' (xs ++ ys) cap' ∧ w.grownBy w' none ∧ w.heap.size ≤ g' := by
  subst hn hm
  obtain ⟨i, hi, h1, h2, h3⟩ := info8
  obtain ⟨v', w', hrun, ho, hgr⟩ := run_append_arg_grows (P := Tryd.prog) w 22 ty 5 i _ 1 1 Tryd.underlying22 hi h3 h1 h2 rfl (by decide)
    ⟨g, o, none⟩ xs.length cap (xs.map vf) (by simp) (fun j v hv => by
      simp only [List.getElem?_map, Option.map_eq_some_iff] at hv
      obtain ⟨x, hx1, rfl⟩ := hv
      have hj : j < xs.length := (List.getElem?_eq_some_iff.1 hx1).1
      have e : at8 xs j = x := by simp [at8, hx1]
      rcases hx with e' | ⟨b, off, e', hx⟩
      · rw [e'] at hj; simp at hj
      · cases e'
        have hadd : (⟨g, o, none⟩ : Addr).add j = ⟨g, o + j, none⟩ := by unfold Addr.add; split <;> simp_all
        rw [hadd, hx j hj, e]; rfl)
    ad ys.length c (ys.map vf) (by simp) (fun j v hv => by
      simp only [List.getElem?_map, Option.map_eq_some_iff] at hv
      obtain ⟨x, hx1, rfl⟩ := hv
      have hj : j < ys.length := (List.getElem?_eq_some_iff.1 hx1).1
      have e : at8 ys j = x := by simp [at8, hx1]
      rw [hy j hj, e]; rfl) hcap (by simp only [maxLen]; omega) (by omega)
  rcases ho.2 with ⟨hv, h0⟩ | ⟨g', cap', cur', hv, hge, hg', hl', hm', hs', ht'⟩
  · omega
  · subst hv
    refine ⟨g', cap', w', hrun, ⟨cur', hg', by omega, by simpa using hl', hm', ?_⟩, hgr, hge⟩
    rw [List.length_append, List.map_append, ← ht', Nat.mul_one]
theorem add_zero_at (g j : Nat) : (⟨g, 0, none⟩ : Addr).add j = ⟨g, j, none⟩ := by unfold Addr.add; split <;> simp_all
theorem row8_piece {w : World} {g o m : Nat} {xs : List F} {t : TypeId} {fr : Nat × Nat} (h : w.heap[g]? = some (.cells (vfs xs) t fr)) (ho : o + m ≤ xs.length) : Row8 w (some ⟨g, o, none⟩) ((xs.drop o).take m) :=
  .inr ⟨g, o, rfl, fun j hj => by
    rw [List.length_take, List.length_drop] at hj
    rw [cell_of_row _ _ _ _ _ _ h, vfs_get _ _ (by omega), at8_take (by omega), at8_drop]⟩
/-- Apart, where the second list is a piece of a block, full, and the first one doesn't meet it -/
theorem apart_S (gb o m n ca : Nat) (aa : Option Addr) (xs ys : List F) (w : World) (hn : n = xs.length) (ho : o + m ≤ ys.length) (hm : m ≤ 140737488351232)
    (hy : w.heap[gb]? = some (.cells (vfs (flTo ys o)) 5 (0, 0)))
    (hx : ∀ k, k ≤ m → ∀ w', w.grownBy w' (some gb) → w'.heap[gb]? = some (.cells (vfs (flTo ys (o + k))) 5 (0, 0)) → Row8 w' aa xs) :
    Calls Tryd.prog 16 #[.slice aa n ca, .slice (some ⟨gb, o, none⟩) m m] w fun e w' => e = .returned (.bool true) ∧ w.grownBy w' (some gb) ∧
      w'.heap[gb]? = some (.cells (vfs (flTo ys (o + m))) 5 (0, 0)) := by
  have k0 := conv8 (ca := ca) hn (hx 0 (Nat.zero_le _) w (World.grownBy.refl _ _) hy)
  have hgb : gb < w.heap.size := ltHeap hy
  have HX : Hid _ := hx
  have HY : Hid _ := hy
  have HN : Hid _ := hn
  have HO : Hid _ := ho
  clear hx hy hn
  go_enter Tryd.func16, Tryd.ntmps16
  go_wp2
  clear k0
  go_loopw [13] (fun i wr => ∃ k : Nat, k ≤ m ∧ i = .int .i64 k ∧ w.grownBy wr (some gb) ∧ wr.heap[gb]? = some (.cells (vfs (flTo ys (o + k))) 5 (0, 0))) (fun i _ => m - (intOf i).toNat)
  case atStart => exact ⟨0, by omega, rfl, World.grownBy.refl _ _, HY.out⟩
  case round =>
    obtain ⟨k, hk, rfl, hg1, hh1⟩ := hrel
    by_cases hlt : k < m
    · have hky : o + k < ys.length := by have := HO.out; omega
      have c1 : wr.cell? ⟨gb, o + k, none⟩ = some (.int .u8 ((at8 ys (o + k)).toNat : Int)) := by
        rw [cell_of_row _ _ _ _ _ _ hh1, vfs_get _ _ (by rw [flTo_len]; exact hky), flTo_at]
      have c2 : wr.frozen? ⟨gb, o + k, none⟩ = false := frozen_of_row _ _ _ _ _ hh1
      have ex := fl_val (at8 ys (o + k))
      have HG : Hid _ := hg1
      have HH : Hid _ := hh1
      have HS : Hid _ := flTo_succ ys (o + k) hky
      clear hg1 hh1
      go_wp2
      exact ⟨⟨k + 1, by omega, by go_num, grownBy_setCell HG.out _, by rw [heap_setCell_same _ _ _ _ _ _ HH.out, vfs_set, HS.out]; rfl⟩, by simp [intOf]; omega⟩
    · obtain rfl : k = m := by omega
      obtain ⟨zs, hzs⟩ : ∃ zs, zs = ((flTo ys (o + k)).drop o).take k := ⟨_, rfl⟩
      have hzl : k = zs.length := by
        rw [hzs, List.length_take, List.length_drop, flTo_len]
        have := HO.out
        omega
      have hzr : Row8 wr (some ⟨gb, o, none⟩) zs := by
        rw [hzs]
        exact row8_piece hh1 (by rw [flTo_len]; exact HO.out)
      have k1 := conv8 (ca := ca) HN.out (HX.out k (Nat.le_refl _) wr hg1 hh1)
      have hsz := hg1.size
      obtain ⟨g2, cap2, w2, hrun, hs2, hgr2, hge2⟩ := append8_growsAt (w := wr.alloc (.cells (vfs sevens) 5)) (g := gb) (o := o) (n := k) (cap := k) (xs := zs) (ys := sevens) (ad := ⟨wr.heap.size, 0, none⟩) (m := 8) (c := 8) 22
        (row8_alloc hzr _) hzl rfl (by omega) (by omega) (fun j hj => by
          rw [add_zero_at, World.cell?_alloc_at _ _ _ _ rfl, vfs_get _ _ hj])
      have hge : wr.heap.size + 1 ≤ g2 := by simpa using hge2
      have hgr3 : w.grownBy w2 (some gb) := grownBy_trans (grownBy_trans hg1 (World.grownBy_alloc wr (.cells (vfs sevens) 5) none) (by simp)) hgr2 (by simp)
      have hh3 : w2.heap[gb]? = some (.cells (vfs (flTo ys (o + k))) 5 (0, 0)) := (hgr2.block gb (by simp; omega) (by simp)).trans (((World.grownBy_alloc wr _ none).block gb (by omega) (by simp)).trans hh1)
      have HSV : Hid (vfs sevens = #[.int .u8 7, .int .u8 7, .int .u8 7, .int .u8 7, .int .u8 7, .int .u8 7, .int .u8 7, .int .u8 7]) := rfl
      have HR : Hid _ := hrun
      have HS2 : Hid _ := hs2
      have HG3 : Hid _ := hgr3
      have HH3 : Hid _ := hh3
      have HLS : Hid ((zs ++ sevens).length = k + 8) := by show _ = _; rw [List.length_append, ← hzl]; rfl
      clear hg1 hh1 hzr hzs hzl hrun hs2 hgr3 hh3 hgr2 hge2
      go_wp2_with (at_builtin; rw [← HSV.out]; refine wpList_append_run rfl _ _ 22 rfl _ _ _ _ rfl rfl HR.out ?_)
      clear k1
      have hg2b : g2 ≠ gb := by omega
      have hg2w : w.heap.size ≤ g2 := by omega
      go_loopw [8] (fun i wv => ∃ j : Nat, ∃ zs : List F, j ≤ 8 ∧ i = .int .i64 ((k + j : Nat) : Int) ∧ zs.length = k + 8 ∧ w2.grownBy wv (some g2) ∧ Has8 wv g2 zs cap2) (fun i _ => k + 8 - (intOf i).toNat)
      case atStart => exact ⟨0, _, by omega, rfl, HLS.out, World.grownBy.refl _ _, HS2.out⟩
      case round =>
        obtain ⟨j, zs, hj, rfl, hz, hgv, hhv⟩ := hrel
        by_cases hlt2 : j < 8
        · obtain ⟨c1, c2⟩ := has8_cell (j := k + j) hhv (by omega)
          have ex := fl_val (at8 zs (k + j))
          have HG : Hid _ := hgv
          have HS : Hid _ := has8_set (j := k + j) hhv (by omega) (fl (at8 zs (k + j)))
          have HZ : Hid _ := hz
          clear hgv hhv hz
          go_wp2
          exact ⟨⟨j + 1, zs.set (k + j) (fl (at8 zs (k + j))), by omega, by go_num, by rw [List.length_set]; exact HZ.out, grownBy_setCell HG.out _, HS.out⟩, by simp [intOf]; omega⟩
        · have hj8 : j = 8 := by omega
          have hfin : w.grownBy wr (some gb) := grownBy_trans HG3.out hgv (fun q hq _ => by simp; omega)
          have hhb : wr.heap[gb]? = some (.cells (vfs (flTo ys (o + k))) 5 (0, 0)) := (hgv.block gb (Array.getElem?_eq_some_iff.1 HH3.out).1 (fun e => hg2b (Option.some.inj e).symm)).trans HH3.out
          have k2 := conv8 (ca := ca) HN.out (HX.out k (Nat.le_refl _) wr hfin hhb)
          have HF : Hid _ := hfin
          have HB : Hid _ := hhb
          clear hgv hhv hfin hhb hz
          subst hj8
          go_wp2
          go_ret
          exact ⟨rfl, HF.out, HB.out⟩
end Go.Proofs.YtmlpijlcpeoeaaaDoor

/- What Encode of package code answers, of all numbers and lists of bytes; nothing that was there turns. -/
namespace Go.Proofs.YtmlpijlcpeoeaaaDoor
open Go.RowKit Gf
set_option linter.unusedVariables false
set_option maxRecDepth 20000
/-- which error Encode tells -/
def encE (k r n : Int) : Nat := if LegalP k r then halfE k n else 1
theorem encE_ok {k r n : Int} (h : encE k r n = 0) : ∃ a b m : Nat, k = a ∧ r = b ∧ n = m ∧ 1 ≤ a ∧ 2 ≤ b ∧ a + b ≤ 16 ∧ 1 ≤ m ∧ m ≤ 128 * a := by
  unfold encE at h
  split at h
  · rename_i hL
    obtain ⟨a, b, rfl, rfl, h1, h2, h3⟩ := legal_nat hL
    obtain ⟨c, m, hc, rfl, _, _, h4, h5⟩ := half_ok h
    exact ⟨a, b, m, rfl, rfl, rfl, h1, h2, h3, h4, by omega⟩
  · omega
theorem encE_of {k r n : Nat} (h1 : 1 ≤ k) (h2 : 2 ≤ r) (h3 : k + r ≤ 16) (h4 : 1 ≤ n) (h5 : n ≤ 128 * k) : encE k r n = 0 := by
  unfold encE; rw [if_pos (show LegalP k r from ⟨by omega, by omega, by omega⟩), halfE_ok h1 (by omega) h4 h5]
theorem halfE_25 (k n : Int) : halfE k n ≤ 25 := by unfold halfE; split <;> (try split) <;> (try split) <;> omega
theorem encE_le (k r n : Int) : encE k r n ≤ 25 := by unfold encE; split; exact halfE_25 _ _; omega
/-- the errors that Encode and Fits name -/
def ErrsF (w : World) (E : Nat → Addr) : Prop := ErrsE w E ∧ w.cell? ⟨2, 0, none⟩ = some (errAt (E 1))
theorem errsF_below {w w' : World} {E : Nat → Addr} (h : ErrsF w E) (hb : Below w.heap.size w w') : ErrsF w' E := ⟨errsE_below h.1 hb, cell_later hb h.2⟩
theorem comb_half {k r H : Nat} {L : List (List F)} {i : Nat} (hi : i < 2 * (k + r)) : combL (2 * k) H (halfM k r) L i = imgL k (carN (groupN k r)) H (bytesD L) i :=
  rowF_congr fun b _ => sumF_congr fun v hv => by rw [halfM, at8_grid hi hv]
theorem rowsP_congr {w : World} {B : Nat} {gs : List (Nat × Nat)} {f g : Nat → List F} (h : RowsP w B gs f) (e : ∀ i, i < gs.length → f i = g i) : RowsP w B gs g :=
  ⟨fun i p hp => ⟨(h.1 i p hp).1, by rw [← e i (List.getElem?_eq_some_iff.1 hp).1]; exact (h.1 i p hp).2⟩, h.2⟩
/-- all halves of a stripe in memory, each in a block of its own -/
def EncAt (w : World) (B M : Nat) (k r n : Nat) (xs : List F) (gs : List (Nat × Nat)) : Prop :=
  B ≤ M ∧ gs.length = 2 * (k + r) ∧ w.heap[M]? = some (.cells (slW (rowsP (cntN (2 * k) n) gs) (2 * (k + r))) 22 (0, 0)) ∧ RowsP w B gs (imgL k (carN (groupN k r)) (cntN (2 * k) n) (strD (cntN (2 * k) n) xs))
theorem encAt_below {w w' : World} {B M k r n : Nat} {xs : List F} {gs : List (Nat × Nat)} (h : EncAt w B M k r n xs gs) (hb : Below w.heap.size w w') : EncAt w' B M k r n xs gs := ⟨h.1, h.2.1, heap_later h.2.2.1 hb, rowsP_below h.2.2.2 hb⟩
theorem encAt_rows {w : World} {B M k r n : Nat} {xs : List F} {gs : List (Nat × Nat)} (h : EncAt w B M k r n xs gs) : Rows8 w (some ⟨M, 0, none⟩) (encL k r (cntN (2 * k) n) xs) :=
  rowsP_rows h.2.2.2 h.2.1 (fun i => imgL_len _ _ _ _ _) h.2.2.1
set_option maxHeartbeats 4000000 in
theorem encode_ok (k r n ca : Nat) (a : Option Addr) (xs : List F) (w : World) (E : Nat → Addr) (hE : ErrsF w E) (h1 : 1 ≤ k) (h2 : 2 ≤ r) (h3 : k + r ≤ 16) (h4 : 1 ≤ n) (h5 : n ≤ 128 * k) (hn : n = xs.length) (hx : Row8 w a xs) :
    Calls Tryd.prog 11 #[.int .i64 k, .int .i64 r, .slice a n ca] w fun e w' => ∃ (M c : Nat) (gs : List (Nat × Nat)), e = .returned (.tuple #[.slice (some ⟨M, 0, none⟩) c c, .nilIface]) ∧ c = 2 * (k + r) ∧
      EncAt w' w.heap.size M k r n xs gs ∧ Below w.heap.size w w' := by
  obtain ⟨k1, k2, _, _⟩ := cnt_half h1 (show k ≤ 14 by omega) h4 h5
  have HE : Hid (ErrsF w E) := hE
  have HX : Hid (Row8 w a xs) := hx
  have HN : Hid (n = xs.length) := hn
  clear hE hx hn
  obtain ⟨c2, hc2⟩ : ∃ c2, c2 = 2 * k := ⟨_, rfl⟩
  obtain ⟨cR, hcR⟩ : ∃ cR, cR = 2 * (k + r) := ⟨_, rfl⟩
  have HC2 : Hid (c2 = 2 * k) := hc2
  have HCR : Hid (cR = 2 * (k + r)) := hcR
  have HR : Hid _ := fun w s h => hrows_F k r w s h h1 h2 h3
  rw [← hc2, ← hcR] at HR
  have hcl : c2 ≤ 28 := by omega
  have hcl1 : 1 ≤ c2 := by omega
  have hRl : cR ≤ 32 := by omega
  clear hc2 hcR
  go_enter Tryd.func11, Tryd.ntmps11
  go_wp2_with fail
  refine Calls.mono (HR.out _ (E 1) HE.out.2) ?_
  rintro e w1 ⟨g1, m1, rfl, hm1, hg1, hh1, hb1⟩
  have HA1 : Hid _ := holds_new (holds_cons (holds_nil w1) hh1) #[.int .i64 cR, .int .i64 c2, .slice (some ⟨g1, 0, none⟩) m1 m1] 65
  have HB1 : Hid (Below w.heap.size w (w1.alloc (.cells #[.int .i64 cR, .int .i64 c2, .slice (some ⟨g1, 0, none⟩) m1 m1] 65))) := hb1.alloc hb1.size _
  have HM1 : Hid (m1 = cR * c2) := hm1
  clear hm1 hg1 hh1 hb1
  go_wp2_with fail
  refine Calls.mono (split_ok k n ca a xs _ E (errsE_below HE.out.1 HB1.out) h1 (by omega) h4 h5 HN.out (row8_below HX.out HB1.out)) ?_
  rintro e w2 ⟨hb2, g2, c, H, rfl, hc, hH, hz1, hz2, hne, hB2, hG2, hbl⟩
  obtain rfl : c = c2 := by rw [hc, HC2.out]
  have HH : Hid (H = cntN (2 * k) n) := hH
  have HR2 : Hid (Rows8 w2 (some ⟨hb2, 0, none⟩) ((List.range c).map (hf H xs))) := .inr ⟨hb2, 0, rfl, fun j ys hj => by
    have hjc : j < c := by have := (List.getElem?_eq_some_iff.1 hj).1; simpa using this
    rw [List.getElem?_map, List.getElem?_range hjc] at hj
    obtain rfl := Option.some.inj hj
    refine ⟨some ⟨g2, j * H, none⟩, H, ?_, row8_half hG2 hjc⟩
    rw [Nat.zero_add, hf_len]
    exact cellAt hB2 j _ (hvV_at hjc (Nat.le_refl _))⟩
  have HA2 : Hid _ := holds_later HA1.out hbl
  have HB2 : Hid (Below w.heap.size w w2) := HB1.out.trans (hbl.mono HB1.out.size)
  have hHl : H ≤ 64 := by rw [hH]; exact k2
  clear hc hH hz1 hz2 hne hB2 hG2 hbl HA1 HB1
  have c0 := cellAt (holds_at HA2.out 0 rfl) 0 _ rfl
  have c1 := cellAt (holds_at HA2.out 0 rfl) 1 _ rfl
  have c3 := cellAt (holds_at HA2.out 0 rfl) 2 _ rfl
  go_wp2_with fail
  refine Calls.mono (ccomb_F cR c H m1 m1 c c (some ⟨g1, 0, none⟩) (some ⟨hb2, 0, none⟩) (halfM k r) ((List.range c).map (hf H xs)) _ (by omega) hcl1 (by omega) hHl HM1.out (by rw [halfM_len, HCR.out, HC2.out]) (Nat.le_refl _) (holds_row HA2.out 1 rfl)
    rfl (by simp) (fun ys hy => by obtain ⟨v, _, rfl⟩ := List.mem_map.1 hy; exact hf_len _ _ _) HR2.out) ?_
  rintro e w3 ⟨M, gs, rfl, hM, hgs, hT, hrs, hb3⟩
  have HB3 : Hid (Below w.heap.size w w3) := HB2.out.trans (hb3.mono HB2.out.size)
  have HEnc : Hid (EncAt w3 w.heap.size M k r n xs gs) := by
    have hz := HB2.out.size
    refine ⟨by omega, by rw [hgs, HCR.out], by rw [← HH.out, ← HCR.out]; exact hT, ?_⟩
    have hr2 : RowsP w3 w.heap.size gs (combL c H (halfM k r) ((List.range c).map (hf H xs))) := ⟨fun i p hp => ⟨by have := (hrs.1 i p hp).1; omega, (hrs.1 i p hp).2⟩, hrs.2⟩
    refine rowsP_congr hr2 fun i hi => ?_
    rw [HC2.out, comb_half (by rw [← HCR.out, ← hgs]; exact hi), img_stripe (by omega), ← HH.out]
  clear hM hgs hT hrs hb3 c0 c1 c3
  go_wp2
  go_ret2
  exact ⟨M, cR, gs, rfl, HCR.out, HEnc.out, HB3.out⟩
set_option maxHeartbeats 2000000 in
theorem encode_bad (k r : Int) (n ca : Nat) (a : Option Addr) (w : World) (E : Nat → Addr) (hE : ErrsF w E) (hk0 : -9223372036854775808 ≤ k) (hk1 : k ≤ 9223372036854775807) (hr0 : -9223372036854775808 ≤ r) (hr1 : r ≤ 9223372036854775807) (hla : n ≤ 140737488355328) (h : encE k r n ≠ 0) :
    Calls Tryd.prog 11 #[.int .i64 k, .int .i64 r, .slice a n ca] w fun e w' => e = .returned (.tuple #[.slice none 0 0, evV E (encE k r n)]) ∧ Below w.heap.size w w' := by
  have HE : Hid (ErrsF w E) := hE
  clear hE
  by_cases hL : LegalP k r
  · obtain ⟨p, q, rfl, rfl, h1, h2, h3⟩ := legal_nat hL
    have he : encE p q n = halfE p n := by unfold encE; rw [if_pos hL]
    rw [he] at h ⊢
    have HS : Hid _ := fun u hu => split_bad p a n ca u E hu hla h
    obtain ⟨s, hs⟩ : ∃ s, evV E (halfE p n) = errAt s := ⟨E (halfE p n - 1), by unfold evV; rw [if_neg h]⟩
    rw [hs] at HS ⊢
    have HR : Hid _ := fun w s h => hrows_F p q w s h h1 h2 h3
    clear hs he h hL
    unfold errAt at HS ⊢
    go_enter Tryd.func11, Tryd.ntmps11
    go_wp2_with fail
    refine Calls.mono (HR.out _ (E 1) HE.out.2) ?_
    rintro e w1 ⟨g1, m1, rfl, hm1, hg1, hh1, hb1⟩
    have HB1 : Hid (Below w.heap.size w (w1.alloc (.cells #[.int .i64 (2 * (p + q) : Nat), .int .i64 (2 * p : Nat), .slice (some ⟨g1, 0, none⟩) m1 m1] 65))) := hb1.alloc hb1.size _
    clear hm1 hg1 hh1 hb1
    go_wp2_with fail
    refine Calls.mono (HS.out _ (errsE_below HE.out.1 HB1.out)) ?_
    rintro e w2 ⟨rfl, hb2⟩
    have HB2 : Hid (Below w.heap.size w w2) := HB1.out.trans (hb2.mono HB1.out.size)
    clear hb2
    go_wp2_with fail
    go_ret2
    exact ⟨rfl, HB2.out⟩
  · have he : encE k r n = 1 := by unfold encE; rw [if_neg hL]
    rw [he, evV_succ]
    have HR : Hid _ := fun u hu => hrows_bad k r u (E 0) hu hk0 hk1 hr0 hr1 hL
    clear he h hL
    unfold errAt at HR ⊢
    go_enter Tryd.func11, Tryd.ntmps11
    go_wp2_with fail
    refine Calls.mono (HR.out _ HE.out.1.1) ?_
    rintro e w1 ⟨rfl, hb1⟩
    have HB1 : Hid (Below w.heap.size w w1) := hb1
    clear hb1
    go_wp2_with fail
    go_ret2
    exact ⟨rfl, HB1.out.alloc HB1.out.size _⟩
end Go.Proofs.YtmlpijlcpeoeaaaDoor

/- The chapter's worked answer of package code holds: the function 'alive' of the statements returns true. -/
namespace Go.Proofs.YtmlpijlcpeoeaaaDoor
open Go.RowKit Gf
set_option linter.unusedVariables false
set_option maxRecDepth 20000
theorem alive7_1 : imgL 1 (carN (groupN 1 2)) (cntN (2 * 1) 2) (strD (cntN (2 * 1) 2) [5, 7]) 4 = [140] := by decide +kernel
theorem alive7_2 : imgL 1 (carN (groupN 1 2)) (cntN (2 * 1) 2) (strD (cntN (2 * 1) 2) [5, 7]) 5 = [136] := by decide +kernel
set_option maxHeartbeats 2000000 in
theorem alive7_ok (w : World) (E : Nat → Addr) (hE : ErrsF w E) : Calls Tryd.prog 9 #[] w fun e w' => e = .returned (.bool true) ∧ Below w.heap.size w w' := by
  have HE : Hid (ErrsF w E) := hE
  clear hE
  have HB0 : Hid (Below w.heap.size w (w.alloc (.cells #[.int .u8 5, .int .u8 7] 5))) := (Below.refl _ _).alloc (Nat.le_refl _) _
  have HL : Hid (Row8 (w.alloc (.cells #[.int .u8 5, .int .u8 7] 5)) (some ⟨w.heap.size, 0, none⟩) [5, 7]) := row8_own (show (w.alloc (.cells #[.int .u8 5, .int .u8 7] 5)).heap[w.heap.size]? = some (.cells (vfs [5, 7]) 5 (0, 0)) from heap_alloc_last _ _)
  go_enter Tryd.func9, Tryd.ntmps9
  go_wp2_with fail
  refine Calls.mono (encode_ok 1 2 2 2 _ [5, 7] _ E (errsF_below HE.out HB0.out) (by decide) (by decide) (by decide) (by decide) (by decide) rfl HL.out) ?_
  rintro e w2 ⟨M, c, gs, rfl, rfl, hE2, hb2⟩
  have HB2 : Hid (Below w.heap.size w w2) := HB0.out.trans (hb2.mono HB0.out.size)
  obtain ⟨_, hl, hT, hR, _⟩ := hE2
  have hl6 : gs.length = 6 := hl
  obtain ⟨⟨g4, c4⟩, h4⟩ : ∃ p, gs[4]? = some p := ⟨_, List.getElem?_eq_getElem (by omega)⟩
  obtain ⟨⟨g5, c5⟩, h5⟩ : ∃ p, gs[5]? = some p := ⟨_, List.getElem?_eq_getElem (by omega)⟩
  have r4 := row8_has (hR 4 _ h4).2
  have r5 := row8_has (hR 5 _ h5).2
  rw [alive7_1] at r4
  rw [alive7_2] at r5
  have d4 := cellAt hT 4 _ (slW_at (rowsP_at h4))
  have d5 := cellAt hT 5 _ (slW_at (rowsP_at h5))
  rw [show cntN (2 * 1) 2 = 1 from by decide] at d4 d5
  have kC4 : ∀ u, Below w2.heap.size w2 u → (convert 22 9 (.slice (some ⟨g4, 0, none⟩) 1 c4)).run Tryd.prog u = .ok (.string ⟨#[140]⟩) u := fun u hu => by
    have := conv8 (la := 1) (ca := c4) rfl (row8_below r4 hu)
    rwa [show str8 [140] = { data := #[140] } by decide +kernel] at this
  have kC5 : ∀ u, Below w2.heap.size w2 u → (convert 22 9 (.slice (some ⟨g5, 0, none⟩) 1 c5)).run Tryd.prog u = .ok (.string ⟨#[136]⟩) u := fun u hu => by
    have := conv8 (la := 1) (ca := c5) rfl (row8_below r5 hu)
    rwa [show str8 [136] = { data := #[136] } by decide +kernel] at this
  have kB : ∀ (b : Nat) (u : World) (x : F) (s : ByteArray), u.heap[b]? = some (.cells #[.int .u8 (x.toNat : Int)] 5 (0, 0)) → str8 [x] = s → (convert 22 9 (.slice (some ⟨b, 0, none⟩) 1 1)).run Tryd.prog u = .ok (.string s) u := fun b u x s h e => by
    have := conv8 (la := 1) (ca := 1) (show 1 = ([x] : List F).length from rfl) (row8_own (xs := [x]) h)
    rwa [e] at this
  have b0 : Below w2.heap.size w2 w2.drew := (Below.refl _ _).drew
  have b1 : Below w2.heap.size w2 (w2.alloc (.cells #[.int .u8 140] 5)) := (Below.refl _ _).alloc (Nat.le_refl _) _
  have b2 : Below w2.heap.size w2 ((w2.alloc (.cells #[.int .u8 140] 5)).alloc (.cells #[.int .u8 136] 5)) := b1.alloc (by simp) _
  have f1 := kC4 _ b0
  have f2 := kC4 _ b1.drew
  have f3 := kC5 _ b1.drew
  have f4 := kC5 _ b2.drew
  have f5 := kB w2.heap.size (w2.alloc (.cells #[.int .u8 140] 5)).drew 140 ⟨#[140]⟩ (heap_alloc_last _ _) (by decide +kernel)
  have f6 := kB (w2.alloc (.cells #[.int .u8 140] 5)).heap.size ((w2.alloc (.cells #[.int .u8 140] 5)).alloc (.cells #[.int .u8 136] 5)).drew 136 ⟨#[136]⟩ (heap_alloc_last _ _) (by decide +kernel)
  rw [World.size_alloc] at f6
  have e140 : ((ByteArray.mk #[140]).toList == (ByteArray.mk #[140]).toList) = true := by decide +kernel
  have e136 : ((ByteArray.mk #[136]).toList == (ByteArray.mk #[136]).toList) = true := by decide +kernel
  have lM := ltHeap hT
  clear hl hT hR h4 h5 hb2 kC4 kC5 kB b0 b1 b2 r4 r5
  go_wp2
  go_region
  go_wp2
  go_ret
  have z := HB2.out.size
  exact ⟨rfl, ((HB2.out.alloc z _).alloc (by simp; omega) _).drew⟩
end Go.Proofs.YtmlpijlcpeoeaaaDoor

/- Shards in a block of one's own: three cells each. What Shards of package code answers, of all numbers and lists of bytes. -/
namespace Go.Proofs.YtmlpijlcpeoeaaaDoor
open Go.RowKit Gf
set_option linter.unusedVariables false
set_option maxRecDepth 20000
abbrev Tri := Value × Value × Value
/-- three values to an element -/
def triL (T : List Tri) : List Value := T.flatMap fun t => [t.1, t.2.1, t.2.2]
def triC (T : List Tri) : Array Value := (triL T).toArray
def tri3 (t : Tri) : Nat → Value
  | 0 => t.1
  | 1 => t.2.1
  | _ => t.2.2
theorem triL_at : ∀ (T : List Tri) (j q : Nat), q < 3 → (triL T)[j * 3 + q]? = T[j]?.map fun t => tri3 t q
  | [], j, q, _ => by simp [triL]
  | t :: T, 0, q, h => by
    match q, h with
    | 0, _ => rfl
    | 1, _ => rfl
    | 2, _ => rfl
  | t :: T, j + 1, q, h => by
    have := triL_at T j q h
    rw [show (j + 1) * 3 + q = (j * 3 + q) + 3 by omega]
    exact this
theorem triL_set : ∀ (T : List Tri) (j : Nat) (a b c : Value), (((triL T).set (j * 3) a).set (j * 3 + 1) b).set (j * 3 + 2) c = triL (T.set j (a, b, c))
  | [], j, a, b, c => by simp [triL]
  | t :: T, 0, a, b, c => rfl
  | t :: T, j + 1, a, b, c => by
    have := triL_set T j a b c
    rw [show (j + 1) * 3 + 1 = (j * 3 + 1) + 3 by omega, show (j + 1) * 3 + 2 = (j * 3 + 2) + 3 by omega, show (j + 1) * 3 = (j * 3) + 3 by omega]
    show t.1 :: t.2.1 :: t.2.2 :: (((triL T).set (j * 3) a).set (j * 3 + 1) b).set (j * 3 + 2) c = _
    rw [this]; rfl
theorem triC_at {T : List Tri} {j q : Nat} {t : Tri} (h : T[j]? = some t) (hq : q < 3) : (triC T)[j * 3 + q]? = some (tri3 t q) := by
  show (triL T).toArray[j * 3 + q]? = _
  rw [List.getElem?_toArray, triL_at T j q hq, h]; rfl
theorem triC_set (T : List Tri) (j : Nat) (a b c : Value) : (((triC T).setIfInBounds (j * 3) a).setIfInBounds (j * 3 + 1) b).setIfInBounds (j * 3 + 2) c = triC (T.set j (a, b, c)) := by
  apply Array.toList_inj.1
  simp only [Array.toList_setIfInBounds, triC]
  exact triL_set T j a b c
/-- the zero of a shard -/
def zeroT : Tri := (.int .i64 0, .slice none 0 0, .slice none 0 0)
theorem infoT : ∃ i, Tryd.prog.info? 38 = some i ∧ i.size = 3 ∧ i.bytes = 56 ∧ i.zero = some (.agg #[.int .i64 0, .slice none 0 0, .slice none 0 0]) := by
  have hi : (Tryd.prog.info? 38).map (fun i => (i.size, i.bytes, i.zero)) = some (3, 56, some (.agg #[.int .i64 0, .slice none 0 0, .slice none 0 0])) := by kernel_rfl
  cases hq : Tryd.prog.info? 38 with
  | none => simp [hq] at hi
  | some i =>
    simp only [hq, Option.map_some, Option.some.injEq, Prod.mk.injEq] at hi
    exact ⟨i, rfl, hi.1, hi.2.1, hi.2.2⟩
theorem run_makeT (n : Nat) (hn : n ≤ 64) (w : World) :
    (Instr.makeSlice 30 (.int .i64 (n : Int)) (.int .i64 (n : Int))).run Tryd.prog w = .ok (.slice (some ⟨w.heap.size, 0, none⟩) n n) (w.alloc (.cells (triC (List.replicate n zeroT)) 38)) := by
  obtain ⟨i, hi, h1, h2, h3⟩ := infoT
  have := run_make (P := Tryd.prog) w 30 38 i _ Tryd.underlying30 hi h3 .i64 .i64 n n (by omega) (by omega) (by rw [h2]; omega) (by omega)
  rw [this, h1]
  have e : madeCells (Value.agg #[.int .i64 0, .slice none 0 0, .slice none 0 0]).cells (n * 3) = triC (List.replicate n zeroT) := by
    apply Array.ext_getElem?
    intro i
    have hz : (Value.agg #[.int .i64 0, .slice none 0 0, .slice none 0 0]).cells = #[.int .i64 0, .slice none 0 0, .slice none 0 0] := by rfl
    rw [hz]
    obtain ⟨j, q, rfl, hq⟩ : ∃ j q, i = j * 3 + q ∧ q < 3 := ⟨i / 3, i % 3, by omega, by omega⟩
    by_cases h : j < n
    · rw [triC_at (t := zeroT) (by rw [List.getElem?_replicate, if_pos h]) hq]
      simp only [madeCells, Array.getElem?_map]
      rw [Array.getElem?_range]
      rw [if_pos (by omega)]
      simp only [Option.map_some]
      rw [show (j * 3 + q) % (#[Value.int .i64 0, .slice none 0 0, .slice none 0 0] : Array Value).size = q by show (j * 3 + q) % 3 = q; omega]
      match q, hq with
      | 0, _ => rfl
      | 1, _ => rfl
      | 2, _ => rfl
    · have e9 : (triC (List.replicate n zeroT))[j * 3 + q]? = none := by
        show (triL _).toArray[j * 3 + q]? = _
        rw [List.getElem?_toArray, triL_at _ _ _ hq, List.getElem?_replicate, if_neg h]; rfl
      rw [e9]
      simp only [madeCells, Array.getElem?_map]
      rw [Array.getElem?_range, if_neg (by omega)]
      rfl
  simp only [Int.toNat_natCast, e]
/-- shard j of a list of halves -/
def shV (vs : List Value) (j : Nat) : Tri := (.int .i64 (j : Int), vs.getD (2 * j) (.slice none 0 0), vs.getD (2 * j + 1) (.slice none 0 0))
/-- the shards made as far as j -/
def shP (vs : List Value) (m j : Nat) : List Tri := (List.range m).map fun i => if i < j then shV vs i else zeroT
theorem shP_zero (vs : List Value) (m : Nat) : List.replicate m zeroT = shP vs m 0 := by
  apply List.ext_getElem?
  intro i
  simp only [shP, List.getElem?_map, List.getElem?_replicate]
  by_cases h : i < m
  · rw [if_pos h, List.getElem?_range h]; rfl
  · rw [if_neg h, List.getElem?_eq_none (by simp; omega)]; rfl
theorem shP_full (vs : List Value) (m : Nat) : shP vs m m = (List.range m).map (shV vs) := by
  apply List.map_congr_left
  intro i hi
  rw [if_pos (by simpa using hi)]
theorem shP_set {vs : List Value} {m j : Nat} (h : j < m) : (shP vs m j).set j (shV vs j) = shP vs m (j + 1) := by
  apply List.ext_getElem?
  intro i
  rw [List.getElem?_set]
  simp only [shP, List.getElem?_map, List.length_map, List.length_range]
  by_cases hi : j = i
  · subst hi
    rw [if_pos rfl, if_pos h, List.getElem?_range h]
    simp
  · rw [if_neg hi]
    by_cases hm : i < m
    · rw [List.getElem?_range hm]
      simp only [Option.map_some]
      by_cases h2 : i < j
      · rw [if_pos h2, if_pos (by omega)]
      · rw [if_neg h2, if_neg (by omega)]
    · rw [List.getElem?_eq_none (by simp; omega)]; rfl
/-- a stripe's shards in memory, each half in a block of its own -/
def ShAt (w : World) (B S : Nat) (k r n : Nat) (xs : List F) (gs : List (Nat × Nat)) : Prop :=
  B ≤ S ∧ gs.length = 2 * (k + r) ∧ w.heap[S]? = some (.cells (triC ((List.range (k + r)).map (shV (rowsP (cntN (2 * k) n) gs)))) 38 (0, 0)) ∧ RowsP w B gs (imgL k (carN (groupN k r)) (cntN (2 * k) n) (strD (cntN (2 * k) n) xs))
theorem shAt_below {w w' : World} {B S k r n : Nat} {xs : List F} {gs : List (Nat × Nat)} (h : ShAt w B S k r n xs gs) (hb : Below w.heap.size w w') : ShAt w' B S k r n xs gs := ⟨h.1, h.2.1, heap_later h.2.2.1 hb, rowsP_below h.2.2.2 hb⟩
theorem has8_grownT {w w' : World} {S g cap : Nat} {cs : Array Value} {fr : Nat × Nat} {xs : List F} (hg : w.grownBy w' (some S)) (h : Has8 w g xs cap) (hS : w.heap[S]? = some (.cells cs 38 fr)) : Has8 w' g xs cap := by
  obtain ⟨cur, h1, h2⟩ := h
  exact ⟨cur, grown_keep hg h1 (fun e => kind_ne h1 hS (by decide) (Option.some.inj e)), h2⟩
theorem tri_store {w : World} {S j : Nat} {T : List Tri} {a b c : Value} (h : w.heap[S]? = some (.cells (triC T) 38 (0, 0))) :
    (((w.setCell ⟨S, j * 3, none⟩ a).setCell ⟨S, j * 3 + 1, none⟩ b).setCell ⟨S, j * 3 + 2, none⟩ c).heap[S]? = some (.cells (triC (T.set j (a, b, c))) 38 (0, 0)) := by
  rw [heap_setCell_same _ _ _ _ _ _ (heap_setCell_same _ _ _ _ _ _ (heap_setCell_same _ _ _ _ _ _ h)), triC_set]
theorem tri_store_other {w : World} {S g j : Nat} {a b c : Value} {o : Obj} (hne : g ≠ S) (h : w.heap[g]? = some o) :
    (((w.setCell ⟨S, j * 3, none⟩ a).setCell ⟨S, j * 3 + 1, none⟩ b).setCell ⟨S, j * 3 + 2, none⟩ c).heap[g]? = some o :=
  (heap_setCell_other _ _ _ _ hne).trans ((heap_setCell_other _ _ _ _ hne).trans ((heap_setCell_other _ _ _ _ hne).trans h))
set_option maxHeartbeats 4000000 in
theorem shards_ok (k r n ca : Nat) (a : Option Addr) (xs : List F) (w : World) (E : Nat → Addr) (hE : ErrsF w E) (h1 : 1 ≤ k) (h2 : 2 ≤ r) (h3 : k + r ≤ 16) (h4 : 1 ≤ n) (h5 : n ≤ 128 * k) (hn : n = xs.length) (hx : Row8 w a xs) :
    Calls Tryd.prog 12 #[.int .i64 k, .int .i64 r, .slice a n ca] w fun e w' => ∃ (S m : Nat) (gs : List (Nat × Nat)), e = .returned (.tuple #[.slice (some ⟨S, 0, none⟩) m m, .nilIface]) ∧ m = k + r ∧
      ShAt w' w.heap.size S k r n xs gs ∧ Below w.heap.size w w' := by
  have HENC : Hid _ := encode_ok k r n ca a xs w E hE h1 h2 h3 h4 h5 hn hx
  obtain ⟨H, hH⟩ : ∃ H, H = cntN (2 * k) n := ⟨_, rfl⟩
  have HH : Hid (H = cntN (2 * k) n) := hH
  obtain ⟨m, hm⟩ : ∃ m, m = k + r := ⟨_, rfl⟩
  have HM : Hid (m = k + r) := hm
  have hm16 : m ≤ 16 := by omega
  have hmk := run_makeT m (by omega)
  clear hE hx hn hH hm
  go_enter Tryd.func12, Tryd.ntmps12
  go_wp2_with fail
  refine Calls.mono HENC.out ?_
  rintro e w1 ⟨M, c, gs, rfl, hc, hEnc, hb1⟩
  have HEN : Hid (EncAt w1 w.heap.size M k r n xs gs) := hEnc
  have HB1 : Hid (Below w.heap.size w w1) := hb1
  have hc2 : c = 2 * m := by rw [hc, HM.out]
  have hq : (c : Int).tdiv 2 = (m : Int) := by rw [Int.tdiv_eq_ediv_of_nonneg (by omega)]; omega
  have hq2 : (c : Int) / 2 = (m : Int) := by omega
  have HC : Hid (c = 2 * m) := hc2
  have HGL : Hid (gs.length = 2 * m) := by show _ = _; rw [hEnc.2.1, HM.out]
  clear hc hEnc hb1 hc2 HENC
  rw [shP_zero (rowsP H gs)] at hmk
  go_wp2
  have hA5 := holds_new (holds_cons (holds_nil w1) HEN.out.2.2.1) (triC (shP (rowsP H gs) m 0)) 38
  have HB5 : Hid (Below w.heap.size w (w1.alloc (.cells (triC (shP (rowsP H gs) m 0)) 38))) := HB1.out.alloc HB1.out.size _
  have HR5 : Hid (RowsP (w1.alloc (.cells (triC (shP (rowsP H gs) m 0)) 38)) w.heap.size gs (imgL k (carN (groupN k r)) H (strD H xs))) := by
    have := HEN.out.2.2.2
    rw [← HH.out] at this
    exact rowsP_below this ((Below.refl _ _).alloc (Nat.le_refl _) _)
  rw [← HH.out] at hA5
  have hSM := HB1.out.size
  have HA5 : Hid _ := hA5
  clear hA5 hmk HB1 HEN
  generalize (w1.alloc (.cells (triC (shP (rowsP H gs) m 0)) 38)) = W5 at *
  generalize hS : w1.heap.size = S at *
  clear hS
  have hSM2 : M ≠ S := kind_ne (holds_at HA5.out 1 rfl) (holds_at HA5.out 0 rfl) (by decide)
  go_loopw [28] (fun i wr => ∃ j : Nat, j ≤ m ∧ i = .int .i64 j ∧ Below w.heap.size w wr ∧ W5.grownBy wr (some S) ∧
    Holds wr [(S, .cells (triC (shP (rowsP H gs) m j)) 38 (0, 0)), (M, .cells (slW (rowsP H gs) (2 * (k + r))) 22 (0, 0))]) (fun i _ => m - (intOf i).toNat)
  case atStart => exact ⟨0, by omega, rfl, HB5.out, World.grownBy.refl _ _, HA5.out⟩
  case round =>
    obtain ⟨j, hj, rfl, hb, hg, hh⟩ := hrel
    have HB : Hid (Below w.heap.size w wr) := hb
    have HG : Hid (W5.grownBy wr (some S)) := hg
    have HH2 : Hid _ := hh
    clear hb hg hh
    by_cases hlt : j < m
    · obtain ⟨p0, hp0⟩ : ∃ p0, p0 = 2 * j := ⟨_, rfl⟩
      obtain ⟨p1, hp1⟩ : ∃ p1, p1 = 2 * j + 1 := ⟨_, rfl⟩
      have t1 : (2 : Int) * (j : Int) = (p0 : Int) := by omega
      have t2 : (p0 : Int) + 1 = (p1 : Int) := by omega
      have hp9 : (p1 : Int) ≤ 100 := by omega
      have hg0 : gs[p0]? = some gs[p0]! := by rw [getElem!_pos gs p0 (by rw [HGL.out]; omega)]; exact List.getElem?_eq_getElem (by rw [HGL.out]; omega)
      have hg1 : gs[p1]? = some gs[p1]! := by rw [getElem!_pos gs p1 (by rw [HGL.out]; omega)]; exact List.getElem?_eq_getElem (by rw [HGL.out]; omega)
      generalize gs[p0]! = q0 at hg0
      generalize gs[p1]! = q1 at hg1
      obtain ⟨g0, cap0⟩ := q0
      obtain ⟨g1, cap1⟩ := q1
      have d0 := cellAt (holds_at HH2.out 1 rfl) p0 _ (slW_at (rowsP_at hg0))
      have d1 := cellAt (holds_at HH2.out 1 rfl) p1 _ (slW_at (rowsP_at hg1))
      have l0 : p0 < c := by have := HC.out; omega
      have l1 : p1 < c := by have := HC.out; omega
      have hz : (shP (rowsP H gs) m j)[j]? = some zeroT := by simp [shP, hlt]
      have e0 := cellAt (holds_at HH2.out 0 rfl) (j * 3) _ (triC_at (q := 0) hz (by decide))
      have e1 := cellAt (holds_at HH2.out 0 rfl) (j * 3 + 1) _ (triC_at (q := 1) hz (by decide))
      have e2 := cellAt (holds_at HH2.out 0 rfl) (j * 3 + 2) _ (triC_at (q := 2) hz (by decide))
      have f0 : wr.frozen? ⟨S, j * 3, none⟩ = false := frozen_of_row _ _ _ _ _ (holds_at HH2.out 0 rfl)
      have f1 : wr.frozen? ⟨S, j * 3 + 1, none⟩ = false := frozen_of_row _ _ _ _ _ (holds_at HH2.out 0 rfl)
      have f2 : wr.frozen? ⟨S, j * 3 + 2, none⟩ = false := frozen_of_row _ _ _ _ _ (holds_at HH2.out 0 rfl)
      have HSH : Hid (shV (rowsP H gs) j = (.int .i64 (j : Int), .slice (some ⟨g0, 0, none⟩) H cap0, .slice (some ⟨g1, 0, none⟩) H cap1)) := by
        show _ = _
        unfold shV
        rw [← hp1, ← hp0, List.getD_eq_getElem?_getD, List.getD_eq_getElem?_getD, rowsP_at hg0, rowsP_at hg1]; rfl
      clear hp0 hp1 hg0 hg1 hz
      simp only [tri3, zeroT] at e0 e1 e2
      go_wp2
      go_region
      go_wp2
      refine ⟨⟨j + 1, by omega, by go_num, ?_, ?_, ?_⟩, by simp [intOf]; omega⟩
      · exact (((HB.out.setCell (by show w.heap.size ≤ S; omega) _).setCell (by show w.heap.size ≤ S; omega) _).setCell (by show w.heap.size ≤ S; omega) _).drew
      · exact grownBy_drew (grownBy_setCell (grownBy_setCell (grownBy_setCell HG.out _) _) _)
      · have k0 := tri_store (j := j) (a := .int .i64 (j : Int)) (b := .slice (some ⟨g0, 0, none⟩) H cap0) (c := .slice (some ⟨g1, 0, none⟩) H cap1) (holds_at HH2.out 0 rfl)
        have k1 := tri_store_other (j := j) (a := .int .i64 (j : Int)) (b := .slice (some ⟨g0, 0, none⟩) H cap0) (c := .slice (some ⟨g1, 0, none⟩) H cap1) hSM2 (holds_at HH2.out 1 rfl)
        rw [← HSH.out, shP_set hlt] at k0
        exact holds_cons (holds_cons (holds_nil _) k1) k0
    · obtain rfl : j = m := by omega
      go_wp2
      go_ret2
      refine ⟨S, j, gs, rfl, HM.out, ⟨hSM, by rw [HGL.out, HM.out], ?_, ?_⟩, HB.out⟩
      · have := holds_at HH2.out 0 rfl
        rw [shP_full] at this
        rw [← HM.out, ← HH.out]; exact this
      · rw [← HH.out]
        exact ⟨fun i p hp => ⟨(HR5.out.1 i p hp).1, has8_grownT HG.out (HR5.out.1 i p hp).2 (holds_at HA5.out 0 rfl)⟩, HR5.out.2⟩
theorem shards_bad (k r : Int) (n ca : Nat) (a : Option Addr) (w : World) (E : Nat → Addr) (hE : ErrsF w E) (hk0 : -9223372036854775808 ≤ k) (hk1 : k ≤ 9223372036854775807) (hr0 : -9223372036854775808 ≤ r) (hr1 : r ≤ 9223372036854775807) (hla : n ≤ 140737488355328) (h : encE k r n ≠ 0) :
    Calls Tryd.prog 12 #[.int .i64 k, .int .i64 r, .slice a n ca] w fun e w' => e = .returned (.tuple #[.slice none 0 0, evV E (encE k r n)]) ∧ Below w.heap.size w w' := by
  have HS : Hid _ := encode_bad k r n ca a w E hE hk0 hk1 hr0 hr1 hla h
  obtain ⟨s, hs⟩ : ∃ s, evV E (encE k r n) = errAt s := ⟨E (encE k r n - 1), by unfold evV; rw [if_neg h]⟩
  rw [hs] at HS ⊢
  clear hs h hE
  unfold errAt at HS ⊢
  go_enter Tryd.func12, Tryd.ntmps12
  go_wp2_with fail
  refine Calls.mono HS.out ?_
  rintro e w1 ⟨rfl, hb⟩
  have HB : Hid _ := hb
  clear hb
  go_wp2_with fail
  go_ret2
  exact ⟨rfl, HB.out⟩
end Go.Proofs.YtmlpijlcpeoeaaaDoor

/- What Num of package tesseranum answers of an error of package api, and of none: its number; nothing that was there turns. -/
namespace Go.Proofs.YtmlpijlcpeoeaaaDoor
open Go.RowKit Go.ChangeShapes
set_option linter.unusedVariables false
set_option maxRecDepth 20000
/-- the errors' variables, in the document's order -/
def gsNum : List Nat := [0, 2, 3, 4, 1, 5, 6, 7, 8, 9, 10, 11, 12, 13, 14, 15, 16, 17, 18, 19, 20, 21, 22, 23, 24]
theorem num_nil (w : World) : Calls Tryd.prog 14 #[.nilIface] w fun e w' => e = .returned (.int .i64 0) ∧ w = w' := by
  go_enter Tryd.func14, Tryd.ntmps14
  go_wp2
  go_ret
  exact ⟨rfl, rfl⟩
set_option maxHeartbeats 2000000 in
theorem num_fn (k : Nat) (a : Nat → Addr) (w : World) (hk : k < 25) (H : ∀ j, j < 25 → w.cell? ⟨gsNum.getD j 0, 0, none⟩ = some (errAt (a j))) (hne : ∀ j, j < 25 → j ≠ k → a k ≠ a j)
    (hh : ∀ j, j < 25 → ∃ c t, w.heap[(a j).block]? = some (.cells c t (0, 0))) :
    Calls Tryd.prog 14 #[.iface 140 (.pointer (some (a k)))] w fun e w' => e = .returned (.int .i64 ((k : Int) + 1)) ∧ Below w.heap.size w w' := by
  have c0 : w.cell? ⟨0, 0, none⟩ = some (.iface 140 (.pointer (some (a 0)))) := H 0 (by decide)
  have c1 : w.cell? ⟨2, 0, none⟩ = some (.iface 140 (.pointer (some (a 1)))) := H 1 (by decide)
  have c2 : w.cell? ⟨3, 0, none⟩ = some (.iface 140 (.pointer (some (a 2)))) := H 2 (by decide)
  have c3 : w.cell? ⟨4, 0, none⟩ = some (.iface 140 (.pointer (some (a 3)))) := H 3 (by decide)
  have c4 : w.cell? ⟨1, 0, none⟩ = some (.iface 140 (.pointer (some (a 4)))) := H 4 (by decide)
  have c5 : w.cell? ⟨5, 0, none⟩ = some (.iface 140 (.pointer (some (a 5)))) := H 5 (by decide)
  have c6 : w.cell? ⟨6, 0, none⟩ = some (.iface 140 (.pointer (some (a 6)))) := H 6 (by decide)
  have c7 : w.cell? ⟨7, 0, none⟩ = some (.iface 140 (.pointer (some (a 7)))) := H 7 (by decide)
  have c8 : w.cell? ⟨8, 0, none⟩ = some (.iface 140 (.pointer (some (a 8)))) := H 8 (by decide)
  have c9 : w.cell? ⟨9, 0, none⟩ = some (.iface 140 (.pointer (some (a 9)))) := H 9 (by decide)
  have c10 : w.cell? ⟨10, 0, none⟩ = some (.iface 140 (.pointer (some (a 10)))) := H 10 (by decide)
  have c11 : w.cell? ⟨11, 0, none⟩ = some (.iface 140 (.pointer (some (a 11)))) := H 11 (by decide)
  have c12 : w.cell? ⟨12, 0, none⟩ = some (.iface 140 (.pointer (some (a 12)))) := H 12 (by decide)
  have c13 : w.cell? ⟨13, 0, none⟩ = some (.iface 140 (.pointer (some (a 13)))) := H 13 (by decide)
  have c14 : w.cell? ⟨14, 0, none⟩ = some (.iface 140 (.pointer (some (a 14)))) := H 14 (by decide)
  have c15 : w.cell? ⟨15, 0, none⟩ = some (.iface 140 (.pointer (some (a 15)))) := H 15 (by decide)
  have c16 : w.cell? ⟨16, 0, none⟩ = some (.iface 140 (.pointer (some (a 16)))) := H 16 (by decide)
  have c17 : w.cell? ⟨17, 0, none⟩ = some (.iface 140 (.pointer (some (a 17)))) := H 17 (by decide)
  have c18 : w.cell? ⟨18, 0, none⟩ = some (.iface 140 (.pointer (some (a 18)))) := H 18 (by decide)
  have c19 : w.cell? ⟨19, 0, none⟩ = some (.iface 140 (.pointer (some (a 19)))) := H 19 (by decide)
  have c20 : w.cell? ⟨20, 0, none⟩ = some (.iface 140 (.pointer (some (a 20)))) := H 20 (by decide)
  have c21 : w.cell? ⟨21, 0, none⟩ = some (.iface 140 (.pointer (some (a 21)))) := H 21 (by decide)
  have c22 : w.cell? ⟨22, 0, none⟩ = some (.iface 140 (.pointer (some (a 22)))) := H 22 (by decide)
  have c23 : w.cell? ⟨23, 0, none⟩ = some (.iface 140 (.pointer (some (a 23)))) := H 23 (by decide)
  have c24 : w.cell? ⟨24, 0, none⟩ = some (.iface 140 (.pointer (some (a 24)))) := H 24 (by decide)
  clear H
  go_enter Tryd.func14, Tryd.ntmps14
  go_wp2
  clear c0 c1 c2 c3 c4 c5 c6 c7 c8 c9 c10 c11 c12 c13 c14 c15 c16 c17 c18 c19 c20 c21 c22 c23 c24
  have B0 : (w.alloc (.cells #[.iface 140 (.pointer (some (a 0))), .iface 140 (.pointer (some (a 1))), .iface 140 (.pointer (some (a 2))), .iface 140 (.pointer (some (a 3))), .iface 140 (.pointer (some (a 4))), .iface 140 (.pointer (some (a 5))), .iface 140 (.pointer (some (a 6))), .iface 140 (.pointer (some (a 7))), .iface 140 (.pointer (some (a 8))), .iface 140 (.pointer (some (a 9))), .iface 140 (.pointer (some (a 10))), .iface 140 (.pointer (some (a 11))), .iface 140 (.pointer (some (a 12))), .iface 140 (.pointer (some (a 13))), .iface 140 (.pointer (some (a 14))), .iface 140 (.pointer (some (a 15))), .iface 140 (.pointer (some (a 16))), .iface 140 (.pointer (some (a 17))), .iface 140 (.pointer (some (a 18))), .iface 140 (.pointer (some (a 19))), .iface 140 (.pointer (some (a 20))), .iface 140 (.pointer (some (a 21))), .iface 140 (.pointer (some (a 22))), .iface 140 (.pointer (some (a 23))), .iface 140 (.pointer (some (a 24)))] 27)).heap[w.heap.size]? = some (.cells ((List.range 25).map fun j => errAt (a j)).toArray 27 (0, 0)) := heap_alloc_last w _
  have HH : ∀ j, j < 25 → ∃ c t, (w.alloc (.cells #[.iface 140 (.pointer (some (a 0))), .iface 140 (.pointer (some (a 1))), .iface 140 (.pointer (some (a 2))), .iface 140 (.pointer (some (a 3))), .iface 140 (.pointer (some (a 4))), .iface 140 (.pointer (some (a 5))), .iface 140 (.pointer (some (a 6))), .iface 140 (.pointer (some (a 7))), .iface 140 (.pointer (some (a 8))), .iface 140 (.pointer (some (a 9))), .iface 140 (.pointer (some (a 10))), .iface 140 (.pointer (some (a 11))), .iface 140 (.pointer (some (a 12))), .iface 140 (.pointer (some (a 13))), .iface 140 (.pointer (some (a 14))), .iface 140 (.pointer (some (a 15))), .iface 140 (.pointer (some (a 16))), .iface 140 (.pointer (some (a 17))), .iface 140 (.pointer (some (a 18))), .iface 140 (.pointer (some (a 19))), .iface 140 (.pointer (some (a 20))), .iface 140 (.pointer (some (a 21))), .iface 140 (.pointer (some (a 22))), .iface 140 (.pointer (some (a 23))), .iface 140 (.pointer (some (a 24)))] 27)).heap[(a j).block]? = some (.cells c t (0, 0)) := fun j hj => by
    obtain ⟨c, t, h⟩ := hh j hj
    exact ⟨c, t, (Below.heap_alloc _ _ _ (ltHeap h)).trans h⟩
  have HB : Hid (Below w.heap.size w (w.alloc (.cells #[.iface 140 (.pointer (some (a 0))), .iface 140 (.pointer (some (a 1))), .iface 140 (.pointer (some (a 2))), .iface 140 (.pointer (some (a 3))), .iface 140 (.pointer (some (a 4))), .iface 140 (.pointer (some (a 5))), .iface 140 (.pointer (some (a 6))), .iface 140 (.pointer (some (a 7))), .iface 140 (.pointer (some (a 8))), .iface 140 (.pointer (some (a 9))), .iface 140 (.pointer (some (a 10))), .iface 140 (.pointer (some (a 11))), .iface 140 (.pointer (some (a 12))), .iface 140 (.pointer (some (a 13))), .iface 140 (.pointer (some (a 14))), .iface 140 (.pointer (some (a 15))), .iface 140 (.pointer (some (a 16))), .iface 140 (.pointer (some (a 17))), .iface 140 (.pointer (some (a 18))), .iface 140 (.pointer (some (a 19))), .iface 140 (.pointer (some (a 20))), .iface 140 (.pointer (some (a 21))), .iface 140 (.pointer (some (a 22))), .iface 140 (.pointer (some (a 23))), .iface 140 (.pointer (some (a 24)))] 27))) := (Below.refl _ _).alloc (Nat.le_refl _) _
  generalize (w.alloc (.cells #[.iface 140 (.pointer (some (a 0))), .iface 140 (.pointer (some (a 1))), .iface 140 (.pointer (some (a 2))), .iface 140 (.pointer (some (a 3))), .iface 140 (.pointer (some (a 4))), .iface 140 (.pointer (some (a 5))), .iface 140 (.pointer (some (a 6))), .iface 140 (.pointer (some (a 7))), .iface 140 (.pointer (some (a 8))), .iface 140 (.pointer (some (a 9))), .iface 140 (.pointer (some (a 10))), .iface 140 (.pointer (some (a 11))), .iface 140 (.pointer (some (a 12))), .iface 140 (.pointer (some (a 13))), .iface 140 (.pointer (some (a 14))), .iface 140 (.pointer (some (a 15))), .iface 140 (.pointer (some (a 16))), .iface 140 (.pointer (some (a 17))), .iface 140 (.pointer (some (a 18))), .iface 140 (.pointer (some (a 19))), .iface 140 (.pointer (some (a 20))), .iface 140 (.pointer (some (a 21))), .iface 140 (.pointer (some (a 22))), .iface 140 (.pointer (some (a 23))), .iface 140 (.pointer (some (a 24)))] 27)) = W1 at *
  clear hh
  go_loopw [36] (fun i wr => ∃ j : Nat, j ≤ k ∧ i = .int .i64 j ∧ wr = W1) (fun i _ => 25 - (intOf i).toNat)
  case atStart => exact ⟨0, by omega, rfl, rfl⟩
  case round =>
    obtain ⟨j, hj, rfl, rfl⟩ := hrel
    have hj25 : j < 25 := by omega
    have c0 : wr.cell? ⟨w.heap.size, j, none⟩ = some (.iface 140 (.pointer (some (a j)))) := cellAt B0 j _ (by
      simp only [List.getElem?_toArray, List.getElem?_map, List.getElem?_range hj25, Option.map_some, errAt])
    by_cases e : j = k
    · subst e
      have q := eq_same wr (a j)
      clear HH hne B0
      go_wp2
      go_ret
      exact ⟨rfl, HB.out⟩
    · obtain ⟨_, _, h1⟩ := HH k hk
      obtain ⟨_, _, h2⟩ := HH j hj25
      have q := eq_other (hne j hj25 e) h1 h2
      have hjk : j + 1 ≤ k := by omega
      clear HH hne B0 h1 h2
      go_wp2
      exact ⟨⟨j + 1, by omega, by go_num, trivial⟩, by simp [intOf]; omega⟩
theorem num_err {w : World} {es : List Addr} {k : Nat} {s : Addr} (h : ErrsAt w gsNum es) (hs : es[k]? = some s) :
    Calls Tryd.prog 14 #[errAt s] w fun e w' => e = .returned (.int .i64 ((k : Int) + 1)) ∧ Below w.heap.size w w' := by
  have hl : es.length = 25 := h.1.symm
  obtain ⟨hk, rfl⟩ := List.getElem?_eq_some_iff.1 hs
  have hget : ∀ j, (hj : j < 25) → es[j]? = some (es.getD j ⟨0, 0, none⟩) := fun j hj => by
    rw [List.getElem?_eq_getElem (by omega), List.getD_eq_getElem?_getD, List.getElem?_eq_getElem (by omega)]; rfl
  have hg : ∀ j, j < 25 → gsNum[j]? = some (gsNum.getD j 0) := fun j hj => by
    rw [List.getElem?_eq_getElem (by show j < 25; exact hj), List.getD_eq_getElem?_getD, List.getElem?_eq_getElem (by show j < 25; exact hj)]; rfl
  have hk25 : k < 25 := by omega
  have e0 : es[k] = es.getD k ⟨0, 0, none⟩ := by
    have := hget k hk25
    rw [List.getElem?_eq_getElem hk] at this
    exact Option.some.inj this
  have := num_fn k (fun j => es.getD j ⟨0, 0, none⟩) w hk25 (fun j hj => (h.2.2 j _ _ (hg j hj) (hget j hj)).1) (fun j hj hjk e => ?_) (fun j hj => (h.2.2 j _ _ (hg j hj) (hget j hj)).2)
  · rw [e0]; exact this
  · have e1 := hget k hk25
    have e2 := hget j hj
    rw [List.getElem?_eq_getElem (by omega)] at e1 e2
    have e3 : es[k] = es[j] := by rw [Option.some.inj e1, Option.some.inj e2]; exact e
    have hp := List.pairwise_iff_getElem.1 h.2.1
    rcases Nat.lt_or_gt_of_ne hjk with q | q
    · exact hp j k _ _ q e3.symm
    · exact hp k j _ _ q e3
end Go.Proofs.YtmlpijlcpeoeaaaDoor

/- The walk of ShardsSizes: at all numbers. -/
namespace Go.Proofs.YtmlpijlcpeoeaaaDoor
open Go.RowKit Gf
set_option linter.unusedVariables false
set_option maxRecDepth 20000
/-- the errors' addresses, by number -/
def ofL (es : List Addr) : Nat → Addr := fun j => es.getD j ⟨0, 0, none⟩
theorem errsE_num {w : World} {es : List Addr} (h : ErrsAt w gsNum es) : ErrsE w (ofL es) := by
  have hl : es.length = 25 := h.1.symm
  have hget : ∀ j, (hj : j < 25) → es[j]? = some (ofL es j) := fun j hj => by
    unfold ofL
    rw [List.getElem?_eq_getElem (by omega), List.getD_eq_getElem?_getD, List.getElem?_eq_getElem (by omega)]; rfl
  exact ⟨(h.2.2 0 _ _ rfl (hget 0 (by decide))).1, (h.2.2 11 _ _ rfl (hget 11 (by decide))).1, (h.2.2 19 _ _ rfl (hget 19 (by decide))).1⟩
theorem num_V {w : World} {es : List Addr} (n : Nat) (h : ErrsAt w gsNum es) (hn : n ≤ 25) :
    Calls Tryd.prog 14 #[evV (ofL es) n] w fun e w' => e = .returned (.int .i64 n) ∧ Below w.heap.size w w' := by
  cases n with
  | zero => exact (num_nil w).mono fun e w' ⟨he, hw⟩ => ⟨he, hw ▸ Below.refl _ _⟩
  | succ n =>
    have hl : es.length = 25 := h.1.symm
    rw [evV_succ]
    have := num_err (k := n) (s := ofL es n) h (by
      unfold ofL
      rw [List.getElem?_eq_getElem (by omega), List.getD_eq_getElem?_getD, List.getElem?_eq_getElem (by omega)]; rfl)
    simpa using this
theorem halfE_le (k n : Int) : halfE k n ≤ 25 := by unfold halfE; split <;> (try split) <;> (try split) <;> omega
theorem stripesE_le (k n : Int) : stripesE k n ≤ 25 := by unfold stripesE; split <;> (try split) <;> (try split) <;> omega
theorem stripesL_len (k n : Int) : (stripesL k n).length ≤ 32 := by
  by_cases h : stripesE k n = 0
  · obtain ⟨a, m, rfl, rfl, h1, h2, h3⟩ := stripes_ok h
    rw [stripesL_ok h1 h2 h3, strL_len]
    exact cnt_stripes h1 h3
  · rw [stripesL_no h]; simp
end Go.Proofs.YtmlpijlcpeoeaaaDoor

/- What the walks of stage 7 share: the errors by number, blocks that stay, shards in memory. -/
namespace Go.Proofs.YtmlpijlcpeoeaaaDoor
open Go.RowKit Gf
set_option linter.unusedVariables false
set_option maxRecDepth 20000
theorem errsF_num {w : World} {es : List Addr} (h : ErrsAt w gsNum es) : ErrsF w (ofL es) := by
  refine ⟨errsE_num h, (h.2.2 1 _ _ rfl ?_).1⟩
  have hl : es.length = 25 := h.1.symm
  unfold ofL
  rw [List.getElem?_eq_getElem (by omega), List.getD_eq_getElem?_getD, List.getElem?_eq_getElem (by omega)]; rfl
theorem rencode_V (k r : Int) (a : Option Addr) (la ca : Nat) (w : World) (hk0 : -9223372036854775808 ≤ k) (hk1 : k ≤ 9223372036854775807) (hr0 : -9223372036854775808 ≤ r) (hr1 : r ≤ 9223372036854775807) (h : encE k r la ≠ 0) :
    Calls Tryd.prog 13 #[.int .i64 k, .int .i64 r, .slice a la ca] w fun e w' => e = .returned (.tuple #[.slice none 0 0, .int .i64 (encE k r la)]) ∧ w = w' := by
  unfold encE at h ⊢
  split at h
  · rename_i hL
    obtain ⟨p, q, rfl, rfl, h1, h2, h3⟩ := legal_nat hL
    rw [if_pos hL]
    exact rencode_bad p q a la ca w h1 h2 h3 h
  · rename_i hL
    rw [if_neg hL]
    exact rencode_illegal k r a la ca w hk0 hk1 hr0 hr1 hL
/-- all but some blocks stay -/
def KeptX (w w' : World) (X : Nat → Prop) : Prop := ∀ (b : Nat) (o : Obj), ¬ X b → w.heap[b]? = some o → w'.heap[b]? = some o
theorem keptX_refl (w : World) (X : Nat → Prop) : KeptX w w X := fun _ _ _ h => h
theorem keptX_grown {w0 w w' : World} {X Y : Nat → Prop} {g : Nat} (h : KeptX w0 w X) (hg : w.grownBy w' (some g)) (hY : ∀ b, ¬ Y b → ¬ X b ∧ b ≠ g) : KeptX w0 w' Y := fun b o hb ho => grown_keep hg (h b o (hY b hb).1 ho) (fun e => (hY b hb).2 (Option.some.inj e))
theorem keptX_below {w0 w w' : World} {X Y : Nat → Prop} (h : KeptX w0 w X) (hb : Below w.heap.size w w') (hY : ∀ b, ¬ Y b → ¬ X b) : KeptX w0 w' Y := fun b o hn ho => heap_later (h b o (hY b hn) ho) hb
theorem has8_X {w w' : World} {X : Nat → Prop} {g cap : Nat} {xs : List F} (h : Has8 w g xs cap) (hk : KeptX w w' X) (hn : ¬ X g) : Has8 w' g xs cap := by
  obtain ⟨cur, h1, h2⟩ := h
  exact ⟨cur, hk _ _ hn h1, h2⟩
/-- the first j blocks of a list -/
def firstB (gs : List (Nat × Nat)) (j : Nat) (b : Nat) : Prop := ∃ (q : Nat) (p : Nat × Nat), q < j ∧ gs[q]? = some p ∧ p.1 = b
theorem firstB_not {gs : List (Nat × Nat)} {j i : Nat} {p : Nat × Nat} (hord : ∀ (i j : Nat) (p q : Nat × Nat), i < j → gs[i]? = some p → gs[j]? = some q → p.1 < q.1) (h : gs[i]? = some p) (hij : j ≤ i) : ¬ firstB gs j p.1 := fun ⟨q, x, hq, hx, e⟩ => by
  have := hord q i x p (by omega) hx h
  omega
theorem firstB_step {gs : List (Nat × Nat)} {j : Nat} {p : Nat × Nat} (h : gs[j]? = some p) (b : Nat) (hb : ¬ firstB gs (j + 1) b) : ¬ firstB gs j b ∧ b ≠ p.1 :=
  ⟨fun ⟨q, x, hq, hx, e⟩ => hb ⟨q, x, by omega, hx, e⟩, fun e => hb ⟨j, p, by omega, h, e.symm⟩⟩
theorem strEq8 (xs : List F) : ((str8 xs).toList == (str8 xs).toList) = true := by simp
theorem sh_cells {w : World} {S H j m : Nat} {gs : List (Nat × Nat)} {g0 c0 g1 c1 : Nat} (hT : w.heap[S]? = some (.cells (triC ((List.range m).map (shV (rowsP H gs)))) 38 (0, 0))) (hj : j < m) (e0 : gs[2 * j]? = some (g0, c0)) (e1 : gs[2 * j + 1]? = some (g1, c1)) :
    w.cell? ⟨S, j * 3, none⟩ = some (.int .i64 (j : Int)) ∧ w.cell? ⟨S, j * 3 + 1, none⟩ = some (.slice (some ⟨g0, 0, none⟩) H c0) ∧ w.cell? ⟨S, j * 3 + 2, none⟩ = some (.slice (some ⟨g1, 0, none⟩) H c1) := by
  have ht : ((List.range m).map (shV (rowsP H gs)))[j]? = some (.int .i64 (j : Int), .slice (some ⟨g0, 0, none⟩) H c0, .slice (some ⟨g1, 0, none⟩) H c1) := by
    rw [List.getElem?_map, List.getElem?_range hj, Option.map_some, shV, List.getD_eq_getElem?_getD, List.getD_eq_getElem?_getD, rowsP_at e0, rowsP_at e1]; rfl
  exact ⟨cellAt hT (j * 3) _ (triC_at (q := 0) ht (by decide)), cellAt hT (j * 3 + 1) _ (triC_at (q := 1) ht (by decide)), cellAt hT (j * 3 + 2) _ (triC_at (q := 2) ht (by decide))⟩
theorem shAt_cell {w : World} {B S k r n H j : Nat} {xs : List F} {gs : List (Nat × Nat)} (h : ShAt w B S k r n xs gs) (hH : H = cntN (2 * k) n) (hj : j < k + r) : ∃ g0 c0 g1 c1, gs[2 * j]? = some (g0, c0) ∧ gs[2 * j + 1]? = some (g1, c1) ∧
    w.cell? ⟨S, j * 3, none⟩ = some (.int .i64 (j : Int)) ∧ w.cell? ⟨S, j * 3 + 1, none⟩ = some (.slice (some ⟨g0, 0, none⟩) H c0) ∧ w.cell? ⟨S, j * 3 + 2, none⟩ = some (.slice (some ⟨g1, 0, none⟩) H c1) ∧
    Has8 w g0 (imgL k (carN (groupN k r)) H (strD H xs) (2 * j)) c0 ∧ Has8 w g1 (imgL k (carN (groupN k r)) H (strD H xs) (2 * j + 1)) c1 := by
  obtain ⟨_, hl, hT, hR, _⟩ := h
  rw [← hH] at hT hR
  have e0 : gs[2 * j]? = some gs[2 * j] := List.getElem?_eq_getElem (by omega)
  have e1 : gs[2 * j + 1]? = some gs[2 * j + 1] := List.getElem?_eq_getElem (by omega)
  generalize gs[2 * j] = q0 at e0
  generalize gs[2 * j + 1] = q1 at e1
  obtain ⟨g0, c0⟩ := q0
  obtain ⟨g1, c1⟩ := q1
  have ht : ((List.range (k + r)).map (shV (rowsP H gs)))[j]? = some (.int .i64 (j : Int), .slice (some ⟨g0, 0, none⟩) H c0, .slice (some ⟨g1, 0, none⟩) H c1) := by
    rw [List.getElem?_map, List.getElem?_range hj, Option.map_some, shV, List.getD_eq_getElem?_getD, List.getD_eq_getElem?_getD, rowsP_at e0, rowsP_at e1]; rfl
  exact ⟨g0, c0, g1, c1, e0, e1, cellAt hT (j * 3) _ (triC_at (q := 0) ht (by decide)), cellAt hT (j * 3 + 1) _ (triC_at (q := 1) ht (by decide)), cellAt hT (j * 3 + 2) _ (triC_at (q := 2) ht (by decide)), (hR _ _ e0).2, (hR _ _ e1).2⟩
end Go.Proofs.YtmlpijlcpeoeaaaDoor

/- Plain algebra of stage 7: where the rows of 2k halves have full rank, each unit is a combination of them, and each table of lists is the image of one and only one list of data halves. -/
namespace Go.Proofs.YtmlpijlcpeoeaaaDoor
open Go.RowKit Gf
set_option linter.unusedVariables false
set_option maxRecDepth 20000
theorem full_units {A : Mt} {n : Nat} (h : (pivL A n n).length = n) : ∀ v, v < n → Dep (tr A) n n (unitF v) := fun v hv => by
  obtain ⟨R, h1, h2, _⟩ := red_ex A n n
  obtain ⟨e, he⟩ := h2 v hv
  refine ⟨e, fun i hi => ?_⟩
  have hu := h1.full_unit h v hv i hi
  show (if v = i then (1 : F) else 0) = _
  rw [← hu, he i hi]
  exact sumF_congr fun l _ => F.mul_comm _ _
theorem full_solve {A : Mt} {n : Nat} (h : (pivL A n n).length = n) (R : Nat → F) : ∃ D : Nat → F, ∀ i, i < n → R i = sumF (fun u => gm (A i u) (D u)) n := by
  have ht : (pivL (tr A) n n).length = n := by rw [rk_tr, h]
  have hz : ∀ v : Nat, ∃ x : Nat → F, v < n → ∀ i, i < n → unitF v i = sumF (fun l => gm (A i l) (x l)) n := fun v => by
    by_cases hv : v < n
    · obtain ⟨x, hx⟩ := full_units ht v hv
      exact ⟨x, fun _ i hi => hx i hi⟩
    · exact ⟨fun _ => 0, fun h => absurd h hv⟩
  obtain ⟨Z, hZ⟩ := Classical.axiomOfChoice hz
  refine ⟨fun u => sumF (fun v => gm (Z v u) (R v)) n, fun i hi => ?_⟩
  rw [sumF_congr (g := fun u => sumF (fun v => gm (A i u) (gm (Z v u) (R v))) n) (fun u _ => sumF_mul_left _ _ _)]
  rw [sumF_swap (fun u v => gm (A i u) (gm (Z v u) (R v))) n n]
  rw [sumF_congr (g := fun v => gm (unitF v i) (R v)) (fun v hv => by
    rw [hZ v hv i hi, sumF_mul_right]
    exact sumF_congr fun u _ => (F.mul_assoc _ _ _).symm)]
  rw [sumF_pick _ i n hi fun v _ hne => by simp [unitF, hne]]
  simp [unitF]
/-- the data halves of a table of lists -/
theorem full_table {A : Mt} {n : Nat} (h : (pivL A n n).length = n) (R : Nat → Nat → F) : ∃ D : Nat → Nat → F, ∀ i, i < n → ∀ b, R i b = sumF (fun u => gm (A i u) (D u b)) n := by
  obtain ⟨Y, hY⟩ := Classical.axiomOfChoice fun b : Nat => full_solve h fun i => R i b
  exact ⟨fun u b => Y b u, fun i hi b => hY b i hi⟩
theorem full_one {A : Mt} {n : Nat} (h : (pivL A n n).length = n) {R D E : Nat → F} (hD : ∀ i, i < n → R i = sumF (fun u => gm (A i u) (D u)) n) (hE : ∀ i, i < n → R i = sumF (fun u => gm (A i u) (E u)) n) : ∀ v, v < n → D v = E v := fun v hv => by
  obtain ⟨x, hx⟩ := full_units h v hv
  have h1 : ∀ u, u < n → unitF v u = sumF (fun l => gm (A l u) (x l)) n := fun u hu => hx u hu
  have e1 := var_sol (A := A) (x := x) (R := R) (D := D) hv h1 hD
  have e2 := var_sol (A := A) (x := x) (R := R) (D := E) hv h1 hE
  exact e1.symm.trans e2
/-- the rows of both halves of k shards have full rank -/
theorem num_rank {S : List Nat} {k n : Nat} {car : Nat → Nat} (hS : S.Nodup) (hl : S.length = k) (hn : ∀ x ∈ S, x < n) (hb : n ≤ 256) : (pivL (numM k car (bothH S)) (2 * k) (2 * k)).length = 2 * k :=
  half_rank hS hl hn hb
end Go.Proofs.YtmlpijlcpeoeaaaDoor

/- Two numbers, two lists behind a list of one's own; shards in memory: a number and two halves each. -/
namespace Go.Proofs.YtmlpijlcpeoeaaaDoor
open Go.RowKit Gf
set_option linter.unusedVariables false
set_option maxRecDepth 20000
theorem news_two {w : World} {b : Nat} {x y : Value} (hx : w.cell? ⟨b, 0, none⟩ = some x) (hy : w.cell? ⟨b, 1, none⟩ = some y) : ∀ j u, [x, y][j]? = some u → w.cell? ((⟨b, 0, none⟩ : Addr).add j) = some u := by
  intro j u h
  match j, h with
  | 0, h => obtain rfl := Option.some.inj h; simpa [Addr.add] using hx
  | 1, h => obtain rfl := Option.some.inj h; simpa [Addr.add] using hy
theorem appendS2 {w : World} {B n b c : Nat} {v x y : Value} {xs : List Value} (ty : TypeId) (ho : w.ownsRow B 22 1 v n xs) (hx : w.cell? ⟨b, 0, none⟩ = some x) (hy : w.cell? ⟨b, 1, none⟩ = some y) (h1 : x.oneCell' = true) (h2 : y.oneCell' = true) (hn : n ≤ 4096) (hB : B ≤ w.heap.size) :
    ∃ g cap w', (Builtin.append_ #[25, 25] ty #[v, .slice (some ⟨b, 0, none⟩) 2 c]).run Tryd.prog w = .ok (.slice (some ⟨g, 0, none⟩) (n + 2) cap) w' ∧
      w'.ownsRow B 22 1 (.slice (some ⟨g, 0, none⟩) (n + 2) cap) (n + 2) (xs ++ [x, y]) ∧ w.grownBy w' v.ownBlock ∧ (v.ownBlock = some g ∨ g = w.heap.size) ∧ g < w'.heap.size := by
  obtain ⟨i, hi, h2', h3, h4⟩ := infoS
  exact run_append_lies (P := Tryd.prog) w 25 ty B 22 i _ 1 24 Tryd.underlying25 hi h4 h2' h3 rfl (by decide) v n xs ho ⟨b, 0, none⟩ 2 c [x, y] rfl (news_two hx hy) (by simp [h1, h2]) (by decide) (by simp only [maxLen]; omega) (by omega) hB _ rfl
theorem appendI2 {w : World} {B n b c : Nat} {v : Value} {x y : Int} {xs : List Value} (ty : TypeId) (ho : w.ownsRow B 3 1 v n xs) (hx : w.cell? ⟨b, 0, none⟩ = some (.int .i64 x)) (hy : w.cell? ⟨b, 1, none⟩ = some (.int .i64 y)) (hn : n ≤ 1000000) (hB : B ≤ w.heap.size) :
    ∃ g cap w', (Builtin.append_ #[54, 54] ty #[v, .slice (some ⟨b, 0, none⟩) 2 c]).run Tryd.prog w = .ok (.slice (some ⟨g, 0, none⟩) (n + 2) cap) w' ∧
      w'.ownsRow B 3 1 (.slice (some ⟨g, 0, none⟩) (n + 2) cap) (n + 2) (xs ++ [.int .i64 x, .int .i64 y]) ∧ w.grownBy w' v.ownBlock ∧ (v.ownBlock = some g ∨ g = w.heap.size) ∧ g < w'.heap.size := by
  obtain ⟨i, hi, h2, h3, h4⟩ := infoI
  exact run_append_lies (P := Tryd.prog) w 54 ty B 3 i _ 1 8 Tryd.underlying54 hi h4 h2 h3 rfl (by decide) v n xs ho ⟨b, 0, none⟩ 2 c [.int .i64 x, .int .i64 y] rfl (news_two hx hy) (by simp [Value.oneCell']) (by decide) (by simp only [maxLen]; omega) (by omega) hB _ rfl
/-- shards in memory: the number and the two halves of each -/
def Sh8 (w : World) (a : Option Addr) (S : List (Int × List F × List F)) : Prop :=
  S = [] ∨ ∃ b off, a = some ⟨b, off, none⟩ ∧ ∀ j n xs ys, S[j]? = some (n, xs, ys) → ∃ a1 c1 a2 c2, w.cell? ⟨b, off + j * 3, none⟩ = some (.int .i64 n) ∧
    w.cell? ⟨b, off + j * 3 + 1, none⟩ = some (.slice a1 xs.length c1) ∧ w.cell? ⟨b, off + j * 3 + 2, none⟩ = some (.slice a2 ys.length c2) ∧ Row8 w a1 xs ∧ Row8 w a2 ys
theorem sh8_below {w w' : World} {a : Option Addr} {S : List (Int × List F × List F)} (h : Sh8 w a S) (hb : Below w.heap.size w w') : Sh8 w' a S := by
  rcases h with rfl | ⟨b, off, rfl, h⟩
  · exact .inl rfl
  · refine .inr ⟨b, off, rfl, fun j n xs ys hj => ?_⟩
    obtain ⟨a1, c1, a2, c2, h1, h2, h3, h4, h5⟩ := h j n xs ys hj
    exact ⟨a1, c1, a2, c2, cell_later hb h1, cell_later hb h2, cell_later hb h3, row8_below h4 hb, row8_below h5 hb⟩
end Go.Proofs.YtmlpijlcpeoeaaaDoor

/- What the document's own Join answers, of all lists of halves; nothing that was there turns. -/
namespace Go.Proofs.YtmlpijlcpeoeaaaDoor
open Go.RowKit Gf
set_option linter.unusedVariables false
set_option maxRecDepth 20000
theorem wantedA_run {P : Program} {w : World} {o : Oper} {a : Act} {K : Act → World → Prop} {Q : Exit → Act → World → Prop} {ys : Nat → Option Bool} {L : Prop} (hgd : o.guard = none) (s x : Operand) (t : TypeId)
    (ho : o.op = .call { callee := .builtin .append, args := #[s, x], argTypes := #[t, t] }) (v u r : Value) (w' : World) (hs : a.eval s = v) (hx : a.eval x = u)
    (hr : (Builtin.append_ #[t, t] o.type #[v, u]).run P w = .ok r w') (h : K (a.put o.dst r) w') : if Region.wanted o ys = true then Oper.wp P o a w K Q else L := by
  rw [if_pos (by simp [Region.wanted, hgd])]
  unfold Oper.wp execOp
  simp only [ho, resolve, invoke, builtin, Sem.run_bind, Sem.run_pure, Result.andThen_ok, List.map_toArray, List.map_cons, List.map_nil, hs, hx, hr]
  exact h
theorem take_snoc8 {xs : List F} {i : Nat} (h : i < xs.length) : xs.take i ++ [at8 xs i] = xs.take (i + 1) := by
  rw [List.take_succ_eq_append_getElem h]
  simp [at8, h]
theorem rjoin_bad (k size : Int) (a : Option Addr) (l ca : Nat) (w : World) (h : halfE k size ≠ 0) :
    Calls Tryd.prog 39 #[.int .i64 k, .int .i64 size, .slice a l ca] w fun e w' => e = .returned (.tuple #[.slice none 0 0, .int .i64 (halfE k size)]) ∧ w = w' := by
  have HF : Hid _ := fun w => rhalf_F k size w
  rw [halfV_no h] at HF
  have h' : ¬ ((halfE k size : Nat) : Int) = 0 := by omega
  generalize halfE k size = x at *
  clear h
  go_enter Tryd.func39, Tryd.ntmps39
  go_wp2_with fail
  refine Calls.mono (HF.out _) ?_
  rintro e w1 ⟨rfl, rfl⟩
  go_wp2_with fail
  go_ret2
  exact ⟨rfl, rfl⟩
set_option maxHeartbeats 8000000 in
theorem rjoin_F (k n l cap : Nat) (a : Option Addr) (L : List (List F)) (w : World) (h1 : 1 ≤ k) (h2 : k ≤ 14) (h3 : 1 ≤ n) (h4 : n ≤ 128 * k)
    (hl : l = L.length) (hl9 : l ≤ 140737488355328) (hL : Rows8 w a L) :
    Calls Tryd.prog 39 #[.int .i64 k, .int .i64 n, .slice a l cap] w fun e w' =>
      (¬ FitP (2 * k) (cntN (2 * k) n) L ∧ e = .returned (.tuple #[.slice none 0 0, .int .i64 5]) ∧ Below w.heap.size w w') ∨
      (FitP (2 * k) (cntN (2 * k) n) L ∧ ∃ g cap, e = .returned (.tuple #[.slice (some ⟨g, 0, none⟩) n cap, .int .i64 0]) ∧ n ≤ L.flatten.length ∧ Has8 w' g (L.flatten.take n) cap ∧ w.heap.size ≤ g ∧ Below w.heap.size w w') := by
  have HF : Hid _ := fun w => rhalf_F k n w
  rw [halfV_ok h1 h2 h3 h4, halfE_ok h1 h2 h3 h4] at HF
  obtain ⟨k1, k2, k3, k4⟩ := cnt_half h1 h2 h3 h4
  obtain ⟨c, hc⟩ : ∃ c, c = 2 * k := ⟨_, rfl⟩
  rw [← hc] at HF k1 k2 k3 k4 ⊢
  generalize cntN c n = H at *
  have HKC : Hid ((2 : Int) * k = c) := by show _ = _; omega
  have hc28 : c ≤ 28 := by omega
  have HK3 : Hid _ := k3
  have HL : Hid _ := hl
  have HR : Hid _ := hL
  have hn9 : n ≤ 1792 := by omega
  clear k3 k4 h4 hc hl hL
  go_enter Tryd.func39, Tryd.ntmps39
  go_wp2_with fail
  refine Calls.mono (HF.out _) ?_
  rintro e w1 ⟨rfl, rfl⟩
  have hkc := HKC.out
  go_upto_region 5 with fail
  have hbl : ((l : Int) != (c : Int)) = false ↔ l = c := by simp only [bne_eq_false_iff_eq]; omega
  generalize ((l : Int) != (c : Int)) = b0 at *
  have HB0 : Hid _ := hbl
  clear hbl hkc
  go_wp2
  go_loopw [10, 31] (fun s t wr => ∃ j : Nat, ∃ bb : Bool, j ≤ l ∧ t = .int .i64 j ∧ s = .bool bb ∧ wr = w ∧ Hid (bb = false ↔ l = c ∧ ∀ i xs, i < j → L[i]? = some xs → xs.length = H)) (fun _ t _ => l - (intOf t).toNat)
  case atStart => exact ⟨0, b0, by omega, rfl, rfl, rfl, (⟨fun h => ⟨HB0.out.1 h, fun i xs h => absurd h (by omega)⟩, fun h => HB0.out.2 h.1⟩ : b0 = false ↔ _)⟩
  case round =>
    obtain ⟨j, bb, hj, rfl, rfl, rfl, HI⟩ := hrel
    by_cases hlt : j < l
    · obtain ⟨b, off, rfl, hb, hcl⟩ := rows8_at HR.out (show j < L.length by rw [← HL.out]; exact hlt)
      obtain ⟨xs, hxs⟩ : ∃ xs, L[j]? = some xs := ⟨_, List.getElem?_eq_getElem (by rw [← HL.out]; exact hlt)⟩
      obtain ⟨a', cap', c1, _⟩ := hcl j xs hxs
      have HX : Hid _ := hxs
      clear hcl hxs
      cases bb with
      | true =>
        have HN : Hid ((true : Bool) = false ↔ l = c ∧ ∀ i xs, i < j + 1 → L[i]? = some xs → xs.length = H) := by
          refine ⟨fun h => (by cases h), fun h => HI.out.2 ⟨h.1, fun i ys hi hy => h.2 i ys (by omega) hy⟩⟩
        go_wp2
        exact ⟨⟨j + 1, true, by omega, by go_num, rfl, trivial, HN.out⟩, by simp [intOf]; omega⟩
      | false =>
        obtain ⟨bx, hbx⟩ : ∃ bx : Bool, ((xs.length : Int) != (H : Int)) = bx := ⟨_, rfl⟩
        have hbx2 : bx = false ↔ xs.length = H := by rw [← hbx]; simp only [bne_eq_false_iff_eq]; omega
        have HN : Hid (bx = false ↔ l = c ∧ ∀ i xs, i < j + 1 → L[i]? = some xs → xs.length = H) := by
          have h0 := HI.out.1 rfl
          refine ⟨fun h => ⟨h0.1, fun i ys hi hy => ?_⟩, fun h => hbx2.2 (h.2 j xs (by omega) HX.out)⟩
          by_cases e : i = j
          · subst e
            obtain rfl := Option.some.inj (HX.out.symm.trans hy)
            exact hbx2.1 h
          · exact h0.2 i ys (by omega) hy
        clear hbx2
        go_wp2
        exact ⟨⟨j + 1, bx, by omega, by go_num, rfl, trivial, HN.out⟩, by simp [intOf]; omega⟩
    · obtain rfl : j = l := by omega
      cases bb with
      | true =>
        have HNO : Hid (¬ FitP c H L) := fun hf => by
          have := HI.out.2 ⟨by rw [HL.out]; exact hf.1, fun i ys _ hy => hf.2 ys (List.mem_of_getElem? hy)⟩
          cases this
        go_wp2
        go_ret2
        exact .inl ⟨HNO.out, rfl, Below.refl _ _⟩
      | false =>
        have HOK : Hid (FitP c H L) := ⟨by rw [← HL.out]; exact (HI.out.1 rfl).1, fun ys hy => by
          obtain ⟨i, hi, e⟩ := List.getElem_of_mem hy
          exact (HI.out.1 rfl).2 i ys (by rw [HL.out]; exact hi) (by rw [List.getElem?_eq_getElem hi, e])⟩
        have HFL : Hid (L.flatten.length = c * H) := by show _ = _; rw [flat_len HOK.out.2, HOK.out.1]
        have HLC : Hid (j = c) := by show _ = _; rw [HL.out]; exact HOK.out.1
        go_wp2
        have hh0 : Has8 (wr.alloc (.cells #[] 5)) wr.heap.size (L.flatten.take 0) 0 := ⟨#[], heap_alloc_last wr _, rfl, by simp, by simp [maxLen], rfl⟩
        generalize hw9 : wr = w9 at *
        go_loopw [13, 14] (fun s t wr => ∃ i g cp : Nat, i ≤ n ∧ t = .int .i64 i ∧ s = .slice (some ⟨g, 0, none⟩) i cp ∧ w9.heap.size ≤ g ∧ Below w9.heap.size w9 wr ∧ Has8 wr g (L.flatten.take i) cp) (fun _ t _ => n - (intOf t).toNat)
        case atStart => exact ⟨0, w9.heap.size, 0, by omega, rfl, rfl, Nat.le_refl _, (Below.refl _ _).alloc (Nat.le_refl _) _, hh0⟩
        case round =>
          obtain ⟨i, g, cp, hi, rfl, rfl, hg, hbw, hh⟩ := hrel
          have HBW : Hid _ := hbw
          have HH : Hid _ := hh
          clear hh0
          by_cases hlti : i < n
          · obtain ⟨q, hq⟩ : ∃ q, q = i / H := ⟨_, rfl⟩
            obtain ⟨r, hr⟩ : ∃ r, r = i % H := ⟨_, rfl⟩
            have hir : i = q * H + r := by rw [hq, hr, Nat.mul_comm]; exact (Nat.div_add_mod i H).symm
            have hrH : r < H := by rw [hr]; exact Nat.mod_lt _ (by omega)
            have hiF : i < L.flatten.length := by rw [HFL.out]; have := HK3.out; omega
            have hqc : q < c := by
              apply Decidable.byContradiction
              intro h
              have := Nat.mul_le_mul_right H (show c ≤ q by omega)
              have h6 := HFL.out
              omega
            obtain ⟨b, off, rfl, hb, hcl⟩ := rows8_at HR.out (show q < L.length by rw [HOK.out.1]; exact hqc)
            obtain ⟨xs, hxs⟩ : ∃ xs, L[q]? = some xs := ⟨_, List.getElem?_eq_getElem (by rw [HOK.out.1]; exact hqc)⟩
            obtain ⟨a', cap', c1, c2⟩ := hcl q xs hxs
            have hxl : xs.length = H := HOK.out.2 xs (List.mem_of_getElem? hxs)
            obtain ⟨b', off', rfl, hb', hc2⟩ := row8_cell c2 (show r < xs.length by rw [hxl]; exact hrH)
            have e1 : at8 L.flatten i = at8 xs r := by
              rw [hir, flat_at HOK.out.2 (by rw [HOK.out.1]; exact hqc) hrH, List.getD_eq_getElem?_getD, hxs]; rfl
            have C1 : ∀ u, Below w9.heap.size w9 u → u.cell? ⟨b, off + q, none⟩ = some (.slice (some ⟨b', off', none⟩) H cap') := fun u hu => by rw [← hxl]; exact cell_later hu c1
            have C2 : ∀ u, Below w9.heap.size w9 u → u.cell? ⟨b', off' + r, none⟩ = some (.int .u8 ((at8 L.flatten i).toNat : Int)) := fun u hu => by rw [e1]; exact cell_later hu (hc2 r (by rw [hxl]; exact hrH))
            have dq : (i : Int) / (H : Int) = (q : Int) := by rw [hq]; simp
            have dr : (i : Int) % (H : Int) = (r : Int) := by rw [hr]; simp
            have hql : (q : Int) < j := by have := HLC.out; omega
            have hrl : (r : Int) < H := by omega
            have hq0 : (0 : Int) ≤ q := by omega
            have hr0 : (0 : Int) ≤ r := by omega
            have hH0 : ¬ H = 0 := by omega
            have tq : IntKind.i64.wrap (q : Int) = (q : Int) := by rw [IntKind.wrap_i64]; omega
            have dr2 : (i : Int).tmod (H : Int) = (r : Int) := by rw [hr]; exact (Int.ofNat_tmod i H).symm
            have hB0 : Below w9.heap.size w9 wr.drew := hbw.drew
            have hh2 : Has8 (wr.drew.alloc (.cells #[.int .u8 ((at8 L.flatten i).toNat : Int)] 5)) g (L.flatten.take i) cp := has8_below hh (((Below.refl wr.heap.size wr).drew).alloc (Nat.le_refl _) _)
            obtain ⟨g2, cp2, w2, hrun, hh3, hgr, hor⟩ := append8 (ad := ⟨wr.drew.heap.size, 0, none⟩) (m := 1) (c := 1) (ys := [at8 L.flatten i]) 22 hh2 (by rw [List.length_take, Nat.min_eq_left (by omega)]) rfl (by omega) (fun z hz => by
              obtain rfl : z = 0 := by simpa using hz
              exact cellAt (heap_alloc_last wr.drew (.cells #[.int .u8 ((at8 L.flatten i).toNat : Int)] 5)) 0 _ rfl)
            rw [take_snoc8 hiF] at hh3
            have hB1 : Below w9.heap.size w9 (wr.drew.alloc (.cells #[.int .u8 ((at8 L.flatten i).toNat : Int)] 5)) := hB0.alloc hB0.size _
            have hB2 : Below w9.heap.size w9 w2 := grownBy_below hB1 hgr hg hB1.size
            have hg2 : w9.heap.size ≤ g2 := by
              have := hB1.size
              rcases hor with e | e <;> rw [e] <;> omega
            have HRun : Hid _ := hrun
            have HH3 : Hid _ := hh3
            have HB2 : Hid _ := hB2
            clear hq hr hir hcl hxs c1 c2 hxl hc2 e1 hbw hh hh2 hrun hh3 hgr hor hB2
            go_upto_region 16 with fail
            refine wp_region_noPanic ?_
            refine wp_region_held_drew (S := fun u => Below w9.heap.size w9 u) (by kernel_rfl) ?_ (fun hHeld => ?_)
            · exact hB0
            refine wpAnyH_take (i := 0) (oi := { dst := some 50, op := Op.move (Operand.tmp 13), type := 22, pos := "ref.go:74", after := #[], guard := none }) (v := ?_) rfl (by kernel_rfl) (by kernel_rfl) (by kernel_rfl) (fun _ _ _ h => h) (Or.inl ⟨by rfl, ?_⟩) hHeld ?_
            rotate_left
            · intro u hSw
              go_simp
              try with_reducible rfl
            try simp only [Act.put, List.setIfInBounds_toArray, List.set_cons_zero, List.set_cons_succ]
            refine wpAnyH_take (i := 1) (oi := { dst := some 51, op := Op.move (Operand.tmp 2), type := 25, pos := "ref.go:74", after := #[], guard := none }) (v := ?_) rfl (by kernel_rfl) (by kernel_rfl) (by kernel_rfl) (fun _ _ _ h => h) (Or.inl ⟨by rfl, ?_⟩) hHeld ?_
            rotate_left
            · intro u hSw
              go_simp
              try with_reducible rfl
            try simp only [Act.put, List.setIfInBounds_toArray, List.set_cons_zero, List.set_cons_succ]
            refine wpAnyH_take (i := 2) (oi := { dst := some 52, op := Op.move (Operand.tmp 14), type := 3, pos := "ref.go:74", after := #[], guard := none }) (v := ?_) rfl (by kernel_rfl) (by kernel_rfl) (by kernel_rfl) (fun _ _ _ h => h) (Or.inl ⟨by rfl, ?_⟩) hHeld ?_
            rotate_left
            · intro u hSw
              go_simp
              try with_reducible rfl
            try simp only [Act.put, List.setIfInBounds_toArray, List.set_cons_zero, List.set_cons_succ]
            refine wpAnyH_take (i := 3) (oi := { dst := some 53, op := Op.move (Operand.tmp 8), type := 3, pos := "ref.go:74", after := #[], guard := none }) (v := ?_) rfl (by kernel_rfl) (by kernel_rfl) (by kernel_rfl) (fun _ _ _ h => h) (Or.inl ⟨by rfl, ?_⟩) hHeld ?_
            rotate_left
            · intro u hSw
              go_simp
              try with_reducible rfl
            try simp only [Act.put, List.setIfInBounds_toArray, List.set_cons_zero, List.set_cons_succ]
            refine wpAnyH_take (i := 4) (oi := { dst := some 54, op := Op.binOp BinOp.quo 3 (Operand.tmp 52) (Operand.tmp 53) 3, type := 3, pos := "ref.go:74", after := #[{ on := 2, ground := Ground.data }, { on := 3, ground := Ground.data }], guard := none }) (v := ?_) rfl (by kernel_rfl) (by kernel_rfl) (by kernel_rfl) (fun _ _ _ h => h) (Or.inl ⟨by rfl, ?_⟩) hHeld ?_
            rotate_left
            · intro u hSw
              go_simp
              try with_reducible rfl
            try simp only [Act.put, List.setIfInBounds_toArray, List.set_cons_zero, List.set_cons_succ]
            refine wpAnyH_take (i := 5) (oi := { dst := some 55, op := Op.indexAddr 25 (Operand.tmp 51) (Operand.tmp 54), type := 0, pos := "ref.go:74", after := #[{ on := 1, ground := Ground.data }, { on := 4, ground := Ground.data }], guard := none }) (v := ?_) rfl (by kernel_rfl) (by kernel_rfl) (by kernel_rfl) (fun _ _ _ h => h) (Or.inl ⟨by rfl, ?_⟩) hHeld ?_
            rotate_left
            · intro u hSw
              go_simp
              try with_reducible rfl
            try simp only [Act.put, List.setIfInBounds_toArray, List.set_cons_zero, List.set_cons_succ]
            refine wpAnyH_take (i := 6) (oi := { dst := some 56, op := Op.load 22 (Operand.tmp 55), type := 22, pos := "ref.go:74", after := #[{ on := 5, ground := Ground.data }], guard := none }) (v := ?_) rfl (by kernel_rfl) (by kernel_rfl) (by kernel_rfl) (fun _ _ _ h => h) (Or.inl ⟨by rfl, ?_⟩) hHeld ?_
            rotate_left
            · intro u hSw
              have q0 := C1 u hSw
              go_simp
              try with_reducible rfl
            try simp only [Act.put, List.setIfInBounds_toArray, List.set_cons_zero, List.set_cons_succ]
            refine wpAnyH_take (i := 7) (oi := { dst := some 57, op := Op.move (Operand.tmp 14), type := 3, pos := "ref.go:74", after := #[], guard := none }) (v := ?_) rfl (by kernel_rfl) (by kernel_rfl) (by kernel_rfl) (fun _ _ _ h => h) (Or.inl ⟨by rfl, ?_⟩) hHeld ?_
            rotate_left
            · intro u hSw
              go_simp
              try with_reducible rfl
            try simp only [Act.put, List.setIfInBounds_toArray, List.set_cons_zero, List.set_cons_succ]
            refine wpAnyH_take (i := 8) (oi := { dst := some 58, op := Op.move (Operand.tmp 8), type := 3, pos := "ref.go:74", after := #[], guard := none }) (v := ?_) rfl (by kernel_rfl) (by kernel_rfl) (by kernel_rfl) (fun _ _ _ h => h) (Or.inl ⟨by rfl, ?_⟩) hHeld ?_
            rotate_left
            · intro u hSw
              go_simp
              try with_reducible rfl
            try simp only [Act.put, List.setIfInBounds_toArray, List.set_cons_zero, List.set_cons_succ]
            refine wpAnyH_take (i := 9) (oi := { dst := some 59, op := Op.binOp BinOp.rem 3 (Operand.tmp 57) (Operand.tmp 58) 3, type := 3, pos := "ref.go:74", after := #[{ on := 7, ground := Ground.data }, { on := 8, ground := Ground.data }], guard := none }) (v := ?_) rfl (by kernel_rfl) (by kernel_rfl) (by kernel_rfl) (fun _ _ _ h => h) (Or.inl ⟨by rfl, ?_⟩) hHeld ?_
            rotate_left
            · intro u hSw
              go_simp
              try with_reducible rfl
            try simp only [Act.put, List.setIfInBounds_toArray, List.set_cons_zero, List.set_cons_succ]
            refine wpAnyH_take (i := 10) (oi := { dst := some 60, op := Op.indexAddr 22 (Operand.tmp 56) (Operand.tmp 59), type := 0, pos := "ref.go:74", after := #[{ on := 6, ground := Ground.data }, { on := 9, ground := Ground.data }], guard := none }) (v := ?_) rfl (by kernel_rfl) (by kernel_rfl) (by kernel_rfl) (fun _ _ _ h => h) (Or.inl ⟨by rfl, ?_⟩) hHeld ?_
            rotate_left
            · intro u hSw
              go_simp
              try with_reducible rfl
            try simp only [Act.put, List.setIfInBounds_toArray, List.set_cons_zero, List.set_cons_succ]
            refine wpAnyH_take (i := 11) (oi := { dst := some 61, op := Op.load 5 (Operand.tmp 60), type := 5, pos := "ref.go:74", after := #[{ on := 10, ground := Ground.data }], guard := none }) (v := ?_) rfl (by kernel_rfl) (by kernel_rfl) (by kernel_rfl) (fun _ _ _ h => h) (Or.inl ⟨by rfl, ?_⟩) hHeld ?_
            rotate_left
            · intro u hSw
              have q0 := C2 u hSw
              go_simp
              try with_reducible rfl
            try simp only [Act.put, List.setIfInBounds_toArray, List.set_cons_zero, List.set_cons_succ]
            refine wpAnyH_ready (rs := [12]) (by kernel_rfl) (by simp) ?_
            refine AllReadyH.cons (o := { dst := some 62, op := Op.buildSlice 22 1 #[(0, Operand.tmp 61)], type := 22, pos := "ref.go:74", after := #[{ on := 11, ground := Ground.data }], guard := none }) rfl (fun K hK => ?_) AllReadyH.nil
            go_simp
            go_wp2_with fail
            refine hK.out _ _ ?_ (fun hHeld => ?_)
            · exact hB1
            clear hK K
            try simp only [Act.put, List.setIfInBounds_toArray, List.set_cons_zero, List.set_cons_succ]
            refine wpAnyH_ready (rs := [13]) (by kernel_rfl) (by simp) ?_
            refine AllReadyH.cons (o := { dst := some 63, op := Op.call { callee := Callee.builtin Builtin.append, args := #[Operand.tmp 50, Operand.tmp 62], argTypes := #[22, 22] }, type := 22, pos := "ref.go:74", after := #[{ on := 0, ground := Ground.data }, { on := 12, ground := Ground.data }], guard := none }) rfl (fun K hK => ?_) AllReadyH.nil
            refine wantedA_run rfl _ _ 22 rfl _ _ _ _ rfl rfl HRun.out ?_
            refine hK.out _ _ ?_ (fun hHeld => ?_)
            · exact HB2.out
            clear hK K
            try simp only [Act.put, List.setIfInBounds_toArray, List.set_cons_zero, List.set_cons_succ]
            refine wpAnyH_take (i := 14) (oi := { dst := some 13, op := Op.assign (Operand.tmp 63), type := 22, pos := "ref.go:74", after := #[{ on := 13, ground := Ground.data }, { on := 13, ground := Ground.chain }, { on := 0, ground := Ground.phase }, { on := 1, ground := Ground.phase }, { on := 2, ground := Ground.phase }, { on := 3, ground := Ground.phase }, { on := 4, ground := Ground.phase }, { on := 5, ground := Ground.phase }, { on := 6, ground := Ground.phase }, { on := 7, ground := Ground.phase }, { on := 8, ground := Ground.phase }, { on := 9, ground := Ground.phase }, { on := 10, ground := Ground.phase }, { on := 11, ground := Ground.phase }, { on := 12, ground := Ground.phase }, { on := 13, ground := Ground.phase }], guard := none }) (v := ?_) rfl (by kernel_rfl) (by kernel_rfl) (by kernel_rfl) (fun _ _ _ h => h) (Or.inl ⟨by rfl, ?_⟩) hHeld ?_
            rotate_left
            · intro u hSw
              go_simp
              try with_reducible rfl
            try simp only [Act.put, List.setIfInBounds_toArray, List.set_cons_zero, List.set_cons_succ]
            refine wpAnyH_done (by kernel_rfl) ?_ _
            refine NoPanic.normal ?_
            clear C1 C2 dq dr dr2 tq hql hrl hq0 hr0 hH0 hB0 hB1
            go_wp2
            exact ⟨⟨i + 1, g2, cp2, by omega, by go_num, rfl, hg2, HB2.out, HH3.out⟩, by simp [intOf]; omega⟩
          · obtain rfl : i = n := by omega
            clear hbw hh
            go_wp2
            go_ret2
            exact .inr ⟨HOK.out, g, cp, rfl, by rw [HFL.out]; exact HK3.out, HH.out, by rw [hw9]; exact hg, by rw [hw9]; exact HBW.out⟩
end Go.Proofs.YtmlpijlcpeoeaaaDoor

/- What the document's own Decode answers, of shards whose numbers are in range and apart. -/
namespace Go.Proofs.YtmlpijlcpeoeaaaDoor
open Go.RowKit Gf
set_option linter.unusedVariables false
set_option maxRecDepth 20000
/-- the halves of shards, in their order -/
def rowsS (S : List (Int × List F × List F)) : List (List F) := S.flatMap fun s => [s.2.1, s.2.2]
theorem rowsS_len : ∀ S, (rowsS S).length = 2 * S.length
  | [] => rfl
  | s :: S => by
    have := rowsS_len S
    simp only [rowsS, List.flatMap_cons, List.length_append, List.length_cons, List.length_nil] at this ⊢
    omega
theorem rowsS_snoc {S : List (Int × List F × List F)} {j : Nat} {s : Int × List F × List F} (h : S[j]? = some s) : rowsS (S.take (j + 1)) = rowsS (S.take j) ++ [s.2.1, s.2.2] := by
  rw [List.take_add_one, h]
  simp [rowsS]
theorem bothH_next {L : List Nat} {j s : Nat} (h : L[j]? = some s) : bothH (L.take (j + 1)) = bothH (L.take j) ++ [2 * s, 2 * s + 1] := by
  rw [List.take_add_one, h]
  simp [bothH]
theorem pairs_snoc {P : List F → Value → Prop} {L : List (List F)} {vs : List Value} {xs ys : List F} {x y : Value} (hl : vs.length = L.length) (h : ∀ (i : Nat) (zs : List F), L[i]? = some zs → ∃ v, vs[i]? = some v ∧ P zs v) (hx : P xs x) (hy : P ys y) :
    ∀ (i : Nat) (zs : List F), (L ++ [xs, ys])[i]? = some zs → ∃ v, (vs ++ [x, y])[i]? = some v ∧ P zs v := fun i zs hi => by
  by_cases hlt : i < L.length
  · rw [List.getElem?_append_left hlt] at hi
    rw [List.getElem?_append_left (by omega)]
    exact h i zs hi
  · rw [List.getElem?_append_right (by omega)] at hi
    rw [List.getElem?_append_right (by omega), hl]
    generalize i - L.length = q at hi
    match q, hi with
    | 0, hi => obtain rfl := Option.some.inj hi; exact ⟨x, rfl, hx⟩
    | 1, hi => obtain rfl := Option.some.inj hi; exact ⟨y, rfl, hy⟩
theorem own_kind7 {w w' : World} {B B' s s' n n' : Nat} {v v' : Value} {e e' : TypeId} {xs xs' : List Value} (ho : w.ownsRow B e s v n xs) (h : w.grownBy w' v.ownBlock) (hq : w.ownsRow B' e' s' v' n' xs') (hne : e' ≠ e) : w'.ownsRow B' e' s' v' n' xs' :=
  ⟨hq.1, hq.2.imp id fun ⟨g, cap, cur, h1, h2, h3, h4⟩ => ⟨g, cap, cur, h1, h2, own_other ho h h3 hne, h4⟩⟩
theorem castL_two (L : List Nat) (a b : Nat) : (castL (L ++ [a, b])).map (Value.int .i64) = (castL L).map (Value.int .i64) ++ [.int .i64 (a : Int), .int .i64 (b : Int)] := by simp [castL]
set_option maxHeartbeats 16000000 in
theorem rdecode_good (k r n ln cn : Nat) (a : Option Addr) (nums : List Nat) (S : List (Int × List F × List F)) (w : World) (h1 : 1 ≤ k) (h2 : 2 ≤ r) (h3 : k + r ≤ 16) (h4 : 1 ≤ n) (h5 : n ≤ 128 * k)
    (hln : ln = k) (hl : ln = S.length) (hnl : nums.length = S.length) (hnS : ∀ j s, S[j]? = some s → s.1 = ((nums.getD j 0 : Nat) : Int)) (hin : ∀ x ∈ nums, x < k + r) (hnd : nums.Nodup) (hS : Sh8 w a S) :
    Calls Tryd.prog 20 #[.int .i64 k, .int .i64 r, .int .i64 n, .slice a ln cn] w fun e w' =>
      (¬ (∀ xs ∈ rowsS S, xs.length = cntN (2 * k) n) ∧ e = .returned (.tuple #[.slice none 0 0, .int .i64 5]) ∧ Below w.heap.size w w') ∨
      ((∀ xs ∈ rowsS S, xs.length = cntN (2 * k) n) ∧ ∃ D : Nat → Nat → F, (∀ i, i < 2 * k → ∀ b, b < cntN (2 * k) n → bytesD (rowsS S) i b = sumF (fun u => gm (numM k (carN (groupN k r)) (bothH nums) i u) (D u b)) (2 * k)) ∧
        ∃ g cap, e = .returned (.tuple #[.slice (some ⟨g, 0, none⟩) n cap, .int .i64 0]) ∧ Has8 w' g ((((List.range (2 * k)).map fun v => rowF (cntN (2 * k) n) (D v)).flatten).take n) cap ∧ w.heap.size ≤ g ∧ Below w.heap.size w w') := by
  have HF : Hid _ := fun w => rhalf_F k n w
  rw [halfV_ok h1 (by omega) h4 h5, halfE_ok h1 (by omega) h4 h5] at HF
  obtain ⟨k1, k2, k3, k4⟩ := cnt_half h1 (show k ≤ 14 by omega) h4 h5
  obtain ⟨H, hH⟩ : ∃ H, H = cntN (2 * k) n := ⟨_, rfl⟩
  rw [← hH] at HF k2 k1 ⊢
  have HH : Hid _ := hH
  have HL : Hid (ln = S.length) := hl
  have HNL : Hid (nums.length = S.length) := hnl
  have HNS : Hid (∀ j s, S[j]? = some s → s.1 = ((nums.getD j 0 : Nat) : Int)) := hnS
  have HIN : Hid (∀ x ∈ nums, x < k + r) := hin
  have HND : Hid nums.Nodup := hnd
  have HS : Hid (Sh8 w a S) := hS
  subst hln
  clear hH hl hnl hnS hin hnd hS k3 k4
  go_enter Tryd.func20, Tryd.ntmps20
  go_wp2_with fail
  refine Calls.mono (legal_yes ln r _ h1 h2 h3) ?_
  rintro e w1 ⟨rfl, rfl⟩
  go_wp2_with fail
  refine Calls.mono (HF.out _) ?_
  rintro e w1 ⟨rfl, rfl⟩
  go_wp2
  have hA := holds_new (holds_new (holds_nil w) #[] 3) #[] 22
  rw [World.size_alloc] at hA
  have B4 : Hid (Below w.heap.size w ((w.alloc (.cells #[] 3)).alloc (.cells #[] 22))) := ((Below.refl _ _).alloc (Nat.le_refl _) _).alloc (by simp) _
  have z0 : w.heap.size + 2 ≤ ((w.alloc (.cells #[] 3)).alloc (.cells #[] 22)).heap.size := by simp
  have ho1 : ((w.alloc (.cells #[] 3)).alloc (.cells #[] 22)).ownsRow w.heap.size 3 1 (.slice (some ⟨w.heap.size, 0, none⟩) 0 0) 0 [] := ⟨rfl, .inr ⟨w.heap.size, 0, #[], rfl, Nat.le_refl _, holds_at hA 1 rfl, by simp, by simp [maxLen], rfl, rfl⟩⟩
  have ho2 : ((w.alloc (.cells #[] 3)).alloc (.cells #[] 22)).ownsRow w.heap.size 22 1 (.slice (some ⟨w.heap.size + 1, 0, none⟩) 0 0) 0 [] := ⟨rfl, .inr ⟨w.heap.size + 1, 0, #[], rfl, by omega, holds_at hA 0 rfl, by simp, by simp [maxLen], rfl, rfl⟩⟩
  clear hA
  try rw [World.size_alloc]
  generalize ((w.alloc (.cells #[] 3)).alloc (.cells #[] 22)) = W at *
  go_loopw [12, 13, 42] (fun p q i wr => ∃ j : Nat, ∃ vs : List Value, j ≤ ln ∧ i = .int .i64 j ∧ Below w.heap.size w wr ∧ wr.ownsRow w.heap.size 3 1 p (2 * j) ((castL (bothH (nums.take j))).map (Value.int .i64)) ∧ wr.ownsRow w.heap.size 22 1 q (2 * j) vs ∧
    ∀ (i : Nat) (zs : List F), (rowsS (S.take j))[i]? = some zs → ∃ v, vs[i]? = some v ∧ ∃ a' c', v = .slice a' zs.length c' ∧ Row8 w a' zs) (fun _ _ i _ => ln - (intOf i).toNat)
  case atStart => exact ⟨0, [], by omega, rfl, B4.out, by simpa [bothH, castL] using ho1, by simpa using ho2, fun i zs h => by simp [rowsS] at h⟩
  case round =>
    obtain ⟨j, vs, hj, rfl, hbw, hp, hq, hvs⟩ := hrel
    have HBW : Hid (Below w.heap.size w wr) := hbw
    have HP : Hid (wr.ownsRow w.heap.size 3 1 u12 (2 * j) ((castL (bothH (nums.take j))).map (Value.int .i64))) := hp
    have HQ : Hid (wr.ownsRow w.heap.size 22 1 u13 (2 * j) vs) := hq
    have HVS : Hid (∀ (i : Nat) (zs : List F), (rowsS (S.take j))[i]? = some zs → ∃ v, vs[i]? = some v ∧ ∃ a' c', v = .slice a' zs.length c' ∧ Row8 w a' zs) := hvs
    clear hbw hp hq hvs ho1 ho2
    by_cases hlt : j < ln
    · have hjS : j < S.length := by rw [← HL.out]; exact hlt
      obtain ⟨⟨m, xs, ys⟩, hs⟩ : ∃ s, S[j]? = some s := ⟨_, List.getElem?_eq_getElem hjS⟩
      have HSJ : Hid (rowsS (S.take (j + 1)) = rowsS (S.take j) ++ [xs, ys]) := rowsS_snoc hs
      rcases HS.out with e0 | ⟨bS, oS, eS, hcS⟩
      · rw [e0] at hjS; simp at hjS
      subst eS
      obtain ⟨a1, l1, a2, l2, e1, e2, e3, r1, r2⟩ := hcS j m xs ys hs
      have c1 := cell_later HBW.out e1
      have c2 := cell_later HBW.out e2
      have c3 := cell_later HBW.out e3
      obtain ⟨x, hx⟩ : ∃ x, x = nums.getD j 0 := ⟨_, rfl⟩
      have hmx : m = (x : Int) := by rw [hx]; exact HNS.out j _ hs
      have hgx : nums[j]? = some x := by rw [hx, List.getD_eq_getElem?_getD, List.getElem?_eq_getElem (by rw [HNL.out]; exact hjS)]; rfl
      have hxr : x < ln + r := HIN.out x (List.mem_of_getElem? hgx)
      have HGX : Hid (nums[j]? = some x) := hgx
      have R1 : Hid (Row8 w a1 xs) := r1
      have R2 : Hid (Row8 w a2 ys) := r2
      subst hmx
      have hx0 : ¬ ((x : Int) < 0) := by omega
      have hx1 : ¬ ((ln : Int) + (r : Int) ≤ (x : Int)) := by omega
      clear hs hcS e1 e2 e3 r1 r2 hx hgx
      go_wp2
      have c4 : Hid ((wr.alloc (.cells #[.int .i64 x, .slice a1 xs.length l1, .slice a2 ys.length l2] 38)).heap[wr.heap.size]? = some (.cells #[.int .i64 x, .slice a1 xs.length l1, .slice a2 ys.length l2] 38 (0, 0))) := heap_alloc_last _ _
      have B7 : Hid (Below w.heap.size w (wr.alloc (.cells #[.int .i64 x, .slice a1 xs.length l1, .slice a2 ys.length l2] 38))) := HBW.out.alloc HBW.out.size _
      have P7 : Hid ((wr.alloc (.cells #[.int .i64 x, .slice a1 xs.length l1, .slice a2 ys.length l2] 38)).ownsRow w.heap.size 3 1 u12 (2 * j) ((castL (bothH (nums.take j))).map (Value.int .i64))) := World.ownsRow.alloc HP.out _
      have Q7 : Hid ((wr.alloc (.cells #[.int .i64 x, .slice a1 xs.length l1, .slice a2 ys.length l2] 38)).ownsRow w.heap.size 22 1 u13 (2 * j) vs) := World.ownsRow.alloc HQ.out _
      clear HP HQ HBW c1 c2 c3
      generalize (wr.alloc (.cells #[.int .i64 x, .slice a1 xs.length l1, .slice a2 ys.length l2] 38)) = W7 at *
      generalize wr.heap.size = N at *
      generalize wr = w9 at *
      go_loopw [16] (fun t wx => ∃ i : Nat, i ≤ j ∧ t = .int .i64 i ∧ Below W7.heap.size W7 wx) (fun t _ => j - (intOf t).toNat)
      case atStart => exact ⟨0, by omega, rfl, Below.refl _ _⟩
      case round =>
        obtain ⟨i, hi, rfl, hbx⟩ := hrel
        have HBX : Hid (Below W7.heap.size W7 wr) := hbx
        have d1 := cellAt (heap_later c4.out hbx) 0 _ rfl
        by_cases hlti : i < j
        · have hiS : i < S.length := by omega
          obtain ⟨⟨mi, xi, yi⟩, hsi⟩ : ∃ s, S[i]? = some s := ⟨_, List.getElem?_eq_getElem hiS⟩
          rcases HS.out with e0 | ⟨bS', oS', eS, hcS⟩
          · rw [e0] at hjS; simp at hjS
          cases eS
          obtain ⟨_, _, _, _, e1, _⟩ := hcS i mi xi yi hsi
          have hb8 : Below w.heap.size w wr := B7.out.trans (hbx.mono B7.out.size)
          have f1 := cell_later hb8 e1
          obtain ⟨y, hy⟩ : ∃ y, y = nums.getD i 0 := ⟨_, rfl⟩
          have hmy : mi = (y : Int) := by rw [hy]; exact HNS.out i _ hsi
          have hgy : nums[i]? = some y := by rw [hy, List.getD_eq_getElem?_getD, List.getElem?_eq_getElem (by rw [HNL.out]; exact hiS)]; rfl
          have hyx : y ≠ x := fun e => by
            have := (List.getElem?_inj (List.getElem?_eq_some_iff.1 hgy).1 HND.out).1 (show nums[i]? = nums[j]? by rw [hgy, HGX.out, e])
            omega
          subst hmy
          have hne : ((y : Int) == (x : Int)) = false := by simp only [beq_eq_false_iff_ne, ne_eq]; omega
          have kA : ∀ u, Below wr.heap.size wr u → u.cell? ⟨bS, oS + i * 3, none⟩ = some (.int .i64 (y : Int)) := fun u hu => cell_later hu f1
          have kB : ∀ u, Below wr.heap.size wr u → u.cell? ⟨N, 0, none⟩ = some (.int .i64 (x : Int)) := fun u hu => cell_later hu d1
          have hi0 : (0 : Int) ≤ (i : Int) := by omega
          have hi1 : (i : Int) < (ln : Int) := by omega
          have hi2 : i < ln := by omega
          clear hbx hsi hcS e1 hb8 hy hgy hyx f1 d1
          go_upto_region 18 with fail
          have hR2 : Below wr.heap.size wr wr.drew := (Below.refl _ _).drew
          go_region_held3 (fun w' => Below wr.heap.size wr w') (first | assumption | (refine Below.drew ?_; assumption)) (fail)
          clear kA kB hR2
          go_wp2
          exact ⟨⟨i + 1, by omega, by go_num, HBX.out.drew⟩, by simp [intOf]; omega⟩
        · obtain rfl : j = i := by omega
          have hb8 : Below w.heap.size w wr := B7.out.trans (hbx.mono B7.out.size)
          have hP8 := own_below P7.out hbx
          have hQ8 := own_below Q7.out hbx
          have hN8 := heap_later c4.out hbx
          obtain ⟨p0, hp0⟩ : ∃ p0, p0 = 2 * x := ⟨_, rfl⟩
          obtain ⟨p1, hp1⟩ : ∃ p1, p1 = 2 * x + 1 := ⟨_, rfl⟩
          have hbs : bothH (nums.take (j + 1)) = bothH (nums.take j) ++ [p0, p1] := by rw [hp0, hp1]; exact bothH_next HGX.out
          have t1 : (2 : Int) * (x : Int) = (p0 : Int) := by omega
          have t2 : (p0 : Int) + 1 = (p1 : Int) := by omega
          have hp9' : (p1 : Int) ≤ 100 := by omega
          clear hp0 hp1
          have q1 := cellAt hN8 1 _ rfl
          have q2 := cellAt hN8 2 _ rfl
          have HP8 : Hid (wr.ownsRow w.heap.size 3 1 u12 (2 * j) ((castL (bothH (nums.take j))).map (Value.int .i64))) := hP8
          have HQ8 : Hid (wr.ownsRow w.heap.size 22 1 u13 (2 * j) vs) := hQ8
          have HN8 : Hid (wr.heap[N]? = some (.cells #[.int .i64 x, .slice a1 xs.length l1, .slice a2 ys.length l2] 38 (0, 0))) := hN8
          have HB8 : Hid (Below w.heap.size w wr) := hb8
          have hp9 := World.ownsRow.alloc hP8 (.cells #[.int .i64 (p0 : Int), .int .i64 (p1 : Int)] 3)
          obtain ⟨gP, capP, wP, hrunP, hpP, hgrP, horP, hltP⟩ := appendI2 (b := wr.heap.size) (c := 2) (x := (p0 : Int)) (y := (p1 : Int)) 54 hp9 (cellAt (heap_alloc_last wr _) 0 _ rfl) (cellAt (heap_alloc_last wr _) 1 _ rfl) (by omega) (by have := hb8.size; simp; omega)
          rw [← castL_two, ← hbs] at hpP
          have hbP := below_own (B := w.heap.size) (hb8.alloc hb8.size (.cells #[.int .i64 (p0 : Int), .int .i64 (p1 : Int)] 3)) hp9 hgrP (by have := hb8.size; simp; omega)
          have hNP := own_other hp9 hgrP ((Below.heap_alloc _ _ _ (ltHeap hN8)).trans hN8) (by decide)
          have hQP := own_kind7 hp9 hgrP (World.ownsRow.alloc hQ8 (.cells #[.int .i64 (p0 : Int), .int .i64 (p1 : Int)] 3)) (by decide)
          have k1 := cellAt hNP 1 _ rfl
          have k2 := cellAt hNP 2 _ rfl
          have hq9 := World.ownsRow.alloc hQP (.cells #[.slice a1 xs.length l1, .slice a2 ys.length l2] 22)
          obtain ⟨gQ, capQ, wQ, hrunQ, hqQ, hgrQ, horQ, hltQ⟩ := appendS2 (b := wP.heap.size) (c := 2) (x := .slice a1 xs.length l1) (y := .slice a2 ys.length l2) 25 hq9 (cellAt (heap_alloc_last wP _) 0 _ rfl) (cellAt (heap_alloc_last wP _) 1 _ rfl) rfl rfl (by omega) (by have := hbP.size; simp; omega)
          have hbQ := below_own (B := w.heap.size) (hbP.alloc hbP.size (.cells #[.slice a1 xs.length l1, .slice a2 ys.length l2] 22)) hq9 hgrQ (by have := hbP.size; simp; omega)
          have hPQ := own_kind7 hq9 hgrQ (World.ownsRow.alloc hpP (.cells #[.slice a1 xs.length l1, .slice a2 ys.length l2] 22)) (by decide)
          have HRP : Hid _ := hrunP
          have HRQ : Hid _ := hrunQ
          have HBQ : Hid (Below w.heap.size w wQ) := hbQ
          have HPQ : Hid (wQ.ownsRow w.heap.size 3 1 (.slice (some ⟨gP, 0, none⟩) (2 * j + 2) capP) (2 * j + 2) ((castL (bothH (nums.take (j + 1)))).map (Value.int .i64))) := hPQ
          have HQQ : Hid (wQ.ownsRow w.heap.size 22 1 (.slice (some ⟨gQ, 0, none⟩) (2 * j + 2) capQ) (2 * j + 2) (vs ++ [.slice a1 xs.length l1, .slice a2 ys.length l2])) := hqQ
          have hvl : vs.length = (rowsS (S.take j)).length := by
            have h1 := HQ8.out.1
            rw [rowsS_len, List.length_take]; omega
          have HV2 : Hid (∀ (i : Nat) (zs : List F), (rowsS (S.take (j + 1)))[i]? = some zs → ∃ v, (vs ++ [.slice a1 xs.length l1, .slice a2 ys.length l2])[i]? = some v ∧ ∃ a' c', v = .slice a' zs.length c' ∧ Row8 w a' zs) := by
            show ∀ (i : Nat) (zs : List F), _
            rw [HSJ.out]
            exact pairs_snoc (P := fun zs v => ∃ a' c', v = .slice a' zs.length c' ∧ Row8 w a' zs) hvl HVS.out ⟨a1, l1, rfl, R1.out⟩ ⟨a2, l2, rfl, R2.out⟩
          clear hbx hb8 hP8 hQ8 hN8 hp9 hrunP hpP hgrP horP hltP hbP hNP hQP hq9 hrunQ hqQ hgrQ horQ hltQ hbQ hPQ hvl hbs
          go_upto_region 21 with (at_builtin; refine wpList_append_run rfl _ _ 54 rfl _ _ _ _ rfl rfl HRP.out ?_)
          go_wp2_with (at_builtin; refine wpList_append_run rfl _ _ 25 rfl _ _ _ _ rfl rfl HRQ.out ?_)
          exact ⟨⟨j + 1, _, by omega, by go_num, HBQ.out, HPQ.out, HQQ.out, HV2.out⟩, by simp [intOf]; omega⟩
    · obtain rfl : ln = j := by omega
      have hI := HP.out
      rw [List.take_of_length_le (by rw [HNL.out, ← HL.out]; exact Nat.le_refl _), ← nvs_cast] at hI
      obtain ⟨a8, c8, rfl, hI1, hI2, hI3⟩ := ownI_slice hI
      have hR : ∃ a9 c9, u13 = .slice a9 (2 * ln) c9 ∧ Rows8 wr a9 (rowsS S) := by
        have hvs := HVS.out
        rw [List.take_of_length_le (by rw [← HL.out]; exact Nat.le_refl _)] at hvs
        rcases HQ.out.2 with ⟨e, e0⟩ | ⟨g, cap, cur, e, hg⟩
        · omega
        · refine ⟨some ⟨g, 0, none⟩, cap, e, .inr ⟨g, 0, rfl, fun i zs hi => ?_⟩⟩
          obtain ⟨v, hv, a', c', rfl, hr⟩ := hvs i zs hi
          have hil : i < 2 * ln := by
            have := (List.getElem?_eq_some_iff.1 hi).1
            rw [rowsS_len, ← HL.out] at this; exact this
          have hoe := HQ.out
          rw [e] at hoe
          refine ⟨a', c', ?_, row8_below hr HBW.out⟩
          rw [Nat.zero_add, hoe.cellAt i (by rw [Nat.mul_one]; exact hil)]
          exact hv
      obtain ⟨a9, c9, rfl, hR9⟩ := hR
      have HR9 : Hid (Rows8 wr a9 (rowsS S)) := hR9
      have HI1 : Hid (RowI wr a8 (castL (bothH nums))) := hI1
      clear HP HQ HVS hI hI1 hI2 hI3 hR9
      go_wp2
      generalize wr = w9 at *
      go_loopw [91] (fun t wx => ∃ i : Nat, i ≤ 2 * ln ∧ t = .int .i64 i ∧ (∀ (q : Nat) (zs : List F), q < i → (rowsS S)[q]? = some zs → zs.length = H) ∧ Below w9.heap.size w9 wx) (fun t _ => 2 * ln - (intOf t).toNat)
      case atStart => exact ⟨0, by omega, rfl, fun q _ h => by omega, Below.refl _ _⟩
      case round =>
        obtain ⟨i, hi, rfl, hqs, hbx⟩ := hrel
        have HBX : Hid (Below w9.heap.size w9 wr) := hbx
        have HQS : Hid (∀ (q : Nat) (zs : List F), q < i → (rowsS S)[q]? = some zs → zs.length = H) := hqs
        clear hqs
        by_cases hlt : i < 2 * ln
        · obtain ⟨zs, hzs⟩ : ∃ zs, (rowsS S)[i]? = some zs := ⟨_, List.getElem?_eq_getElem (by rw [rowsS_len, ← HL.out]; exact hlt)⟩
          obtain ⟨bR, oR, rfl, hbR, hcR⟩ := rows8_at HR9.out (List.getElem?_eq_some_iff.1 hzs).1
          obtain ⟨a', c', e1, _⟩ := hcR i zs hzs
          have f1 := cell_later hbx e1
          have hi1 : (i : Int) < ((2 * ln : Nat) : Int) := by omega
          have HZS : Hid ((rowsS S)[i]? = some zs) := hzs
          clear hbx hzs hcR e1
          by_cases hz : zs.length = H
          · have hz' : ((zs.length : Int) != (H : Int)) = false := by simp [hz]
            have HZ : Hid (zs.length = H) := hz
            clear hz
            go_wp2
            refine ⟨⟨i + 1, by omega, by go_num, fun q ws hq hws => ?_, HBX.out⟩, by simp [intOf]; omega⟩
            by_cases hqi : q < i
            · exact HQS.out q ws hqi hws
            · obtain rfl : q = i := by omega
              rw [HZS.out] at hws
              obtain rfl := Option.some.inj hws
              exact HZ.out
          · have hz' : ((zs.length : Int) != (H : Int)) = true := by simp only [bne_iff_ne, ne_eq]; omega
            have HZ : Hid (¬ zs.length = H) := hz
            clear hz
            go_wp2
            go_ret2
            exact .inl ⟨fun h => HZ.out (h zs (List.mem_of_getElem? HZS.out)), rfl, HBW.out.trans (HBX.out.mono HBW.out.size)⟩
        · obtain rfl : i = 2 * ln := by omega
          have hall : ∀ xs ∈ rowsS S, xs.length = H := fun xs hx => by
            obtain ⟨q, hq⟩ := List.mem_iff_getElem?.1 hx
            have hql := (List.getElem?_eq_some_iff.1 hq).1
            rw [rowsS_len, ← HL.out] at hql
            exact HQS.out q xs hql hq
          have hnk : nums.length = ln := by rw [HNL.out, ← HL.out]
          have hrk := num_rank (car := carN (groupN ln r)) HND.out hnk HIN.out (show ln + r ≤ 256 by omega)
          obtain ⟨D, hD⟩ := full_table hrk (bytesD (rowsS S))
          have HALL : Hid (∀ xs ∈ rowsS S, xs.length = H) := hall
          have HD : Hid (∀ i, i < 2 * ln → ∀ b, bytesD (rowsS S) i b = sumF (fun u => gm (numM ln (carN (groupN ln r)) (bothH nums) i u) (D u b)) (2 * ln)) := hD
          have HRK : Hid ((pivL (numM ln (carN (groupN ln r)) (bothH nums)) (2 * ln) (2 * ln)).length = 2 * ln) := hrk
          have hnl : ∀ i, i < 2 * ln → (bothH nums).getD i 0 < 2 * (ln + r) := fun i hi => by
            have hm := getD_mem (L := bothH nums) (i := i) (by rw [bothH_len, hnk]; exact hi)
            simp only [bothH, List.mem_flatMap, List.mem_cons, List.not_mem_nil, or_false] at hm
            obtain ⟨x, hx, hx2⟩ := hm
            have := HIN.out x hx
            simp only [bothH]
            omega
          have HNLT : Hid (∀ i, i < 2 * ln → (bothH nums).getD i 0 < 2 * (ln + r)) := hnl
          have HBL : Hid (2 * ln = (bothH nums).length) := by show _ = _; rw [bothH_len, hnk]
          have HRL : Hid (2 * ln = (rowsS S).length) := by show _ = _; rw [rowsS_len, ← HL.out]
          have HRX : Hid (Rows8 wr a9 (rowsS S)) := rows8_below HR9.out hbx
          have HIX : Hid (RowI wr a8 (castL (bothH nums))) := rowI_below HI1.out hbx
          clear hall hnk hrk hD hnl hbx hi hlt
          go_wp2_with fail
          refine Calls.mono (rvars_F ln r H (2 * ln) c8 (2 * ln) c9 a8 a9 (bothH nums) (rowsS S) D _ h1 h2 h3 k2 HBL.out HRL.out rfl (by omega) HNLT.out HALL.out HIX.out HRX.out (fun v hv => full_units HRK.out v hv) (fun i hi b _ => HD.out i hi b)) ?_
          rintro e w8 ⟨b8, cc8, cap8, rfl, hc8, hr8, hb8⟩
          have HR8 : Hid (Rows8 w8 b8 ((List.range (2 * ln)).map fun v => rowF H (D v))) := hr8
          have HB8 : Hid (Below w.heap.size w w8) := by
            have h1 : Below w.heap.size w wr := HBW.out.trans (HBX.out.mono HBW.out.size)
            exact h1.trans (hb8.mono h1.size)
          have HC8 : Hid (cc8 = 2 * ln) := hc8
          clear hr8 hb8 hc8
          go_wp2_with fail
          refine Calls.mono (rjoin_F ln n cc8 cap8 b8 _ _ h1 (by omega) h4 h5 (by simp [HC8.out]) (by have := HC8.out; omega) HR8.out) ?_
          rintro e w7 (⟨hno, _⟩ | ⟨_, g7, cap7, rfl, _, h7, hg7, hb7⟩)
          · refine absurd ⟨by simp, fun ys hy => ?_⟩ hno
            obtain ⟨v, _, rfl⟩ := List.mem_map.1 hy
            rw [← HH.out, rowF_len]
          · have H7 : Hid (Has8 w7 g7 ((((List.range (2 * ln)).map fun v => rowF H (D v)).flatten).take n) cap7) := h7
            have HB7 : Hid (Below w.heap.size w w7) := HB8.out.trans (hb7.mono HB8.out.size)
            have hg7' : w.heap.size ≤ g7 := Nat.le_trans HB8.out.size hg7
            clear h7 hb7 hg7
            go_wp2
            go_ret2
            exact .inr ⟨HALL.out, D, fun i hi b _ => HD.out i hi b, g7, cap7, rfl, H7.out, hg7', HB7.out⟩
end Go.Proofs.YtmlpijlcpeoeaaaDoor

/- What the document's own Decode answers where the numbers, the size or the count don't fit. -/
namespace Go.Proofs.YtmlpijlcpeoeaaaDoor
open Go.RowKit Gf
set_option linter.unusedVariables false
set_option maxRecDepth 20000
theorem rdecode_illegal (k r n : Int) (a : Option Addr) (la ca : Nat) (w : World) (hk0 : -9223372036854775808 ≤ k) (hk1 : k ≤ 9223372036854775807) (hr0 : -9223372036854775808 ≤ r) (hr1 : r ≤ 9223372036854775807) (h : ¬ LegalP k r) :
    Calls Tryd.prog 20 #[.int .i64 k, .int .i64 r, .int .i64 n, .slice a la ca] w fun e w' => e = .returned (.tuple #[.slice none 0 0, .int .i64 1]) ∧ w = w' := by
  have H : Hid _ := h
  clear h
  go_enter Tryd.func20, Tryd.ntmps20
  go_wp2_with fail
  refine Calls.mono (legal_no k r _ hk0 hk1 hr0 hr1 H.out) ?_
  rintro e w1 ⟨rfl, rfl⟩
  go_wp2_with fail
  go_ret2
  exact ⟨rfl, rfl⟩
theorem rdecode_size (k r : Nat) (n : Int) (a : Option Addr) (la ca : Nat) (w : World) (h1 : 1 ≤ k) (h2 : 2 ≤ r) (h3 : k + r ≤ 16) (h : halfE k n ≠ 0) :
    Calls Tryd.prog 20 #[.int .i64 k, .int .i64 r, .int .i64 n, .slice a la ca] w fun e w' => e = .returned (.tuple #[.slice none 0 0, .int .i64 (halfE k n)]) ∧ w = w' := by
  have HF : Hid _ := fun w => rhalf_F k n w
  rw [halfV_no h] at HF
  have h' : ((halfE k n : Int) != 0) = true := by simp only [bne_iff_ne, ne_eq]; omega
  generalize halfE k n = x at *
  clear h
  go_enter Tryd.func20, Tryd.ntmps20
  go_wp2_with fail
  refine Calls.mono (legal_yes k r _ h1 h2 h3) ?_
  rintro e w1 ⟨rfl, rfl⟩
  go_wp2_with fail
  refine Calls.mono (HF.out _) ?_
  rintro e w1 ⟨rfl, rfl⟩
  go_wp2_with fail
  go_ret2
  exact ⟨rfl, rfl⟩
theorem rdecode_count (k r n la ca : Nat) (a : Option Addr) (w : World) (h1 : 1 ≤ k) (h2 : 2 ≤ r) (h3 : k + r ≤ 16) (h4 : 1 ≤ n) (h5 : n ≤ 128 * k) (h : la ≠ k) :
    Calls Tryd.prog 20 #[.int .i64 k, .int .i64 r, .int .i64 n, .slice a la ca] w fun e w' => e = .returned (.tuple #[.slice none 0 0, .int .i64 4]) ∧ w = w' := by
  have HF : Hid _ := fun w => rhalf_F k n w
  rw [halfV_ok h1 (by omega) h4 h5, halfE_ok h1 (by omega) h4 h5] at HF
  generalize cntN (2 * k) n = H at HF
  have h' : ((la : Int) != (k : Int)) = true := by simp only [bne_iff_ne, ne_eq]; omega
  clear h
  go_enter Tryd.func20, Tryd.ntmps20
  go_wp2_with fail
  refine Calls.mono (legal_yes k r _ h1 h2 h3) ?_
  rintro e w1 ⟨rfl, rfl⟩
  go_wp2_with fail
  refine Calls.mono (HF.out _) ?_
  rintro e w1 ⟨rfl, rfl⟩
  go_wp2_with fail
  go_ret2
  exact ⟨rfl, rfl⟩
set_option maxHeartbeats 16000000 in
theorem rdecode_apart (k r n ln cn m : Nat) (a : Option Addr) (S : List (Int × List F × List F)) (w : World) (h1 : 1 ≤ k) (h2 : 2 ≤ r) (h3 : k + r ≤ 16) (h4 : 1 ≤ n) (h5 : n ≤ 128 * k)
    (hln : ln = k) (hl : ln = S.length) (hm : m < ln) (hin : ∀ j s, j < m → S[j]? = some s → 0 ≤ s.1 ∧ s.1 < k + r) (hne : ∀ i j s t, i < j → j < m → S[i]? = some s → S[j]? = some t → s.1 ≠ t.1)
    (hbad : ∀ s, S[m]? = some s → s.1 < 0 ∨ (k : Int) + r ≤ s.1 ∨ (0 ≤ s.1 ∧ s.1 < k + r ∧ ∃ i t, i < m ∧ S[i]? = some t ∧ t.1 = s.1 ∧ ∀ j u, j < i → S[j]? = some u → u.1 ≠ s.1)) (hi64 : ∀ s ∈ S, -9223372036854775808 ≤ s.1 ∧ s.1 ≤ 9223372036854775807) (hS : Sh8 w a S) :
    Calls Tryd.prog 20 #[.int .i64 k, .int .i64 r, .int .i64 n, .slice a ln cn] w fun e w' => e = .returned (.tuple #[.slice none 0 0, .int .i64 4]) ∧ Below w.heap.size w w' := by
  have HF : Hid _ := fun w => rhalf_F k n w
  rw [halfV_ok h1 (by omega) h4 h5, halfE_ok h1 (by omega) h4 h5] at HF
  generalize cntN (2 * k) n = H at HF
  have HL : Hid (ln = S.length) := hl
  have HIN : Hid (∀ j s, j < m → S[j]? = some s → 0 ≤ s.1 ∧ s.1 < k + r) := hin
  have HNE : Hid (∀ i j s t, i < j → j < m → S[i]? = some s → S[j]? = some t → s.1 ≠ t.1) := hne
  have HBAD : Hid (∀ s, S[m]? = some s → s.1 < 0 ∨ (k : Int) + r ≤ s.1 ∨ (0 ≤ s.1 ∧ s.1 < k + r ∧ ∃ i t, i < m ∧ S[i]? = some t ∧ t.1 = s.1 ∧ ∀ j u, j < i → S[j]? = some u → u.1 ≠ s.1)) := hbad
  have HI64 : Hid (∀ s ∈ S, -9223372036854775808 ≤ s.1 ∧ s.1 ≤ 9223372036854775807) := hi64
  have HS : Hid (Sh8 w a S) := hS
  subst hln
  clear hl hin hne hbad hS hi64
  go_enter Tryd.func20, Tryd.ntmps20
  go_wp2_with fail
  refine Calls.mono (legal_yes ln r _ h1 h2 h3) ?_
  rintro e w1 ⟨rfl, rfl⟩
  go_wp2_with fail
  refine Calls.mono (HF.out _) ?_
  rintro e w1 ⟨rfl, rfl⟩
  go_wp2
  have hA := holds_new (holds_new (holds_nil w) #[] 3) #[] 22
  rw [World.size_alloc] at hA
  have B4 : Hid (Below w.heap.size w ((w.alloc (.cells #[] 3)).alloc (.cells #[] 22))) := ((Below.refl _ _).alloc (Nat.le_refl _) _).alloc (by simp) _
  have z0 : w.heap.size + 2 ≤ ((w.alloc (.cells #[] 3)).alloc (.cells #[] 22)).heap.size := by simp
  have ho1 : ((w.alloc (.cells #[] 3)).alloc (.cells #[] 22)).ownsRow w.heap.size 3 1 (.slice (some ⟨w.heap.size, 0, none⟩) 0 0) 0 [] := ⟨rfl, .inr ⟨w.heap.size, 0, #[], rfl, Nat.le_refl _, holds_at hA 1 rfl, by simp, by simp [maxLen], rfl, rfl⟩⟩
  have ho2 : ((w.alloc (.cells #[] 3)).alloc (.cells #[] 22)).ownsRow w.heap.size 22 1 (.slice (some ⟨w.heap.size + 1, 0, none⟩) 0 0) 0 [] := ⟨rfl, .inr ⟨w.heap.size + 1, 0, #[], rfl, by omega, holds_at hA 0 rfl, by simp, by simp [maxLen], rfl, rfl⟩⟩
  clear hA
  try rw [World.size_alloc]
  generalize ((w.alloc (.cells #[] 3)).alloc (.cells #[] 22)) = W at *
  go_loopw [12, 13, 42] (fun p q i wr => ∃ j : Nat, ∃ us vs : List Value, j ≤ m ∧ i = .int .i64 j ∧ Below w.heap.size w wr ∧ wr.ownsRow w.heap.size 3 1 p (2 * j) us ∧ wr.ownsRow w.heap.size 22 1 q (2 * j) vs) (fun _ _ i _ => ln - (intOf i).toNat)
  case atStart => exact ⟨0, [], [], by omega, rfl, B4.out, ho1, ho2⟩
  case round =>
    obtain ⟨j, us, vs, hj, rfl, hbw, hp, hq⟩ := hrel
    have HBW : Hid (Below w.heap.size w wr) := hbw
    have HP : Hid (wr.ownsRow w.heap.size 3 1 u12 (2 * j) us) := hp
    have HQ : Hid (wr.ownsRow w.heap.size 22 1 u13 (2 * j) vs) := hq
    clear hbw hp hq ho1 ho2
    have hltn : j < ln := by omega
    by_cases hlt : j < m
    · have hjS : j < S.length := by rw [← HL.out]; exact hltn
      obtain ⟨⟨mj, xs, ys⟩, hs⟩ : ∃ s, S[j]? = some s := ⟨_, List.getElem?_eq_getElem hjS⟩
      have HSJ : Hid (S[j]? = some (mj, xs, ys)) := hs
      rcases HS.out with e0 | ⟨bS, oS, eS, hcS⟩
      · rw [e0] at hjS; simp at hjS
      subst eS
      obtain ⟨a1, l1, a2, l2, e1, e2, e3, r1, r2⟩ := hcS j mj xs ys hs
      have c1 := cell_later HBW.out e1
      have c2 := cell_later HBW.out e2
      have c3 := cell_later HBW.out e3
      obtain ⟨hr0, hr1⟩ := HIN.out j _ hlt hs
      obtain ⟨x, hmx⟩ : ∃ x : Nat, mj = (x : Int) := ⟨mj.toNat, by omega⟩
      have hxr : x < ln + r := by omega
      have R1 : Hid (Row8 w a1 xs) := r1
      have R2 : Hid (Row8 w a2 ys) := r2
      subst hmx
      have hx0 : ¬ ((x : Int) < 0) := by omega
      have hx1 : ¬ ((ln : Int) + (r : Int) ≤ (x : Int)) := by omega
      clear hs hcS e1 e2 e3 r1 r2 hr0 hr1
      go_wp2
      have c4 : Hid ((wr.alloc (.cells #[.int .i64 x, .slice a1 xs.length l1, .slice a2 ys.length l2] 38)).heap[wr.heap.size]? = some (.cells #[.int .i64 x, .slice a1 xs.length l1, .slice a2 ys.length l2] 38 (0, 0))) := heap_alloc_last _ _
      have B7 : Hid (Below w.heap.size w (wr.alloc (.cells #[.int .i64 x, .slice a1 xs.length l1, .slice a2 ys.length l2] 38))) := HBW.out.alloc HBW.out.size _
      have P7 : Hid ((wr.alloc (.cells #[.int .i64 x, .slice a1 xs.length l1, .slice a2 ys.length l2] 38)).ownsRow w.heap.size 3 1 u12 (2 * j) us) := World.ownsRow.alloc HP.out _
      have Q7 : Hid ((wr.alloc (.cells #[.int .i64 x, .slice a1 xs.length l1, .slice a2 ys.length l2] 38)).ownsRow w.heap.size 22 1 u13 (2 * j) vs) := World.ownsRow.alloc HQ.out _
      clear HP HQ HBW c1 c2 c3
      generalize (wr.alloc (.cells #[.int .i64 x, .slice a1 xs.length l1, .slice a2 ys.length l2] 38)) = W7 at *
      generalize wr.heap.size = N at *
      generalize wr = w9 at *
      go_loopw [16] (fun t wx => ∃ i : Nat, i ≤ j ∧ t = .int .i64 i ∧ Below W7.heap.size W7 wx) (fun t _ => j - (intOf t).toNat)
      case atStart => exact ⟨0, by omega, rfl, Below.refl _ _⟩
      case round =>
        obtain ⟨i, hi, rfl, hbx⟩ := hrel
        have HBX : Hid (Below W7.heap.size W7 wr) := hbx
        have d1 := cellAt (heap_later c4.out hbx) 0 _ rfl
        by_cases hlti : i < j
        · have hiS : i < S.length := by omega
          obtain ⟨⟨mi, xi, yi⟩, hsi⟩ : ∃ s, S[i]? = some s := ⟨_, List.getElem?_eq_getElem hiS⟩
          rcases HS.out with e0 | ⟨bS', oS', eS, hcS⟩
          · rw [e0] at hjS; simp at hjS
          cases eS
          obtain ⟨_, _, _, _, e1, _⟩ := hcS i mi xi yi hsi
          have hb8 : Below w.heap.size w wr := B7.out.trans (hbx.mono B7.out.size)
          have f1 := cell_later hb8 e1
          obtain ⟨y, hmy⟩ : ∃ y : Nat, mi = (y : Int) := ⟨mi.toNat, by have := (HIN.out i _ (by omega) hsi).1; omega⟩
          have hyx : y ≠ x := fun e => HNE.out i j _ _ hlti hlt hsi HSJ.out (by show mi = (x : Int); omega)
          subst hmy
          have hne : ((y : Int) == (x : Int)) = false := by simp only [beq_eq_false_iff_ne, ne_eq]; omega
          have kA : ∀ u, Below wr.heap.size wr u → u.cell? ⟨bS, oS + i * 3, none⟩ = some (.int .i64 (y : Int)) := fun u hu => cell_later hu f1
          have kB : ∀ u, Below wr.heap.size wr u → u.cell? ⟨N, 0, none⟩ = some (.int .i64 (x : Int)) := fun u hu => cell_later hu d1
          have hi0 : (0 : Int) ≤ (i : Int) := by omega
          have hi1 : (i : Int) < (ln : Int) := by omega
          have hi2 : i < ln := by omega
          clear hbx hsi hcS e1 hb8 hyx f1 d1
          go_upto_region 18 with fail
          have hR2 : Below wr.heap.size wr wr.drew := (Below.refl _ _).drew
          go_region_held3 (fun w' => Below wr.heap.size wr w') (first | assumption | (refine Below.drew ?_; assumption)) (fail)
          clear kA kB hR2
          go_wp2
          exact ⟨⟨i + 1, by omega, by go_num, HBX.out.drew⟩, by simp [intOf]; omega⟩
        · obtain rfl : j = i := by omega
          have hb8 : Below w.heap.size w wr := B7.out.trans (hbx.mono B7.out.size)
          have hP8 := own_below P7.out hbx
          have hQ8 := own_below Q7.out hbx
          have hN8 := heap_later c4.out hbx
          obtain ⟨p0, hp0⟩ : ∃ p0, p0 = 2 * x := ⟨_, rfl⟩
          obtain ⟨p1, hp1⟩ : ∃ p1, p1 = 2 * x + 1 := ⟨_, rfl⟩
          have t1 : (2 : Int) * (x : Int) = (p0 : Int) := by omega
          have t2 : (p0 : Int) + 1 = (p1 : Int) := by omega
          have hp9' : (p1 : Int) ≤ 100 := by omega
          clear hp0 hp1
          have q1 := cellAt hN8 1 _ rfl
          have q2 := cellAt hN8 2 _ rfl
          have HP8 : Hid (wr.ownsRow w.heap.size 3 1 u12 (2 * j) us) := hP8
          have HQ8 : Hid (wr.ownsRow w.heap.size 22 1 u13 (2 * j) vs) := hQ8
          have HN8 : Hid (wr.heap[N]? = some (.cells #[.int .i64 x, .slice a1 xs.length l1, .slice a2 ys.length l2] 38 (0, 0))) := hN8
          have HB8 : Hid (Below w.heap.size w wr) := hb8
          have hp9 := World.ownsRow.alloc hP8 (.cells #[.int .i64 (p0 : Int), .int .i64 (p1 : Int)] 3)
          obtain ⟨gP, capP, wP, hrunP, hpP, hgrP, horP, hltP⟩ := appendI2 (b := wr.heap.size) (c := 2) (x := (p0 : Int)) (y := (p1 : Int)) 54 hp9 (cellAt (heap_alloc_last wr _) 0 _ rfl) (cellAt (heap_alloc_last wr _) 1 _ rfl) (by omega) (by have := hb8.size; simp; omega)
          have hbP := below_own (B := w.heap.size) (hb8.alloc hb8.size (.cells #[.int .i64 (p0 : Int), .int .i64 (p1 : Int)] 3)) hp9 hgrP (by have := hb8.size; simp; omega)
          have hNP := own_other hp9 hgrP ((Below.heap_alloc _ _ _ (ltHeap hN8)).trans hN8) (by decide)
          have hQP := own_kind7 hp9 hgrP (World.ownsRow.alloc hQ8 (.cells #[.int .i64 (p0 : Int), .int .i64 (p1 : Int)] 3)) (by decide)
          have k1 := cellAt hNP 1 _ rfl
          have k2 := cellAt hNP 2 _ rfl
          have hq9 := World.ownsRow.alloc hQP (.cells #[.slice a1 xs.length l1, .slice a2 ys.length l2] 22)
          obtain ⟨gQ, capQ, wQ, hrunQ, hqQ, hgrQ, horQ, hltQ⟩ := appendS2 (b := wP.heap.size) (c := 2) (x := .slice a1 xs.length l1) (y := .slice a2 ys.length l2) 25 hq9 (cellAt (heap_alloc_last wP _) 0 _ rfl) (cellAt (heap_alloc_last wP _) 1 _ rfl) rfl rfl (by omega) (by have := hbP.size; simp; omega)
          have hbQ := below_own (B := w.heap.size) (hbP.alloc hbP.size (.cells #[.slice a1 xs.length l1, .slice a2 ys.length l2] 22)) hq9 hgrQ (by have := hbP.size; simp; omega)
          have hPQ := own_kind7 hq9 hgrQ (World.ownsRow.alloc hpP (.cells #[.slice a1 xs.length l1, .slice a2 ys.length l2] 22)) (by decide)
          have HRP : Hid _ := hrunP
          have HRQ : Hid _ := hrunQ
          have HBQ : Hid (Below w.heap.size w wQ) := hbQ
          have HPQ : Hid (wQ.ownsRow w.heap.size 3 1 (.slice (some ⟨gP, 0, none⟩) (2 * j + 2) capP) (2 * j + 2) (us ++ [.int .i64 (p0 : Int), .int .i64 (p1 : Int)])) := hPQ
          have HQQ : Hid (wQ.ownsRow w.heap.size 22 1 (.slice (some ⟨gQ, 0, none⟩) (2 * j + 2) capQ) (2 * j + 2) (vs ++ [.slice a1 xs.length l1, .slice a2 ys.length l2])) := hqQ
          clear hbx hb8 hP8 hQ8 hN8 hp9 hrunP hpP hgrP horP hltP hbP hNP hQP hq9 hrunQ hqQ hgrQ horQ hltQ hbQ hPQ
          go_upto_region 21 with (at_builtin; refine wpList_append_run rfl _ _ 54 rfl _ _ _ _ rfl rfl HRP.out ?_)
          go_wp2_with (at_builtin; refine wpList_append_run rfl _ _ 25 rfl _ _ _ _ rfl rfl HRQ.out ?_)
          exact ⟨⟨j + 1, _, _, by omega, by go_num, HBQ.out, HPQ.out, HQQ.out⟩, by simp [intOf]; omega⟩
    · obtain rfl : m = j := by omega
      have hjS : m < S.length := by rw [← HL.out]; exact hltn
      obtain ⟨⟨mj, xs, ys⟩, hs⟩ : ∃ s, S[m]? = some s := ⟨_, List.getElem?_eq_getElem hjS⟩
      have hi6 := HI64.out _ (List.mem_of_getElem? hs)
      rcases HS.out with e0 | ⟨bS, oS, eS, hcS⟩
      · rw [e0] at hjS; simp at hjS
      subst eS
      obtain ⟨a1, l1, a2, l2, e1, e2, e3, r1, r2⟩ := hcS m mj xs ys hs
      have c1 := cell_later HBW.out e1
      have c2 := cell_later HBW.out e2
      have c3 := cell_later HBW.out e3
      have hbd := HBAD.out _ hs
      simp only at hi6 hbd
      clear hs hcS e1 e2 e3 r1 r2
      rcases hbd with hx | hx | ⟨hx0, hx1, i0, t, hi0, hti, hte, hmin⟩
      · go_wp2
        go_ret2
        exact ⟨rfl, HBW.out.alloc HBW.out.size _⟩
      · have hx0 : ¬ mj < 0 := by omega
        go_wp2
        go_ret2
        exact ⟨rfl, HBW.out.alloc HBW.out.size _⟩
      · obtain ⟨x, hmx⟩ : ∃ x : Nat, mj = (x : Int) := ⟨mj.toNat, by omega⟩
        have hxr : x < ln + r := by omega
        have HTI : Hid (S[i0]? = some t) := hti
        have HTE : Hid (t.1 = mj) := hte
        have HMIN : Hid (∀ j u, j < i0 → S[j]? = some u → u.1 ≠ mj) := hmin
        clear hti hte hmin
        subst hmx
        have hx0 : ¬ ((x : Int) < 0) := by omega
        have hx1 : ¬ ((ln : Int) + (r : Int) ≤ (x : Int)) := by omega
        go_wp2
        have c4 : Hid ((wr.alloc (.cells #[.int .i64 x, .slice a1 xs.length l1, .slice a2 ys.length l2] 38)).heap[wr.heap.size]? = some (.cells #[.int .i64 x, .slice a1 xs.length l1, .slice a2 ys.length l2] 38 (0, 0))) := heap_alloc_last _ _
        have B7 : Hid (Below w.heap.size w (wr.alloc (.cells #[.int .i64 x, .slice a1 xs.length l1, .slice a2 ys.length l2] 38))) := HBW.out.alloc HBW.out.size _
        have P7 : Hid ((wr.alloc (.cells #[.int .i64 x, .slice a1 xs.length l1, .slice a2 ys.length l2] 38)).ownsRow w.heap.size 3 1 u12 (2 * m) us) := World.ownsRow.alloc HP.out _
        have Q7 : Hid ((wr.alloc (.cells #[.int .i64 x, .slice a1 xs.length l1, .slice a2 ys.length l2] 38)).ownsRow w.heap.size 22 1 u13 (2 * m) vs) := World.ownsRow.alloc HQ.out _
        clear HP HQ HBW c1 c2 c3
        generalize (wr.alloc (.cells #[.int .i64 x, .slice a1 xs.length l1, .slice a2 ys.length l2] 38)) = W7 at *
        generalize wr.heap.size = N at *
        generalize wr = w9 at *
        go_loopw [16] (fun t wx => ∃ i : Nat, i ≤ i0 ∧ t = .int .i64 i ∧ Below W7.heap.size W7 wx) (fun t _ => i0 - (intOf t).toNat)
        case atStart => exact ⟨0, by omega, rfl, Below.refl _ _⟩
        case round =>
          obtain ⟨i, hi, rfl, hbx⟩ := hrel
          have HBX : Hid (Below W7.heap.size W7 wr) := hbx
          have d1 := cellAt (heap_later c4.out hbx) 0 _ rfl
          by_cases hlti : i < i0
          · have hiS : i < S.length := by omega
            obtain ⟨⟨mi, xi, yi⟩, hsi⟩ : ∃ s, S[i]? = some s := ⟨_, List.getElem?_eq_getElem hiS⟩
            rcases HS.out with e0 | ⟨bS', oS', eS, hcS⟩
            · rw [e0] at hjS; simp at hjS
            cases eS
            obtain ⟨_, _, _, _, e1, _⟩ := hcS i mi xi yi hsi
            have hb8 : Below w.heap.size w wr := B7.out.trans (hbx.mono B7.out.size)
            have f1 := cell_later hb8 e1
            obtain ⟨y, hmy⟩ : ∃ y : Nat, mi = (y : Int) := ⟨mi.toNat, by have := (HIN.out i _ (by omega) hsi).1; omega⟩
            have hyx : y ≠ x := fun e => HMIN.out i _ hlti hsi (by show mi = (x : Int); omega)
            subst hmy
            have hne : ((y : Int) == (x : Int)) = false := by simp only [beq_eq_false_iff_ne, ne_eq]; omega
            have kA : ∀ u, Below wr.heap.size wr u → u.cell? ⟨bS, oS + i * 3, none⟩ = some (.int .i64 (y : Int)) := fun u hu => cell_later hu f1
            have kB : ∀ u, Below wr.heap.size wr u → u.cell? ⟨N, 0, none⟩ = some (.int .i64 (x : Int)) := fun u hu => cell_later hu d1
            have hi0 : (0 : Int) ≤ (i : Int) := by omega
            have hi1 : (i : Int) < (ln : Int) := by omega
            have hi2 : i < ln := by omega
            clear hbx hsi hcS e1 hb8 hyx f1 d1
            go_upto_region 18 with fail
            have hR2 : Below wr.heap.size wr wr.drew := (Below.refl _ _).drew
            go_region_held3 (fun w' => Below wr.heap.size wr w') (first | assumption | (refine Below.drew ?_; assumption)) (fail)
            clear kA kB hR2
            go_wp2
            exact ⟨⟨i + 1, by omega, by go_num, HBX.out.drew⟩, by simp [intOf]; omega⟩
          · obtain rfl : i0 = i := by omega
            rcases HS.out with e0 | ⟨bS', oS', eS, hcS⟩
            · rw [e0] at hjS; simp at hjS
            cases eS
            obtain ⟨mi, xi, yi⟩ := t
            obtain ⟨_, _, _, _, e1, _⟩ := hcS i0 mi xi yi HTI.out
            have hb8 : Below w.heap.size w wr := B7.out.trans (hbx.mono B7.out.size)
            have f1 := cell_later hb8 e1
            have hmi : mi = (x : Int) := HTE.out
            subst hmi
            have kA : ∀ u, Below wr.heap.size wr u → u.cell? ⟨bS, oS + i0 * 3, none⟩ = some (.int .i64 (x : Int)) := fun u hu => cell_later hu f1
            have kB : ∀ u, Below wr.heap.size wr u → u.cell? ⟨N, 0, none⟩ = some (.int .i64 (x : Int)) := fun u hu => cell_later hu d1
            have hi0' : (0 : Int) ≤ (i0 : Int) := by omega
            have hi1 : (i0 : Int) < (ln : Int) := by omega
            have hi2 : i0 < ln := by omega
            have HB8 : Hid (Below w.heap.size w wr) := hb8
            clear hbx hcS e1 hb8 f1 d1
            go_upto_region 18 with fail
            have hR2 : Below wr.heap.size wr wr.drew := (Below.refl _ _).drew
            go_region_held3 (fun w' => Below wr.heap.size wr w') (first | assumption | (refine Below.drew ?_; assumption)) (fail)
            clear kA kB hR2
            go_wp2
            go_ret2
            exact ⟨rfl, HB8.out.drew⟩
end Go.Proofs.YtmlpijlcpeoeaaaDoor

/- What slices.Contains of numbers, and haveSize, halvesOf, numbersOf of package code answer, of all numbers and shards. -/
namespace Go.Proofs.YtmlpijlcpeoeaaaDoor
open Go.RowKit Gf
set_option linter.unusedVariables false
set_option maxRecDepth 20000
/-- the first place of a number -/
def idxI (ns : List Int) (x : Int) : Int := if x ∈ ns then ((ns.idxOf x : Nat) : Int) else -1
set_option maxHeartbeats 1000000 in
theorem index_F (l cap : Nat) (a : Option Addr) (ns : List Int) (x : Int) (w : World) (hl : l = ns.length) (hl9 : l ≤ 1000000) (hX : RowI w a ns) :
    Calls Tryd.prog 82 #[.slice a l cap, .int .i64 x] w fun e w' => ∃ y : Int, e = .returned (.int .i64 y) ∧ (0 ≤ y ↔ x ∈ ns) ∧ w = w' := by
  have HL : Hid (l = ns.length) := hl
  have HX : Hid (RowI w a ns) := hX
  clear hl hX
  go_enter Tryd.func82, Tryd.ntmps82
  go_wp2
  go_loopw [8] (fun i wr => ∃ j : Nat, j ≤ l ∧ i = .int .i64 j ∧ wr = w ∧ (∀ q, q < j → ns[q]? ≠ some x)) (fun i _ => l - (intOf i).toNat)
  case atStart => exact ⟨0, by omega, rfl, rfl, fun q h => by omega⟩
  case round =>
    obtain ⟨j, hj, rfl, rfl, hq⟩ := hrel
    have HQ : Hid (∀ q, q < j → ns[q]? ≠ some x) := hq
    clear hq
    by_cases hlt : j < l
    · obtain ⟨b, off, rfl, hb, hc⟩ := rowI_cell HX.out (show j < ns.length by rw [← HL.out]; exact hlt)
      have c1 := hc j (by rw [← HL.out]; exact hlt)
      obtain ⟨y, hy⟩ : ∃ y, y = ns.getD j 0 := ⟨_, rfl⟩
      rw [← hy] at c1
      have HY : Hid (ns[j]? = some y) := by
        show _ = _
        rw [hy, List.getD_eq_getElem?_getD, List.getElem?_eq_getElem (by rw [← HL.out]; exact hlt)]; rfl
      clear hc hy
      by_cases he : x = y
      · have he' : (x == y) = true := by simp [he]
        have HE : Hid (x = y) := he
        clear he
        go_wp2
        go_ret
        exact ⟨j, rfl, ⟨fun _ => by rw [HE.out]; exact List.mem_of_getElem? HY.out, fun _ => by omega⟩, rfl⟩
      · have he' : (x == y) = false := by simp [he]
        have HE : Hid (¬ x = y) := he
        clear he
        go_wp2
        refine ⟨⟨j + 1, by omega, by go_num, by first | rfl | trivial, fun q hq => ?_⟩, by simp [intOf]; omega⟩
        by_cases hqj : q < j
        · exact HQ.out q hqj
        · obtain rfl : q = j := by omega
          rw [HY.out]
          exact fun h => HE.out (Option.some.inj h).symm
    · obtain rfl : j = l := by omega
      go_wp2
      go_ret
      refine ⟨-1, rfl, ⟨fun h => by omega, fun h => ?_⟩, rfl⟩
      obtain ⟨q, hq⟩ := List.mem_iff_getElem?.1 h
      exact absurd hq (HQ.out q (by have := (List.getElem?_eq_some_iff.1 hq).1; rw [HL.out]; exact this))
theorem contains_F (l cap : Nat) (a : Option Addr) (ns : List Int) (x : Int) (w : World) (hl : l = ns.length) (hl9 : l ≤ 1000000) (hX : RowI w a ns) :
    Calls Tryd.prog 58 #[.slice a l cap, .int .i64 x] w fun e w' => e = .returned (.bool (decide (x ∈ ns))) ∧ w = w' := by
  have HI : Hid _ := index_F l cap a ns x w hl hl9 hX
  clear hl hX
  go_enter Tryd.func58, Tryd.ntmps58
  go_wp2_with fail
  refine Calls.mono HI.out ?_
  rintro e w1 ⟨y, rfl, hy, rfl⟩
  have hd : decide (0 ≤ y) = decide (x ∈ ns) := by simp only [hy]
  have HD : Hid _ := hd
  clear hy hd
  go_wp2
  go_ret
  exact ⟨by rw [← HD.out]; rfl, rfl⟩
set_option maxHeartbeats 1000000 in
theorem haveSize_F (h l cap : Nat) (a : Option Addr) (L : List (List F)) (w : World) (hl : l = L.length) (hl9 : l ≤ 140737488355328) (hX : Rows8 w a L) :
    Calls Tryd.prog 35 #[.int .i64 h, .slice a l cap] w fun e w' => e = .returned (.bool (decide (∀ xs ∈ L, xs.length = h))) ∧ w = w' := by
  have HL : Hid (l = L.length) := hl
  have HX : Hid (Rows8 w a L) := hX
  clear hl hX
  go_enter Tryd.func35, Tryd.ntmps35
  go_wp2
  go_loopw [9] (fun i wr => ∃ j : Nat, j ≤ l ∧ i = .int .i64 j ∧ wr = w ∧ (∀ (q : Nat) (zs : List F), q < j → L[q]? = some zs → zs.length = h)) (fun i _ => l - (intOf i).toNat)
  case atStart => exact ⟨0, by omega, rfl, rfl, fun q _ h => by omega⟩
  case round =>
    obtain ⟨j, hj, rfl, rfl, hq⟩ := hrel
    have HQ : Hid (∀ (q : Nat) (zs : List F), q < j → L[q]? = some zs → zs.length = h) := hq
    clear hq
    by_cases hlt : j < l
    · obtain ⟨zs, hzs⟩ : ∃ zs, L[j]? = some zs := ⟨_, List.getElem?_eq_getElem (by rw [← HL.out]; exact hlt)⟩
      obtain ⟨bR, oR, rfl, hbR, hcR⟩ := rows8_at HX.out (List.getElem?_eq_some_iff.1 hzs).1
      obtain ⟨a', c', e1, _⟩ := hcR j zs hzs
      have HZS : Hid (L[j]? = some zs) := hzs
      clear hzs hcR
      by_cases hz : zs.length = h
      · have hz' : ((zs.length : Int) != (h : Int)) = false := by simp [hz]
        have HZ : Hid (zs.length = h) := hz
        clear hz
        go_wp2
        refine ⟨⟨j + 1, by omega, by go_num, by first | rfl | trivial, fun q ws hq hws => ?_⟩, by simp [intOf]; omega⟩
        by_cases hqi : q < j
        · exact HQ.out q ws hqi hws
        · obtain rfl : q = j := by omega
          rw [HZS.out] at hws
          obtain rfl := Option.some.inj hws
          exact HZ.out
      · have hz' : ((zs.length : Int) != (h : Int)) = true := by simp only [bne_iff_ne, ne_eq]; omega
        have HZ : Hid (¬ zs.length = h) := hz
        clear hz
        go_wp2
        go_ret
        have e9 : decide (∀ xs ∈ L, xs.length = h) = false := decide_eq_false fun h9 => HZ.out (h9 zs (List.mem_of_getElem? HZS.out))
        exact ⟨by rw [e9]; rfl, rfl⟩
    · obtain rfl : j = l := by omega
      go_wp2
      go_ret
      have e9 : decide (∀ xs ∈ L, xs.length = h) = true := decide_eq_true fun xs hx => by
        obtain ⟨q, hq⟩ := List.mem_iff_getElem?.1 hx
        exact HQ.out q xs (by have := (List.getElem?_eq_some_iff.1 hq).1; rw [HL.out]; exact this) hq
      exact ⟨by rw [e9]; rfl, rfl⟩
set_option maxHeartbeats 4000000 in
theorem halvesOf_F (l cap : Nat) (a : Option Addr) (S : List (Int × List F × List F)) (w : World) (hl : l = S.length) (hl9 : l ≤ 16) (h0 : 1 ≤ l) (hS : Sh8 w a S) :
    Calls Tryd.prog 34 #[.slice a l cap] w fun e w' => ∃ a9 c9 l9, e = .returned (.slice a9 l9 c9) ∧ l9 = 2 * l ∧ Rows8 w' a9 (rowsS S) ∧ Below w.heap.size w w' := by
  have HL : Hid (l = S.length) := hl
  have HS : Hid (Sh8 w a S) := hS
  clear hl hS
  go_enter Tryd.func34, Tryd.ntmps34
  go_wp2
  go_loopw [3, 8] (fun q i wr => ∃ j : Nat, ∃ vs : List Value, j ≤ l ∧ i = .int .i64 j ∧ Below w.heap.size w wr ∧ wr.ownsRow w.heap.size 22 1 q (2 * j) vs ∧
    ∀ (i : Nat) (zs : List F), (rowsS (S.take j))[i]? = some zs → ∃ v, vs[i]? = some v ∧ ∃ a' c', v = .slice a' zs.length c' ∧ Row8 w a' zs) (fun _ i _ => l - (intOf i).toNat)
  case atStart => exact ⟨0, [], by omega, rfl, Below.refl _ _, ⟨rfl, .inl ⟨rfl, rfl⟩⟩, fun i zs h => by simp [rowsS] at h⟩
  case round =>
    obtain ⟨j, vs, hj, rfl, hbw, hq, hvs⟩ := hrel
    have HBW : Hid (Below w.heap.size w wr) := hbw
    have HQ : Hid (wr.ownsRow w.heap.size 22 1 u3 (2 * j) vs) := hq
    have HVS : Hid (∀ (i : Nat) (zs : List F), (rowsS (S.take j))[i]? = some zs → ∃ v, vs[i]? = some v ∧ ∃ a' c', v = .slice a' zs.length c' ∧ Row8 w a' zs) := hvs
    clear hbw hq hvs
    by_cases hlt : j < l
    · have hjS : j < S.length := by rw [← HL.out]; exact hlt
      obtain ⟨⟨m, xs, ys⟩, hs⟩ : ∃ s, S[j]? = some s := ⟨_, List.getElem?_eq_getElem hjS⟩
      have HSJ : Hid (rowsS (S.take (j + 1)) = rowsS (S.take j) ++ [xs, ys]) := rowsS_snoc hs
      rcases HS.out with e0 | ⟨bS, oS, eS, hcS⟩
      · rw [e0] at hjS; simp at hjS
      subst eS
      obtain ⟨a1, l1, a2, l2, e1, e2, e3, r1, r2⟩ := hcS j m xs ys hs
      have c1 := cell_later HBW.out e1
      have c2 := cell_later HBW.out e2
      have c3 := cell_later HBW.out e3
      have R1 : Hid (Row8 w a1 xs) := r1
      have R2 : Hid (Row8 w a2 ys) := r2
      have c4 : Hid ((wr.alloc (.cells #[.int .i64 m, .slice a1 xs.length l1, .slice a2 ys.length l2] 38)).heap[wr.heap.size]? = some (.cells #[.int .i64 m, .slice a1 xs.length l1, .slice a2 ys.length l2] 38 (0, 0))) := heap_alloc_last _ _
      have B7 : Hid (Below w.heap.size w (wr.alloc (.cells #[.int .i64 m, .slice a1 xs.length l1, .slice a2 ys.length l2] 38))) := HBW.out.alloc HBW.out.size _
      have Q8 : Hid ((wr.alloc (.cells #[.int .i64 m, .slice a1 xs.length l1, .slice a2 ys.length l2] 38)).ownsRow w.heap.size 22 1 u3 (2 * j) vs) := World.ownsRow.alloc HQ.out _
      clear hs hcS e1 e2 e3 r1 r2
      go_upto_region 5 with fail
      clear c1 c2 c3
      generalize (wr.alloc (.cells #[.int .i64 m, .slice a1 xs.length l1, .slice a2 ys.length l2] 38)) = W7 at *
      generalize wr.heap.size = N at *
      have d1 := cellAt c4.out 1 _ rfl
      have d2 := cellAt c4.out 2 _ rfl
      have hq9 := World.ownsRow.alloc Q8.out (.cells #[.slice a1 xs.length l1, .slice a2 ys.length l2] 22)
      have zz := B7.out.size
      obtain ⟨gQ, capQ, wQ, hrunQ, hqQ, hgrQ, horQ, hltQ⟩ := appendS2 (b := W7.heap.size) (c := 2) (x := .slice a1 xs.length l1) (y := .slice a2 ys.length l2) 25 hq9 (cellAt (heap_alloc_last W7 _) 0 _ rfl) (cellAt (heap_alloc_last W7 _) 1 _ rfl) rfl rfl (by omega) (by simp; omega)
      have hbQ := below_own (B := w.heap.size) (B7.out.alloc B7.out.size (.cells #[.slice a1 xs.length l1, .slice a2 ys.length l2] 22)) hq9 hgrQ (by simp; omega)
      have HRQ : Hid _ := hrunQ
      have HBQ : Hid (Below w.heap.size w wQ) := hbQ
      have HQQ : Hid (wQ.ownsRow w.heap.size 22 1 (.slice (some ⟨gQ, 0, none⟩) (2 * j + 2) capQ) (2 * j + 2) (vs ++ [.slice a1 xs.length l1, .slice a2 ys.length l2])) := hqQ
      have hvl : vs.length = (rowsS (S.take j)).length := by
        have h1 := HQ.out.1
        rw [rowsS_len, List.length_take]; omega
      have HV2 : Hid (∀ (i : Nat) (zs : List F), (rowsS (S.take (j + 1)))[i]? = some zs → ∃ v, (vs ++ [.slice a1 xs.length l1, .slice a2 ys.length l2])[i]? = some v ∧ ∃ a' c', v = .slice a' zs.length c' ∧ Row8 w a' zs) := by
        show ∀ (i : Nat) (zs : List F), _
        rw [HSJ.out]
        exact pairs_snoc (P := fun zs v => ∃ a' c', v = .slice a' zs.length c' ∧ Row8 w a' zs) hvl HVS.out ⟨a1, l1, rfl, R1.out⟩ ⟨a2, l2, rfl, R2.out⟩
      clear hq9 zz hrunQ hqQ hgrQ horQ hltQ hbQ hvl
      go_wp2_with (at_builtin; refine wpList_append_run rfl _ _ 25 rfl _ _ _ _ rfl rfl HRQ.out ?_)
      exact ⟨⟨j + 1, _, by omega, by go_num, HBQ.out, HQQ.out, HV2.out⟩, by simp [intOf]; omega⟩
    · obtain rfl : j = l := by omega
      have hR : ∃ a9 c9, u3 = .slice a9 (2 * j) c9 ∧ Rows8 wr a9 (rowsS S) := by
        have hvs := HVS.out
        rw [List.take_of_length_le (by rw [← HL.out]; exact Nat.le_refl _)] at hvs
        rcases HQ.out.2 with ⟨e, e0⟩ | ⟨g, cap, cur, e, hg⟩
        · omega
        · refine ⟨some ⟨g, 0, none⟩, cap, e, .inr ⟨g, 0, rfl, fun i zs hi => ?_⟩⟩
          obtain ⟨v, hv, a', c', rfl, hr⟩ := hvs i zs hi
          have hil : i < 2 * j := by
            have := (List.getElem?_eq_some_iff.1 hi).1
            rw [rowsS_len, ← HL.out] at this; exact this
          have hoe := HQ.out
          rw [e] at hoe
          refine ⟨a', c', ?_, row8_below hr HBW.out⟩
          rw [Nat.zero_add, hoe.cellAt i (by rw [Nat.mul_one]; exact hil)]
          exact hv
      obtain ⟨a9, c9, rfl, hR9⟩ := hR
      have HR9 : Hid (Rows8 wr a9 (rowsS S)) := hR9
      clear HQ HVS hR9
      go_wp2
      go_ret
      exact ⟨a9, c9, _, rfl, rfl, HR9.out, HBW.out⟩
end Go.Proofs.YtmlpijlcpeoeaaaDoor

/- What numbersOf of package code answers, of all shards: the numbers of their halves, or ErrHalf. -/
namespace Go.Proofs.YtmlpijlcpeoeaaaDoor
open Go.RowKit Gf
set_option linter.unusedVariables false
set_option maxRecDepth 20000
/-- shards whose numbers are in range and apart -/
def GoodT (k r : Nat) (T : List (Int × List F × List F)) : Prop := (∀ s ∈ T, 0 ≤ s.1 ∧ s.1 < k + r) ∧ (T.map fun s => s.1).Nodup
/-- their numbers -/
def numT (T : List (Int × List F × List F)) : List Nat := T.map fun s => s.1.toNat
theorem numT_len (T : List (Int × List F × List F)) : (numT T).length = T.length := by simp [numT]
theorem numT_mem {k r : Nat} {T : List (Int × List F × List F)} {m : Int} (h : GoodT k r T) (hm : 0 ≤ m) : m.toNat ∈ numT T ↔ m ∈ T.map fun s => s.1 := by
  simp only [numT, List.mem_map]
  refine ⟨fun ⟨s, hs, e⟩ => ⟨s, hs, ?_⟩, fun ⟨s, hs, e⟩ => ⟨s, hs, by rw [e]⟩⟩
  have := (h.1 s hs).1
  omega
theorem good_nil (k r : Nat) : GoodT k r [] := ⟨by simp, by simp⟩
theorem good_snoc {k r : Nat} {T : List (Int × List F × List F)} {s : Int × List F × List F} (h : GoodT k r T) (h0 : 0 ≤ s.1) (h1 : s.1 < k + r) (hn : s.1.toNat ∉ numT T) : GoodT k r (T ++ [s]) := by
  refine ⟨fun t ht => ?_, ?_⟩
  · rcases List.mem_append.1 ht with ht | ht
    · exact h.1 t ht
    · obtain rfl := List.mem_singleton.1 ht
      exact ⟨h0, h1⟩
  · rw [List.map_append, List.nodup_append]
    refine ⟨h.2, by simp, fun x hx y hy e => ?_⟩
    simp only [List.map_cons, List.map_nil, List.mem_singleton] at hy
    subst hy
    subst e
    exact hn ((numT_mem h h0).2 hx)
theorem good_take {k r j : Nat} {S : List (Int × List F × List F)} (h : GoodT k r S) : GoodT k r (S.take j) :=
  ⟨fun s hs => h.1 s (List.mem_of_mem_take hs), (List.Sublist.map _ (List.take_sublist j S)).nodup h.2⟩
theorem good_dup {k r j : Nat} {S : List (Int × List F × List F)} {s : Int × List F × List F} (hs : S[j]? = some s) (h0 : 0 ≤ s.1) (hT : GoodT k r (S.take j)) (hd : s.1.toNat ∈ numT (S.take j)) : ¬ GoodT k r S := fun h => by
  have h1 := (good_take (j := j + 1) h).2
  rw [List.take_add_one, hs, Option.toList_some, List.map_append, List.nodup_append] at h1
  exact h1.2.2 _ ((numT_mem hT h0).1 hd) s.1 (by simp) rfl
theorem good_range {k r j : Nat} {S : List (Int × List F × List F)} {s : Int × List F × List F} (hs : S[j]? = some s) (hr : ¬ (0 ≤ s.1 ∧ s.1 < k + r)) : ¬ GoodT k r S := fun h => hr (h.1 s (List.mem_of_getElem? hs))
theorem good_nums {k r : Nat} {S : List (Int × List F × List F)} (h : GoodT k r S) : (∀ j s, S[j]? = some s → s.1 = (((numT S).getD j 0 : Nat) : Int)) ∧ (∀ x ∈ numT S, x < k + r) ∧ (numT S).Nodup := by
  refine ⟨fun j s hs => ?_, fun x hx => ?_, ?_⟩
  · have := (h.1 s (List.mem_of_getElem? hs)).1
    simp only [numT, List.getD_eq_getElem?_getD, List.getElem?_map, hs, Option.map_some, Option.getD_some]
    omega
  · simp only [numT, List.mem_map] at hx
    obtain ⟨s, hs, rfl⟩ := hx
    have := h.1 s hs
    omega
  · have : ∀ T : List (Int × List F × List F), GoodT k r T → (numT T).Nodup := by
      intro T
      induction T with
      | nil => intro _; simp [numT]
      | cons t T ih =>
        intro h
        have hT : GoodT k r T := ⟨fun s hs => h.1 s (List.mem_cons_of_mem _ hs), by have := h.2; rw [List.map_cons, List.nodup_cons] at this; exact this.2⟩
        rw [numT, List.map_cons, List.nodup_cons]
        refine ⟨fun hm => ?_, ih hT⟩
        have h2 := h.2
        rw [List.map_cons, List.nodup_cons] at h2
        exact h2.1 ((numT_mem hT (h.1 t (List.mem_cons_self ..)).1).1 hm)
    exact this S h
/-- the numbers with p halves of shard s behind -/
def bothN (L : List Nat) (s p : Nat) : List Nat := bothH L ++ (List.range p).map fun q => 2 * s + q
theorem bothN_zero (L : List Nat) (s : Nat) : bothN L s 0 = bothH L := by simp [bothN]
theorem bothN_two (L : List Nat) (s : Nat) : bothN L s 2 = bothH (L ++ [s]) := by simp [bothN, bothH, List.range_succ]
theorem bothN_snoc (L : List Nat) (s p : Nat) : bothN L s p ++ [2 * s + p] = bothN L s (p + 1) := by simp [bothN, List.range_succ]
theorem bothN_len (L : List Nat) (s p : Nat) : (bothN L s p).length = 2 * L.length + p := by simp [bothN, bothH_len]
theorem bothN_mem {L : List Nat} {s p : Nat} (hp : p < 2) : 2 * s + p ∈ bothN L s p ↔ s ∈ L := by
  simp only [bothN, bothH, List.mem_append, List.mem_flatMap, List.mem_map, List.mem_range, List.mem_cons, List.not_mem_nil, or_false]
  constructor
  · rintro (⟨x, hx, h | h⟩ | ⟨q, hq, h⟩)
    · obtain rfl : x = s := by omega
      exact hx
    · obtain rfl : x = s := by omega
      exact hx
    · omega
  · exact fun h => .inl ⟨s, h, by omega⟩
theorem castL_mem {L : List Nat} {x : Nat} : ((x : Nat) : Int) ∈ castL L ↔ x ∈ L := by
  simp only [castL, List.mem_map]
  exact ⟨fun ⟨y, hy, e⟩ => by obtain rfl : y = x := by omega
                              exact hy, fun h => ⟨x, h, rfl⟩⟩
set_option maxHeartbeats 4000000 in
theorem numbersOf_F (k r l cap : Nat) (a : Option Addr) (S : List (Int × List F × List F)) (w : World) (s0 : Addr) (hs0 : w.cell? ⟨4, 0, none⟩ = some (errAt s0)) (h1 : 1 ≤ k) (h2 : 2 ≤ r) (h3 : k + r ≤ 16) (hl : l = S.length) (hl9 : l ≤ 140737488355328) (hS : Sh8 w a S) :
    Calls Tryd.prog 33 #[.int .i64 k, .int .i64 r, .slice a l cap] w fun e w' =>
      (l = k ∧ GoodT k r S ∧ (∃ a8 c8, e = .returned (.tuple #[.slice a8 (2 * k) c8, .nilIface]) ∧ RowI w' a8 (castL (bothH (numT S))) ∧ Below w.heap.size w w')) ∨
      (¬ (l = k ∧ GoodT k r S) ∧ e = .returned (.tuple #[.slice none 0 0, errAt s0]) ∧ Below w.heap.size w w') := by
  have hlt0 := World.block_lt_of_cell? w _ hs0
  simp at hlt0
  have HS0 : Hid _ := hs0
  have HL : Hid (l = S.length) := hl
  have HS : Hid (Sh8 w a S) := hS
  clear hl hS hs0
  unfold errAt at *
  by_cases hlk : l = k
  · have hlk' : ((l : Int) != (k : Int)) = false := by simp [hlk]
    have HLK : Hid (l = k) := hlk
    have hl16 : l ≤ 14 := by omega
    clear hlk hl9
    go_enter Tryd.func33, Tryd.ntmps33
    go_wp2
    go_loopw [8, 21] (fun p i wr => ∃ j : Nat, j ≤ l ∧ i = .int .i64 j ∧ Below w.heap.size w wr ∧ GoodT k r (S.take j) ∧ wr.ownsRow w.heap.size 3 1 p (2 * j) (nvs (bothH (numT (S.take j))))) (fun _ i _ => l - (intOf i).toNat)
    case atStart => exact ⟨0, by omega, rfl, Below.refl _ _, by simpa using good_nil k r, ⟨rfl, .inl ⟨rfl, rfl⟩⟩⟩
    case round =>
      obtain ⟨j, hj, rfl, hbw, hgd, hp⟩ := hrel
      have HBW : Hid (Below w.heap.size w wr) := hbw
      have HGD : Hid (GoodT k r (S.take j)) := hgd
      have HP : Hid (wr.ownsRow w.heap.size 3 1 u8 (2 * j) (nvs (bothH (numT (S.take j))))) := hp
      clear hbw hgd hp
      by_cases hlt : j < l
      · have hjS : j < S.length := by rw [← HL.out]; exact hlt
        obtain ⟨⟨m, xs, ys⟩, hs⟩ : ∃ s, S[j]? = some s := ⟨_, List.getElem?_eq_getElem hjS⟩
        rcases HS.out with e0 | ⟨bS, oS, eS, hcS⟩
        · rw [e0] at hjS; simp at hjS
        subst eS
        obtain ⟨a1, l1, a2, l2, e1, e2, e3, r1, r2⟩ := hcS j m xs ys hs
        have c1 := cell_later HBW.out e1
        have c2 := cell_later HBW.out e2
        have c3 := cell_later HBW.out e3
        have HSJ : Hid (S[j]? = some (m, xs, ys)) := hs
        clear hs hcS e1 e2 e3 r1 r2
        have c4 : Hid ((wr.alloc (.cells #[.int .i64 m, .slice a1 xs.length l1, .slice a2 ys.length l2] 38)).heap[wr.heap.size]? = some (.cells #[.int .i64 m, .slice a1 xs.length l1, .slice a2 ys.length l2] 38 (0, 0))) := heap_alloc_last _ _
        have B7 : Hid (Below w.heap.size w (wr.alloc (.cells #[.int .i64 m, .slice a1 xs.length l1, .slice a2 ys.length l2] 38))) := HBW.out.alloc HBW.out.size _
        have P7 : Hid ((wr.alloc (.cells #[.int .i64 m, .slice a1 xs.length l1, .slice a2 ys.length l2] 38)).ownsRow w.heap.size 3 1 u8 (2 * j) (nvs (bothH (numT (S.take j))))) := World.ownsRow.alloc HP.out _
        have hN0 : w.heap.size ≤ wr.heap.size := HBW.out.size
        go_wp2
        clear c1 c2 c3 HP HBW
        generalize (wr.alloc (.cells #[.int .i64 m, .slice a1 xs.length l1, .slice a2 ys.length l2] 38)) = W7 at *
        generalize wr.heap.size = N at *
        generalize hwo : wr = wo at *
        clear hwo
        go_loopw [8, 25] (fun q i wq => ∃ p : Nat, p ≤ 2 ∧ i = .int .i64 p ∧ Below w.heap.size w wq ∧ wq.ownsRow w.heap.size 3 1 q (2 * j + p) (nvs (bothN (numT (S.take j)) m.toNat p)) ∧ wq.heap[N]? = some (.cells #[.int .i64 m, .slice a1 xs.length l1, .slice a2 ys.length l2] 38 (0, 0)) ∧
          (p = 0 ∨ (0 ≤ m ∧ m < k + r) ∧ m.toNat ∉ numT (S.take j))) (fun _ i _ => 2 - (intOf i).toNat)
        case atStart => exact ⟨0, by omega, rfl, B7.out, by rw [bothN_zero]; exact P7.out, c4.out, .inl rfl⟩
        case round =>
          obtain ⟨p, hp2, rfl, hbw, hq, hN, hok⟩ := hrel
          have HBW : Hid (Below w.heap.size w wr) := hbw
          have HQ : Hid (wr.ownsRow w.heap.size 3 1 u8 (2 * j + p) (nvs (bothN (numT (S.take j)) m.toNat p))) := hq
          have HN : Hid (wr.heap[N]? = some (.cells #[.int .i64 m, .slice a1 xs.length l1, .slice a2 ys.length l2] 38 (0, 0))) := hN
          have HOK : Hid (p = 0 ∨ (0 ≤ m ∧ m < k + r) ∧ m.toNat ∉ numT (S.take j)) := hok
          have d0 := cellAt hN 0 _ rfl
          clear hbw hN hok
          by_cases hpl : p < 2
          · have hpi : (p : Int) < 2 := by omega
            obtain ⟨a5, c5, e5, hr5, hl5, _⟩ := ownI_slice hq
            clear hq
            subst e5
            have HR5 : Hid (RowI wr a5 (castL (bothN (numT (S.take j)) m.toNat p))) := hr5
            have hl5' : 2 * j + p = (bothN (numT (S.take j)) m.toNat p).length := hl5
            have HL5 : Hid (2 * j + p = (bothN (numT (S.take j)) m.toNat p).length) := hl5'
            clear hl5 hl5' hr5
            by_cases hin : 0 ≤ m ∧ m < k + r
            · obtain ⟨x, rfl⟩ := Int.eq_ofNat_of_zero_le hin.1
              have hx : x < k + r := by omega
              clear hin
              rw [Int.toNat_natCast] at HQ HR5 HL5 HOK
              obtain ⟨y, hy⟩ : ∃ y, y = 2 * x + p := ⟨_, rfl⟩
              have HOF : Hid _ := fun u => hof_ok k r x p u h1 h2 h3 hx hpl
              rw [← hy] at HOF
              have HY : Hid (y = 2 * x + p) := hy
              have hy9 : y ≤ 100 := by omega
              clear hy
              go_wp2_with fail
              refine Calls.mono (HOF.out _) ?_
              rintro e w4 ⟨rfl, hb4⟩
              have HB4 : Hid (Below w.heap.size w w4) := HBW.out.trans (hb4.mono HBW.out.size)
              have HQ4 : Hid (w4.ownsRow w.heap.size 3 1 (.slice a5 (2 * j + p) c5) (2 * j + p) (nvs (bothN (numT (S.take j)) x p))) := own_below HQ.out hb4
              have HN4 : Hid (w4.heap[N]? = some (.cells #[.int .i64 x, .slice a1 xs.length l1, .slice a2 ys.length l2] 38 (0, 0))) := heap_later HN.out hb4
              have HR4 : Hid (RowI w4 a5 (castL (bothN (numT (S.take j)) x p))) := rowI_below HR5.out hb4
              clear hb4 d0 HQ HN HR5 HBW
              go_wp2_with fail
              refine Calls.mono (contains_F (2 * j + p) c5 a5 (castL (bothN (numT (S.take j)) x p)) y _ (by rw [castL_len]; exact HL5.out) (by omega) HR4.out) ?_
              rintro e w5 ⟨rfl, rfl⟩
              by_cases hd : x ∈ numT (S.take j)
              · have e9 : decide ((y : Int) ∈ castL (bothN (numT (S.take j)) x p)) = true := decide_eq_true (castL_mem.2 (by rw [HY.out]; exact (bothN_mem hpl).2 hd))
                rw [e9]
                have HD : Hid (x ∈ numT (S.take j)) := hd
                clear hd e9
                have c9 := (HB4.out.cell (p := ⟨4, 0, none⟩) hlt0).trans HS0.out
                go_wp2_with fail
                go_region
                go_wp2
                go_ret2
                exact .inr ⟨fun h => good_dup HSJ.out (by show (0 : Int) ≤ (x : Int); omega) HGD.out (by show (x : Int).toNat ∈ _; rw [Int.toNat_natCast]; exact HD.out) h.2, rfl, HB4.out.drew⟩
              · have e9 : decide ((y : Int) ∈ castL (bothN (numT (S.take j)) x p)) = false := decide_eq_false fun h => hd (by rw [HY.out] at h; exact (bothN_mem hpl).1 (castL_mem.1 h))
                rw [e9]
                have HD : Hid (x ∉ numT (S.take j)) := hd
                clear hd e9
                have ho4 := World.ownsRow.alloc HQ4.out (.cells #[.int .i64 y] 3)
                have zz := HB4.out.size
                obtain ⟨gQ, capQ, wQ, hrunQ, hqQ, hgrQ, horQ, hltQ⟩ := appendI (b := w4.heap.size) (c := 1) (x := (y : Int)) 54 ho4 (cellAt (heap_alloc_last w4 _) 0 _ rfl) (by omega) (by simp; omega)
                rw [nvs_snoc] at hqQ
                have hbQ := below_own (B := w.heap.size) (HB4.out.alloc HB4.out.size (.cells #[.int .i64 y] 3)) ho4 hgrQ (by simp; omega)
                have HRQ : Hid _ := hrunQ
                have HBQ : Hid (Below w.heap.size w wQ) := hbQ
                have HQQ : Hid (wQ.ownsRow w.heap.size 3 1 (.slice (some ⟨gQ, 0, none⟩) (2 * j + p + 1) capQ) (2 * j + p + 1) (nvs (bothN (numT (S.take j)) x (p + 1)))) := by
                  rw [HY.out, bothN_snoc] at hqQ; exact hqQ
                have HNQ : Hid (wQ.heap[N]? = some (.cells #[.int .i64 x, .slice a1 xs.length l1, .slice a2 ys.length l2] 38 (0, 0))) := own_other ho4 hgrQ ((Below.heap_alloc _ _ _ (ltHeap HN4.out)).trans HN4.out) (by decide)
                clear ho4 zz hrunQ hqQ hgrQ horQ hltQ hbQ
                go_wp2_with (at_builtin; refine wpList_append_run rfl _ _ 54 rfl _ _ _ _ rfl rfl HRQ.out ?_)
                exact ⟨⟨p + 1, by omega, by go_num, HBQ.out, by rw [Int.toNat_natCast]; exact HQQ.out, HNQ.out, .inr ⟨⟨by omega, by omega⟩, by rw [Int.toNat_natCast]; exact HD.out⟩⟩, by simp [intOf]; omega⟩
            · have HIN : Hid (¬ (0 ≤ m ∧ m < k + r)) := hin
              have c9 := (HBW.out.cell (p := ⟨4, 0, none⟩) hlt0).trans HS0.out
              have HOF : Hid _ := hof_no k r m p wr s0 c9 h1 h2 h3 (fun h => HIN.out h.1)
              unfold errAt at HOF
              clear hin c9
              go_wp2_with fail
              refine Calls.mono HOF.out ?_
              rintro e w4 ⟨rfl, hb4⟩
              have HB4 : Hid (Below w.heap.size w w4) := HBW.out.trans (hb4.mono HBW.out.size)
              clear hb4 d0
              go_wp2_with fail
              go_ret2
              exact .inr ⟨fun h => good_range HSJ.out HIN.out h.2, rfl, HB4.out⟩
          · obtain rfl : p = 2 := by omega
            have hok := HOK.out
            rcases hok with hok | ⟨hin, hnd⟩
            · omega
            have HT : Hid (S.take (j + 1) = S.take j ++ [(m, xs, ys)]) := by
              show _ = _
              rw [List.take_add_one, HSJ.out]; rfl
            have HG2 : Hid (GoodT k r (S.take (j + 1))) := by
              show GoodT k r _
              rw [HT.out]; exact good_snoc HGD.out hin.1 hin.2 hnd
            have HP2 : Hid (wr.ownsRow w.heap.size 3 1 u8 (2 * j + 2) (nvs (bothH (numT (S.take (j + 1)))))) := by
              show World.ownsRow ..
              have e9 : numT (S.take (j + 1)) = numT (S.take j) ++ [m.toNat] := by rw [HT.out]; simp [numT]
              rw [e9, ← bothN_two]; exact HQ.out
            clear hq hin hnd d0
            go_wp2
            exact ⟨⟨j + 1, by omega, by go_num, HBW.out, HG2.out, HP2.out⟩, by simp [intOf]; omega⟩
      · obtain rfl : j = l := by omega
        have hp := HP.out
        have hgd := HGD.out
        rw [List.take_of_length_le (by rw [← HL.out]; exact Nat.le_refl _)] at hp hgd
        obtain ⟨a5, c5, e5, hr5, hl5, _⟩ := ownI_slice hp
        subst e5
        have HR5 : Hid _ := hr5
        have HG5 : Hid _ := hgd
        clear hp hgd hr5 hl5 HP
        go_wp2
        go_ret2
        exact .inl ⟨HLK.out, HG5.out, a5, c5, by rw [HLK.out]; rfl, HR5.out, HBW.out⟩
  · have hlk' : ((l : Int) != (k : Int)) = true := by simp only [bne_iff_ne, ne_eq]; omega
    have HLK : Hid (¬ l = k) := hlk
    have c9 := HS0.out
    clear hlk
    go_enter Tryd.func33, Tryd.ntmps33
    go_wp2
    go_region
    go_wp2
    go_ret2
    exact .inr ⟨fun h => HLK.out h.1, rfl, (Below.refl _ _).drew⟩
end Go.Proofs.YtmlpijlcpeoeaaaDoor

/- The walk of HalfCarries: at all numbers. -/
namespace Go.Proofs.YtmlpijlcpeoeaaaDoor
open Go.RowKit Gf
set_option linter.unusedVariables false
set_option maxRecDepth 20000
def gsHalf : List Nat := [0, 2, 4, 11]
/-- so many data shards do the first parities carry -/
def carS (k g i : Nat) : Nat := ((List.range i).map fun x => (carL k g x).length).sum
theorem carS_succ (k g i : Nat) : carS k g (i + 1) = carS k g i + (carL k g i).length := by simp [carS, List.range_succ]
theorem carS_all : ∀ k < 15, ∀ r < 17, 1 ≤ k → 2 ≤ r → k + r ≤ 16 → carS k (groupN k r) r = k := by decide +kernel
theorem carL_le1 : ∀ k < 15, ∀ r < 17, (1 ≤ k ∧ 2 ≤ r ∧ k + r ≤ 16) → ∀ i < r, (carL k (groupN k r) i).length ≤ groupN k r := by decide +kernel
theorem carS_le : ∀ k < 15, ∀ r < 17, (1 ≤ k ∧ 2 ≤ r ∧ k + r ≤ 16) → ∀ i < r, carS k (groupN k r) i ≤ 16 := by decide +kernel
theorem carL_zero (k g : Nat) : (carL k g 0).length = 0 := by
  rw [List.length_eq_zero_iff, carL, pickB, List.filter_eq_nil_iff]
  intro x _
  simp [carN]
theorem carL_at {k g i q x : Nat} (h : (carL k g i)[q]? = some x) : x < k ∧ carN g x = i := by
  have hm : x ∈ carL k g i := List.mem_of_getElem? h
  rw [carL, pickB, List.mem_filter] at hm
  exact ⟨List.mem_range.1 hm.1, of_decide_eq_true hm.2⟩
theorem carL_up {k g i q x y : Nat} (h : (carL k g i)[q]? = some y) (h2 : (carL k g i)[q + 1]? = some x) : y < x := by
  have hp := pickB_sorted (fun x => decide (carN g x = i)) k
  obtain ⟨a1, a2⟩ := List.getElem?_eq_some_iff.1 h
  obtain ⟨b1, b2⟩ := List.getElem?_eq_some_iff.1 h2
  have := List.pairwise_iff_getElem.1 hp q (q + 1) a1 b1 (by omega)
  rw [← a2, ← b2]; exact this
theorem castL_at {L : List Nat} {q x : Nat} (h : L[q]? = some x) : (castL L)[q]? = some (x : Int) := by simp [castL, h]
end Go.Proofs.YtmlpijlcpeoeaaaDoor

/- The walk of HalfAnyShards: at all numbers and picks. -/
namespace Go.Proofs.YtmlpijlcpeoeaaaDoor
open Go.RowKit Gf
set_option linter.unusedVariables false
set_option maxRecDepth 20000
theorem news_both {w : World} {b : Nat} {x y : Value} (hx : w.cell? ⟨b, 0, none⟩ = some x) (hy : w.cell? ⟨b, 1, none⟩ = some y) : ∀ j u, [x, y][j]? = some u → w.cell? ((⟨b, 0, none⟩ : Addr).add j) = some u := by
  intro j u h
  match j, h with
  | 0, h => obtain rfl := Option.some.inj h; simpa [Addr.add] using hx
  | 1, h => obtain rfl := Option.some.inj h; simpa [Addr.add] using hy
/-- two numbers more behind a list of numbers of one's own -/
theorem appendTwo {w : World} {B n b c : Nat} {v : Value} {x y : Int} {xs : List Value} (ty : TypeId) (ho : w.ownsRow B 3 1 v n xs) (hx : w.cell? ⟨b, 0, none⟩ = some (.int .i64 x)) (hy : w.cell? ⟨b, 1, none⟩ = some (.int .i64 y)) (hn : n ≤ 1000000) (hB : B ≤ w.heap.size) :
    ∃ g cap w', (Builtin.append_ #[54, 54] ty #[v, .slice (some ⟨b, 0, none⟩) 2 c]).run Tryd.prog w = .ok (.slice (some ⟨g, 0, none⟩) (n + 2) cap) w' ∧
      w'.ownsRow B 3 1 (.slice (some ⟨g, 0, none⟩) (n + 2) cap) (n + 2) (xs ++ [.int .i64 x, .int .i64 y]) ∧ w.grownBy w' v.ownBlock ∧ (v.ownBlock = some g ∨ g = w.heap.size) ∧ g < w'.heap.size := by
  obtain ⟨i, hi, h2, h3, h4⟩ := infoI
  exact run_append_lies (P := Tryd.prog) w 54 ty B 3 i _ 1 8 Tryd.underlying54 hi h4 h2 h3 rfl (by decide) v n xs ho ⟨b, 0, none⟩ 2 c [.int .i64 x, .int .i64 y] rfl (news_both hx hy) (by simp [Value.oneCell']) (by decide) (by simp only [maxLen]; omega) (by omega) hB _ rfl
/-- which shards have been picked -/
def memB (L : List Nat) : Nat → Bool := fun x => decide (x ∈ L)
theorem memB_up (L : List Nat) (s : Nat) : upB (memB L) s = memB (L ++ [s]) := by
  funext x
  simp only [upB, memB, List.mem_append, List.mem_singleton, Bool.decide_or]
theorem memB_no {L : List Nat} {s : Nat} (h : ¬ s ∈ L) : memB L s = false := decide_eq_false h
theorem memB_yes {L : List Nat} {s : Nat} (h : s ∈ L) : memB L s = true := decide_eq_true h
theorem bothH_snoc (L : List Nat) (s : Nat) : bothH (L ++ [s]) = bothH L ++ [2 * s, 2 * s + 1] := by simp [bothH]
theorem bothH_lt {L : List Nat} {n : Nat} (h : ∀ x ∈ L, x < n) : ∀ x ∈ bothH L, x < 2 * n := fun x hx => by
  simp only [bothH, List.mem_flatMap, List.mem_cons, List.not_mem_nil, or_false] at hx
  obtain ⟨s, hs, rfl | rfl⟩ := hx
  · have := h s hs; omega
  · have := h s hs; omega
theorem nvs_two (L : List Nat) (s : Nat) : nvs (bothH L) ++ [.int .i64 (2 * s : Nat), .int .i64 (2 * s + 1 : Nat)] = nvs (bothH (L ++ [s])) := by
  rw [bothH_snoc]
  simp [nvs]
theorem all_in {L : List Nat} {n k : Nat} (hd : L.Nodup) (hlt : ∀ x ∈ L, x < n) (hall : ∀ x, x < n → x ∈ L) (hk : k < n) (hl : L.length ≤ k) : False := by
  have hp : (List.range n).Perm L := (List.perm_ext_iff_of_nodup List.nodup_range hd).2 fun x => ⟨fun h => hall x (List.mem_range.1 h), fun h => List.mem_range.2 (hlt x h)⟩
  have := hp.length_eq
  simp at this; omega
theorem hown_other {w : World} {B g i n : Nat} {v x : Value} {e t : TypeId} {s : Nat} {xs : List Value} {cs : Array Value} {fr : Nat × Nat} (h : w.ownsRow B e s v n xs) (hk : w.heap[g]? = some (.cells cs t fr)) (hne : t ≠ e) : (w.setCell ⟨g, i, none⟩ x).ownsRow B e s v n xs :=
  ⟨h.1, h.2.imp id fun ⟨g2, cap, cur, h1, h2, h3, h4⟩ => ⟨g2, cap, cur, h1, h2, (heap_setCell_other _ _ _ _ (by
    show g2 ≠ g
    intro e9
    subst e9
    rw [hk] at h3
    cases h3
    exact hne rfl)).trans h3, h4⟩⟩
theorem htakeM_grid {k n : Nat} {xs : List F} {A : Nat → Nat → F} {L : List Nat} (hn : ∀ x ∈ L, x < n) (hx : xs = grid k A n) : (takeM k xs (castL L)).flatten = grid k (fun i j => A (L.getD i 0) j) L.length := by
  subst hx
  rw [grid_flat k (fun i j => A (L.getD i 0) j)]
  congr 1
  apply List.ext_getElem
  · simp [takeM, castL]
  · intro i h1 h2
    have hi : i < L.length := by simpa [takeM, castL] using h1
    have e : L.getD i 0 = L[i] := by simp [List.getD, hi]
    simp only [takeM, castL, List.getElem_map, List.getElem_range, Int.toNat_natCast]
    rw [rowAt_grid (hn _ (List.getElem_mem hi)), e]
theorem half_take {k r : Nat} {L : List Nat} (hd : L.Nodup) (hl : L.length = k) (hn : ∀ x ∈ L, x < k + r) (h3 : k + r ≤ 16) :
    (pivL (cellF (2 * k) (takeM (2 * k) (halfM k r) (castL (bothH L))).flatten) (2 * k) (2 * k)).length = 2 * k := by
  rw [htakeM_grid (xs := halfM k r) (A := halfF k (carN (groupN k r))) (bothH_lt hn) rfl, pivL_congr (B := fun i j => halfF k (carN (groupN k r)) ((bothH L).getD i 0) j) (fun i hi j hj => by
    rw [bothH_len, hl]; exact at8_grid hi hj)]
  exact half_rank hd hl hn (by omega)
theorem htake_yes (r c l cap ln cn : Nat) (a an : Option Addr) (xs : List F) (ns : List Int) (w : World) (hr : r ≤ 64) (hc : c ≤ 64) (hl : l = r * c) (hx : xs.length = r * c) (hcap : l ≤ cap) (hX : Row8 w a xs) (hnil : a = none → cap = 0)
    (hln : ln = ns.length) (hn : ln ≤ 64) (hN : RowI w an ns) (s : Addr) (hs : w.cell? ⟨11, 0, none⟩ = some (errAt s)) (hall : ∀ n ∈ ns, 0 ≤ n ∧ n < r) :
    Calls Tryd.prog 59 #[.agg #[.int .i64 r, .int .i64 c, .slice a l cap], .slice an ln cn] w fun e w' =>
      ∃ g m, e = .returned (.tuple #[.agg #[.int .i64 ln, .int .i64 c, .slice (some ⟨g, 0, none⟩) m m], .nilIface]) ∧ m = ln * c ∧ w.heap.size ≤ g ∧
        w'.heap[g]? = some (.cells (vfs (takeM c xs ns).flatten) 5 (0, 0)) ∧ Below w.heap.size w w' :=
  (take_F r c l cap ln cn a an xs ns w hr hc hl hx hcap hX hnil hln hn hN s hs).mono fun e w' h => h.elim (fun h => h.2) (fun h => absurd hall h.1)
end Go.Proofs.YtmlpijlcpeoeaaaDoor

/- What Solve answers of lists of another length, and what Express answers. -/
namespace Go.Proofs.YtmlpijlcpeoeaaaDoor
open Go.RowKit Gf
set_option linter.unusedVariables false
set_option maxRecDepth 20000
theorem SolOf.congr {A B : Mt} {r c : Nat} {v x : Nat → F} (h : SolOf A r c v x) (e : ∀ i, i < r → ∀ j, j < c → A i j = B i j) : SolOf B r c v x :=
  ⟨fun i hi => (h.sol i hi).trans (sumF_congr fun l hl => by rw [e i hi l hl]), fun l hl hn => h.off l hl (by rw [pivL_congr e]; exact hn)⟩
theorem Dep.congr {A B : Mt} {n c : Nat} {b : Nat → F} (h : Dep A n c b) (e : ∀ i, i < n → ∀ j, j < c → A i j = B i j) : Dep B n c b := by
  obtain ⟨x, hx⟩ := h
  exact ⟨x, fun i hi => (hx i hi).trans (sumF_congr fun l hl => by rw [e i hi l hl])⟩
/-- the answer of Solve or Express where the arguments don't fit -/
def noSol (s : Addr) : Value := .tuple #[.slice none 0 0, .bool false, errAt s]
theorem FormOk.nat {r c : Int} {l : Nat} (h : FormOk r c l) : ∃ r' c' : Nat, r = r' ∧ c = c' ∧ r' ≤ 64 ∧ c' ≤ 64 ∧ l = r' * c' := by
  obtain ⟨h0, h1, h2, h3, h4⟩ := h
  obtain ⟨r', rfl⟩ := Int.eq_ofNat_of_zero_le h0
  obtain ⟨c', rfl⟩ := Int.eq_ofNat_of_zero_le h2
  exact ⟨r', c', rfl, rfl, by omega, by omega, by exact_mod_cast h4⟩
end Go.Proofs.YtmlpijlcpeoeaaaDoor

/- What Inverse of package solve answers, of all matrices. -/
namespace Go.Proofs.YtmlpijlcpeoeaaaDoor
open Go.RowKit Gf
set_option linter.unusedVariables false
set_option maxRecDepth 20000
def slX (n : Nat) (g : Nat → Value) : Array Value := ((List.range n).map g).toArray
theorem slX_size (n : Nat) (g : Nat → Value) : (slX n g).size = n := by simp [slX]
theorem slX_at {n k : Nat} {g : Nat → Value} (h : k < n) : (slX n g)[k]? = some (g k) := by simp [slX, h]
theorem slX_set {n k : Nat} {g : Nat → Value} (v : Value) (h : k < n) : (slX n g).setIfInBounds k v = slX n (fun x => if x = k then v else g x) := by
  apply Array.ext_getElem?
  intro i
  rw [Array.getElem?_setIfInBounds]
  by_cases hi : i < n
  · rw [slX_at hi, slX_at hi, slX_size]
    by_cases e : k = i
    · subst e; simp [hi]
    · simp [e, show ¬ i = k from fun h => e h.symm]
  · rw [Array.getElem?_eq_none (by rw [slX_size]; omega), Array.getElem?_eq_none (by rw [slX_size]; omega), slX_size]
    simp; omega
theorem augL_one {n : Nat} {xs : List F} : ∀ i, i < n → ∀ j, j < n + n → augL n n xs (oneM n) i j = augI n (cellF n xs) i j := fun i hi j hj => by
  simp only [augL, augI, cellF]
  by_cases h : j < n
  · rw [if_pos h, if_pos h]
  · rw [if_neg h, if_neg h, oneM, at8_grid hi (by omega)]
    by_cases e : i = j - n
    · rw [if_pos e, if_pos (by omega)]
    · rw [if_neg e, if_neg (by omega)]
theorem row8T_tail {w : World} {b off n c : Nat} {f : Nat → F} (h : Row8T w (some ⟨b, off, none⟩) (rowF (c + n) f)) (hn : 0 < n) : Row8T w (some ⟨b, off + c, none⟩) (rowF n fun j => f (c + j)) := by
  rcases h with e | ⟨b', off', cs, fr, e, hb, h⟩
  · have := congrArg List.length e
    rw [rowF_len] at this
    simp at this; omega
  · cases e
    refine .inr ⟨b, off + c, cs, fr, rfl, hb, fun j hj => ?_⟩
    rw [rowF_len] at hj
    have := h (c + j) (by rw [rowF_len]; omega)
    rw [at8_rowF (by omega)] at this
    rw [at8_rowF hj, Nat.add_assoc]
    exact this
/-- a matrix that undoes another one, on either side -/
structure InvOf (n : Nat) (A B : Mt) : Prop where
  right : ∀ i, i < n → ∀ j, j < n → mulF n A B i j = if i = j then 1 else 0
  left : ∀ i, i < n → ∀ j, j < n → mulF n B A i j = if i = j then 1 else 0
set_option maxHeartbeats 8000000 in
theorem inverse_F (n l cap : Nat) (a : Option Addr) (xs : List F) (w : World) (hn : n ≤ 64) (hl : l = n * n) (hx : xs.length = n * n) (hcap : l ≤ cap) (hX : Row8 w a xs) (hnil : a = none → cap = 0) (s : Addr) (hs : w.cell? ⟨3, 0, none⟩ = some (errAt s)) :
    Calls Tryd.prog 60 #[.agg #[.int .i64 n, .int .i64 n, .slice a l cap]] w fun e w' =>
      ((pivL (cellF n xs) n n).length = n ∧ ∃ g m Y, e = .returned (.tuple #[.agg #[.int .i64 n, .int .i64 n, .slice (some ⟨g, 0, none⟩) m m], .nilIface]) ∧ m = n * n ∧ w.heap.size ≤ g ∧ w'.heap[g]? = some (.cells (vfs (grid n Y n)) 5 (0, 0)) ∧ InvOf n (cellF n xs) Y ∧ Below w.heap.size w w') ∨
      ((pivL (cellF n xs) n n).length ≠ n ∧ e = .returned (.tuple #[.agg #[.int .i64 0, .int .i64 0, .slice none 0 0], errAt s]) ∧ Below w.heap.size w w') := by
  have HL : Hid _ := hl
  have HX : Hid _ := hx
  have HRX : Hid (Row8 w a xs) := hX
  have HNA : Hid _ := hnil
  have HS : Hid _ := hs
  have hlt0 := World.block_lt_of_cell? w _ hs
  simp at hlt0
  clear hl hx hX hnil hs
  go_enter Tryd.func60, Tryd.ntmps60
  go_wp2_with fail
  refine Calls.mono (one_F n _ hn) ?_
  rintro e w2 ⟨g1, n1, rfl, hn1, hg1, hh1, hb2⟩
  have hal := (((Below.refl w.heap.size w).alloc (Nat.le_refl _) (.cells #[.int .i64 n, .int .i64 n, .slice a l cap] 65)).alloc (by simp) (.cells #[.int .i64 0, .int .i64 0, .slice none 0 0] 65))
  have hA := holds_cons (holds_later (holds_new (holds_new (holds_nil w) #[.int .i64 n, .int .i64 n, .slice a l cap] 65) #[.int .i64 0, .int .i64 0, .slice none 0 0] 65) hb2) hh1
  rw [World.size_alloc] at hA
  have HW2 : Hid (Below w.heap.size w w2) := hal.trans (hb2.mono (by simp; omega))
  have hA := holds_new hA #[.int .i64 n, .int .i64 n, .slice (some ⟨g1, 0, none⟩) n1 n1] 65
  have HW3 : Hid (Below w.heap.size w (w2.alloc (.cells #[.int .i64 n, .int .i64 n, .slice (some ⟨g1, 0, none⟩) n1 n1] 65))) := HW2.out.alloc HW2.out.size _
  have hsz : w.heap.size + 2 ≤ w2.heap.size := by have := hb2.size; simpa using this
  have c1 := cellAt (holds_at hA 0 rfl) 0 _ rfl
  have c2 := cellAt (holds_at hA 0 rfl) 1 _ rfl
  have c3 := cellAt (holds_at hA 0 rfl) 2 _ rfl
  have c4 := cellAt (holds_at hA 3 rfl) 0 _ rfl
  have c5 := cellAt (holds_at hA 3 rfl) 1 _ rfl
  have c6 := cellAt (holds_at hA 3 rfl) 2 _ rfl
  have HA : Hid _ := hA
  have HN1 : Hid _ := hn1
  clear hn1 hh1 hb2 hA HW2 hal
  go_wp2_with fail
  refine Calls.mono (eliminated_F n n n l cap n1 n1 a (some ⟨g1, 0, none⟩) xs (oneM n) _ hn hn hn HL.out HX.out hcap (row8_below HRX.out HW3.out) HNA.out HN1.out (by simp [oneM, grid_len]) (Nat.le_refl _) (holds_row HA.out 1 rfl) (fun h => by cases h)) ?_
  rintro e w4 ⟨M, av, cv, p, f', R', rfl, hM, hown, hrw, hred, hin, hback, hb4⟩
  have hA := holds_later HA.out hb4
  have hp : p = pivL (cellF n xs) n n := (hred.eq hin hback (by omega)).trans (pivL_congr fun i hi j hj => by simp [augL, cellF, hj])
  have hin2 := RowsIn.congr_right hin (A' := augI n (cellF n xs)) fun i hi j hj => (augL_one i hi j hj).symm
  have hback2 := RowsIn.congr_left hback (B' := augI n (cellF n xs)) fun i hi j hj => (augL_one i hi j hj).symm
  have HP : Hid _ := hp
  have HRW : Hid _ := hrw
  have HRED : Hid _ := hred
  have HIN : Hid _ := hin2
  have HBACK : Hid _ := hback2
  have HA4 : Hid _ := hA
  have HW4 : Hid (Below w.heap.size w w4) := HW3.out.trans (hb4.mono HW3.out.size)
  have hM2 : w2.heap.size + 1 ≤ M := by simpa using hM
  have hplen := hred.len
  have c1' := cellAt (holds_at hA 3 rfl) 1 _ rfl
  have k1 := holds_at hA 2 rfl
  clear hA hown hrw hred hin hback hin2 hback2 hb4 hp c1 c2 c3 c4 c5 c6 hM
  by_cases hfull : p.length = n
  · have HFULL : Hid _ := hfull
    rw [hfull]
    clear hfull
    go_wp2
    go_loopw [40] (fun i wr => ∃ (k : Nat) (g : Nat → Value), k ≤ n ∧ i = .int .i64 k ∧ w4.grownBy wr (some M) ∧ wr.heap[M]? = some (.cells (slX n g) 22 (0, 0)) ∧
      (∀ x, x < k → ∃ a' cap', g x = .slice a' n cap' ∧ Row8T wr a' (rowF n fun j => R' x (n + j))) ∧ ∀ x, k ≤ x → x < n → g x = .slice (f' x).1 (n + n) (f' x).2) (fun i _ => n - (intOf i).toNat)
    case atStart => exact ⟨0, fun x => .slice (f' x).1 (n + n) (f' x).2, by omega, rfl, World.grownBy.refl _ _, HRW.out.blk, fun x h => by omega, fun x _ _ => rfl⟩
    case round =>
      obtain ⟨k, g, hk, rfl, hgb, hs, hdone, hrest⟩ := hrel
      have HGB : Hid _ := hgb
      have HSS : Hid _ := hs
      have HDONE : Hid _ := hdone
      have HREST : Hid _ := hrest
      have zM := ltHeap HRW.out.blk
      have z0 := ltHeap (holds_at HA4.out 3 rfl)
      have c2 := cellAt (grown_block hgb (holds_at HA4.out 3 rfl) (by omega)) 1 _ rfl
      by_cases hlt : k < n
      · have c3 := cellAt hs k _ (slX_at hlt)
        rw [hrest k (Nat.le_refl _) hlt] at c3
        obtain ⟨bo, oo, mo, hfo, hmo, hboM, hbo, _, _⟩ := HRW.out.get hlt (show 0 < n + n by omega)
        rw [hfo] at c3
        have d3 : wr.frozen? ⟨M, k, none⟩ = false := frozen_of_row _ _ _ _ _ hs
        have HFO : Hid _ := hfo
        have hmn : n < mo := by omega
        have hNE : NoElems wr (some M) := noElems_some hs (by decide)
        have hgS : wr.grownBy (wr.setCell ⟨M, k, none⟩ (.slice (some ⟨bo, oo + n, none⟩) n (mo - n))) (some M) := grownBy_setCell (World.grownBy.refl _ _) _
        have hrow := row8T_grown (HRW.out.row k hlt) hgb (noElems_some HRW.out.blk (by decide))
        rw [hfo] at hrow
        have HROW : Hid _ := row8T_grown (row8T_tail hrow (by omega)) hgS hNE
        have HS1 : Hid ((wr.setCell ⟨M, k, none⟩ (.slice (some ⟨bo, oo + n, none⟩) n (mo - n))).heap[M]? = some (.cells (slX n fun x => if x = k then .slice (some ⟨bo, oo + n, none⟩) n (mo - n) else g x) 22 (0, 0))) := by
          show _ = _
          rw [heap_setCell_same _ _ _ _ _ _ hs, slX_set _ hlt]
        have HGS : Hid _ := hgS
        have HNE : Hid _ := hNE
        clear hgb hs hdone hrest hfo hgS hNE hrow
        go_wp2
        refine ⟨⟨k + 1, _, by omega, by go_num, grownBy_setCell HGB.out _, HS1.out, fun x hx => ?_, fun x h1 h2 => ?_⟩, by simp [intOf]; omega⟩
        · by_cases e : x = k
          · subst e
            rw [if_pos rfl]
            exact ⟨_, _, rfl, HROW.out⟩
          · rw [if_neg e]
            obtain ⟨a', cap', h1, h2⟩ := HDONE.out x (by omega)
            exact ⟨a', cap', h1, row8T_grown h2 HGS.out HNE.out⟩
        · show (if x = k then _ else g x) = _
          rw [if_neg (by omega)]
          exact HREST.out x (by omega) h2
      · obtain rfl : k = n := by omega
        have hW : Below w.heap.size w wr := below_grown HW4.out hgb (by omega)
        have HW5 : Hid _ := hW
        have hA5 : Holds wr [(w.heap.size + 1, .cells #[.int .i64 0, .int .i64 0, .slice none 0 0] 65 (0, 0))] := holds_cons (holds_nil _) (grown_block hgb (holds_at HA4.out 2 rfl) (by omega))
        have HA5 : Hid _ := hA5
        clear hgb hs hdone hrest hA5 hW
        have HR8 : Hid (Rows8 wr (some ⟨M, 0, none⟩) ((List.range k).map fun x => rowF k fun j => R' x (k + j))) := .inr ⟨M, 0, rfl, fun j x hx => by
          simp only [List.getElem?_map, Option.map_eq_some_iff] at hx
          obtain ⟨i, hi, rfl⟩ := hx
          obtain ⟨hjk, hi2⟩ := List.getElem?_eq_some_iff.1 hi
          simp only [List.length_range] at hjk
          simp only [List.getElem_range] at hi2
          subst hi2
          obtain ⟨a', cap', h1, h2⟩ := HDONE.out j hjk
          refine ⟨a', cap', ?_, h2.row8⟩
          rw [Nat.zero_add, rowF_len, ← h1]
          exact cellAt HSS.out j _ (slX_at hjk)⟩
        go_wp2_with fail
        refine Calls.mono (of_F k k k _ ((List.range k).map fun x => rowF k fun j => R' x (k + j)) _ hn (by simp) hn (fun x hx => ?_) HR8.out) ?_
        · obtain ⟨i, _, rfl⟩ := List.mem_map.1 hx
          exact rowF_len _ _
        rintro e w5 ⟨g5, m5, rfl, hm5, hg5, hh5, hb5⟩
        rw [← grid_flat k (fun x j => R' x (k + j))] at hh5
        have k1 := holds_at (holds_later HA5.out hb5) 0 rfl
        have c4 := cellAt k1 0 _ rfl
        have c5 := cellAt k1 1 _ rfl
        have c6 := cellAt k1 2 _ rfl
        have d4 : w5.frozen? ⟨w.heap.size + 1, 0, none⟩ = false := frozen_of_row _ _ _ _ _ k1
        have d5 : w5.frozen? ⟨w.heap.size + 1, 1, none⟩ = false := frozen_of_row _ _ _ _ _ k1
        have d6 : w5.frozen? ⟨w.heap.size + 1, 2, none⟩ = false := frozen_of_row _ _ _ _ _ k1
        have hgw : w.heap.size + 1 < g5 := by have := ltHeap (holds_at HA5.out 0 rfl); omega
        have HW6 : Hid (Below w.heap.size w w5) := HW5.out.trans (hb5.mono HW5.out.size)
        have HH5 : Hid _ := hh5
        have HM5 : Hid _ := hm5
        clear hh5 hm5 hb5 hg5 k1 c2
        go_wp2
        refine bodyPost_ret (v := .tuple #[.agg #[.int .i64 k, .int .i64 k, .slice (some ⟨g5, 0, none⟩) m5 m5], .nilIface]) (by simp [results, Tryd.results60, go_sem, c4, c5, c6]) rfl ?_
        refine .inl ⟨by rw [← HP.out]; exact HFULL.out, g5, m5, fun x j => R' x (k + j), rfl, HM5.out, by omega, ?_, ⟨inv_right HRED.out HFULL.out HBACK.out, inv_left HRED.out HFULL.out HIN.out⟩, ?_⟩
        · rw [heap_setCell_other _ _ _ _ (by show g5 ≠ w.heap.size + 1; omega), heap_setCell_other _ _ _ _ (by show g5 ≠ w.heap.size + 1; omega), heap_setCell_other _ _ _ _ (by show g5 ≠ w.heap.size + 1; omega)]
          exact HH5.out
        · exact ((HW6.out.setCell (by simp) _).setCell (by simp) _).setCell (by simp) _
  · have hlt : p.length < n := by omega
    have c4 := cellAt k1 0 _ rfl
    have c5 := cellAt k1 1 _ rfl
    have c6 := cellAt k1 2 _ rfl
    have d4 : w4.frozen? ⟨w.heap.size + 1, 0, none⟩ = false := frozen_of_row _ _ _ _ _ k1
    have d5 : w4.frozen? ⟨w.heap.size + 1, 1, none⟩ = false := frozen_of_row _ _ _ _ _ k1
    have d6 : w4.frozen? ⟨w.heap.size + 1, 2, none⟩ = false := frozen_of_row _ _ _ _ _ k1
    have c9 := cell_later HW4.out HS.out
    have HNF : Hid _ := hfull
    unfold errAt at *
    clear hfull k1
    go_wp2
    go_region
    go_wp2
    refine bodyPost_ret (v := .tuple #[.agg #[.int .i64 0, .int .i64 0, .slice none 0 0], .iface 140 (.pointer (some s))]) (by simp [results, Tryd.results60, go_sem, c4, c5, c6]) rfl ?_
    exact .inr ⟨by rw [← HP.out]; exact HNF.out, rfl, (((HW4.out.setCell (by simp) _).setCell (by simp) _).setCell (by simp) _).drew⟩
set_option maxHeartbeats 2000000 in
theorem inverse_bad (r c : Int) (l cap : Nat) (a : Option Addr) (w : World) (s : Addr) (hs : w.cell? ⟨2, 0, none⟩ = some (errAt s)) (h : ¬ (FormOk r c l ∧ r = c)) :
    Calls Tryd.prog 60 #[.agg #[.int .i64 r, .int .i64 c, .slice a l cap]] w fun e w' => e = .returned (.tuple #[.agg #[.int .i64 0, .int .i64 0, .slice none 0 0], errAt s]) ∧ Below w.heap.size w w' := by
  have H : Hid _ := h
  have hlt0 := World.block_lt_of_cell? w _ hs
  simp at hlt0
  have HS : Hid _ := cell?_alloc_old (.cells #[.int .i64 0, .int .i64 0, .slice none 0 0] 65) (cell?_alloc_old (.cells #[.int .i64 r, .int .i64 c, .slice a l cap] 65) hs)
  have hal := (((Below.refl w.heap.size w).alloc (Nat.le_refl _) (.cells #[.int .i64 r, .int .i64 c, .slice a l cap] 65)).alloc (by simp) (.cells #[.int .i64 0, .int .i64 0, .slice none 0 0] 65))
  clear h hs
  by_cases hc : 0 ≤ c ∧ c ≤ 64
  · obtain ⟨h0, h1⟩ := hc
    obtain ⟨n, rfl⟩ := Int.eq_ofNat_of_zero_le h0
    go_enter Tryd.func60, Tryd.ntmps60
    go_wp2_with fail
    refine Calls.mono (one_F n _ (by omega)) ?_
    rintro e w2 ⟨g1, n1, rfl, hn1, hg1, hh1, hb2⟩
    have hA := holds_cons (holds_later (holds_new (holds_new (holds_nil w) #[.int .i64 r, .int .i64 n, .slice a l cap] 65) #[.int .i64 0, .int .i64 0, .slice none 0 0] 65) hb2) hh1
    rw [World.size_alloc] at hA
    have HW2 : Hid (Below w.heap.size w w2) := hal.trans (hb2.mono (by simp; omega))
    have hA := holds_new hA #[.int .i64 n, .int .i64 n, .slice (some ⟨g1, 0, none⟩) n1 n1] 65
    have HW3 : Hid (Below w.heap.size w (w2.alloc (.cells #[.int .i64 n, .int .i64 n, .slice (some ⟨g1, 0, none⟩) n1 n1] 65))) := HW2.out.alloc HW2.out.size _
    have hsz : w.heap.size + 2 ≤ w2.heap.size := by have := hb2.size; simpa using this
    have c1 := cellAt (holds_at hA 0 rfl) 0 _ rfl
    have c2 := cellAt (holds_at hA 0 rfl) 1 _ rfl
    have c3 := cellAt (holds_at hA 0 rfl) 2 _ rfl
    have c4 := cellAt (holds_at hA 3 rfl) 0 _ rfl
    have c5 := cellAt (holds_at hA 3 rfl) 1 _ rfl
    have c6 := cellAt (holds_at hA 3 rfl) 2 _ rfl
    have HA : Hid _ := hA
    have HS3 : Hid _ := cell?_alloc_old (.cells #[.int .i64 n, .int .i64 n, .slice (some ⟨g1, 0, none⟩) n1 n1] 65) (cell_later hb2 HS.out)
    have HE : Hid (Calls Tryd.prog 83 #[.agg #[.int .i64 r, .int .i64 n, .slice a l cap], .agg #[.int .i64 n, .int .i64 n, .slice (some ⟨g1, 0, none⟩) n1 n1]] (w2.alloc (.cells #[.int .i64 n, .int .i64 n, .slice (some ⟨g1, 0, none⟩) n1 n1] 65)) fun e w' =>
        e = .returned (.tuple #[.slice none 0 0, .slice none 0 0, errAt s]) ∧ Below (w2.alloc (.cells #[.int .i64 n, .int .i64 n, .slice (some ⟨g1, 0, none⟩) n1 n1] 65)).heap.size (w2.alloc (.cells #[.int .i64 n, .int .i64 n, .slice (some ⟨g1, 0, none⟩) n1 n1] 65)) w') := by
      by_cases hf : FormOk r n l
      · obtain ⟨r', c', rfl, hc, h1, h2, h3⟩ := hf.nat
        have hc : n = c' := by omega
        subst hc
        exact eliminated_odd r' n n n l cap n1 n1 a _ _ s HS3.out h1 h2 h3 (fun e => H.out ⟨hf, e⟩)
      · exact eliminated_bad r n n n l cap n1 n1 a _ _ s HS3.out hf
    clear hn1 hh1 hb2 hA HW2 hal H
    go_wp2_with fail
    refine Calls.mono HE.out ?_
    rintro e w4 ⟨rfl, hb4⟩
    have k1 := holds_at (holds_later HA.out hb4) 2 rfl
    have HW4 : Hid (Below w.heap.size w w4) := HW3.out.trans (hb4.mono HW3.out.size)
    have b4 := cellAt k1 0 _ rfl
    have b5 := cellAt k1 1 _ rfl
    have b6 := cellAt k1 2 _ rfl
    have d4 : w4.frozen? ⟨w.heap.size + 1, 0, none⟩ = false := frozen_of_row _ _ _ _ _ k1
    have d5 : w4.frozen? ⟨w.heap.size + 1, 1, none⟩ = false := frozen_of_row _ _ _ _ _ k1
    have d6 : w4.frozen? ⟨w.heap.size + 1, 2, none⟩ = false := frozen_of_row _ _ _ _ _ k1
    unfold errAt at *
    clear k1 hb4 c1 c2 c3 c4 c5 c6 HE
    go_wp2
    refine bodyPost_ret (v := .tuple #[.agg #[.int .i64 0, .int .i64 0, .slice none 0 0], .iface 140 (.pointer (some s))]) (by simp [results, Tryd.results60, go_sem, b4, b5, b6]) rfl ?_
    exact ⟨rfl, ((HW4.out.setCell (by simp) _).setCell (by simp) _).setCell (by simp) _⟩
  · have HC : Hid _ := hc
    clear hc H
    go_enter Tryd.func60, Tryd.ntmps60
    go_wp2_with fail
    refine Calls.mono (one_bad c _ s HS.out HC.out) ?_
    rintro e w2 ⟨rfl, hb2⟩
    have hA := holds_later (holds_new (holds_new (holds_nil w) #[.int .i64 r, .int .i64 c, .slice a l cap] 65) #[.int .i64 0, .int .i64 0, .slice none 0 0] 65) hb2
    rw [World.size_alloc] at hA
    have HW2 : Hid (Below w.heap.size w w2) := hal.trans (hb2.mono (by simp; omega))
    have hA := holds_alloc hA (.cells #[.int .i64 0, .int .i64 0, .slice none 0 0] 65)
    have k1 := holds_at hA 0 rfl
    have b4 := cellAt k1 0 _ rfl
    have b5 := cellAt k1 1 _ rfl
    have b6 := cellAt k1 2 _ rfl
    have d4 : (w2.alloc (.cells #[.int .i64 0, .int .i64 0, .slice none 0 0] 65)).frozen? ⟨w.heap.size + 1, 0, none⟩ = false := frozen_of_row _ _ _ _ _ k1
    have d5 : (w2.alloc (.cells #[.int .i64 0, .int .i64 0, .slice none 0 0] 65)).frozen? ⟨w.heap.size + 1, 1, none⟩ = false := frozen_of_row _ _ _ _ _ k1
    have d6 : (w2.alloc (.cells #[.int .i64 0, .int .i64 0, .slice none 0 0] 65)).frozen? ⟨w.heap.size + 1, 2, none⟩ = false := frozen_of_row _ _ _ _ _ k1
    have HW3 : Hid (Below w.heap.size w (w2.alloc (.cells #[.int .i64 0, .int .i64 0, .slice none 0 0] 65))) := HW2.out.alloc HW2.out.size _
    unfold errAt at *
    clear hA k1 hb2
    go_wp2
    refine bodyPost_ret (v := .tuple #[.agg #[.int .i64 0, .int .i64 0, .slice none 0 0], .iface 140 (.pointer (some s))]) (by simp [results, Tryd.results60, go_sem, b4, b5, b6]) rfl ?_
    exact ⟨rfl, ((HW3.out.setCell (by simp) _).setCell (by simp) _).setCell (by simp) _⟩
end Go.Proofs.YtmlpijlcpeoeaaaDoor

/- What Decode of package code answers, of all numbers and shards where k, r and the size are legal; the refusals. -/
namespace Go.Proofs.YtmlpijlcpeoeaaaDoor
open Go.RowKit Gf
set_option linter.unusedVariables false
set_option maxRecDepth 20000
theorem comb_inv {c H i : Nat} {Y A : Mt} {L : List (List F)} {D : Nat → Nat → F} (hI : InvOf c A Y) (hD : ∀ i, i < c → ∀ b, b < H → bytesD L i b = sumF (fun u => gm (A i u) (D u b)) c) (hi : i < c) : combL c H (grid c Y c) L i = rowF H (D i) :=
  rowF_congr fun b hb => by
    rw [sumF_congr (g := fun v => sumF (fun u => gm (gm (Y i v) (A v u)) (D u b)) c) (fun v hv => by
      rw [at8_grid hi hv, hD v hv b hb, sumF_mul_left]
      exact sumF_congr fun u _ => (F.mul_assoc _ _ _).symm), sumF_swap (fun v u => gm (gm (Y i v) (A v u)) (D u b)) c c]
    rw [sumF_congr (g := fun u => gm (if i = u then 1 else 0) (D u b)) (fun u hu => by
      rw [← hI.left i hi u hu, mulF, sumF_mul_right])]
    rw [sumF_pick _ i c hi fun u _ hne => by rw [if_neg (fun e => hne e.symm), F.zero_mul]]
    rw [if_pos rfl, F.one_mul]
set_option maxHeartbeats 4000000 in
theorem undo_F (k r H c m l1 l2 c1 c2 : Nat) (a1 g : Nat) (an ah : Option Addr) (nums : List Nat) (L : List (List F)) (D : Nat → Nat → F) (w : World) (s2 s11 : Addr) (hs2 : w.cell? ⟨3, 0, none⟩ = some (errAt s2)) (hs11 : w.cell? ⟨11, 0, none⟩ = some (errAt s11))
    (h1 : 1 ≤ k) (h2 : 2 ≤ r) (h3 : k + r ≤ 16) (hH : H ≤ 64) (hc : c = 2 * k) (ha1 : a1 = 2 * (k + r)) (hm : m = a1 * c) (hG : w.heap[g]? = some (.cells (vfs (halfM k r)) 5 (0, 0)))
    (hl1 : l1 = c) (hN : RowI w an (castL (bothH nums))) (hnl : nums.length = k) (hin : ∀ x ∈ nums, x < k + r) (hnd : nums.Nodup) (hl2 : l2 = c) (hL : L.length = c) (hLH : ∀ ys ∈ L, ys.length = H) (hLX : Rows8 w ah L)
    (hD : ∀ i, i < 2 * k → ∀ b, b < H → bytesD L i b = sumF (fun u => gm (numM k (carN (groupN k r)) (bothH nums) i u) (D u b)) (2 * k)) :
    Calls Tryd.prog 36 #[.agg #[.int .i64 a1, .int .i64 c, .slice (some ⟨g, 0, none⟩) m m], .slice an l1 c1, .slice ah l2 c2] w fun e w' => ∃ M, e = .returned (.tuple #[.slice (some ⟨M, 0, none⟩) c c, .nilIface]) ∧
      Rows8 w' (some ⟨M, 0, none⟩) ((List.range c).map fun v => rowF H (D v)) ∧ Below w.heap.size w w' := by
  have hrk := half_take hnd hnl hin h3
  have hgr := htakeM_grid (xs := halfM k r) (A := halfF k (carN (groupN k r))) (bothH_lt hin) rfl
  have hlb : (bothH nums).length = c := by rw [bothH_len, hnl, hc]
  rw [hlb] at hgr
  obtain ⟨X, hX⟩ : ∃ X, X = (takeM (2 * k) (halfM k r) (castL (bothH nums))).flatten := ⟨_, rfl⟩
  rw [← hX] at hrk hgr
  have hXl : X.length = c * c := by rw [hgr, grid_len, hc]
  have hXc : ∀ i, i < c → ∀ j, j < c → cellF c X i j = numM k (carN (groupN k r)) (bothH nums) i j := fun i hi j hj => by
    rw [cellF, hgr, hc, at8_grid (by omega) (by omega)]; rfl
  have hall : ∀ x ∈ castL (bothH nums), 0 ≤ x ∧ x < (a1 : Int) := fun x hx => by
    simp only [castL, List.mem_map] at hx
    obtain ⟨y, hy, rfl⟩ := hx
    have := bothH_lt hin y hy
    omega
  rw [← hc] at hrk hX hD
  have hD2 : ∀ i, i < c → ∀ b, b < H → bytesD L i b = sumF (fun u => gm (cellF c X i u) (D u b)) c := fun i hi b hb => by
    rw [hD i hi b hb]
    exact sumF_congr fun u hu => by rw [hXc i hi u hu]
  have HD : Hid (∀ i, i < c → ∀ b, b < H → bytesD L i b = sumF (fun u => gm (cellF c X i u) (D u b)) c) := hD2
  have HRK : Hid ((pivL (cellF c X) c c).length = c) := hrk
  have HX : Hid (X = (takeM c (halfM k r) (castL (bothH nums))).flatten) := hX
  have HXL : Hid (X.length = c * c) := hXl
  have HALL : Hid (∀ x ∈ castL (bothH nums), 0 ≤ x ∧ x < (a1 : Int)) := hall
  have HN : Hid (RowI w an (castL (bothH nums))) := hN
  have HLL : Hid (L.length = c) := hL
  have HLH : Hid (∀ ys ∈ L, ys.length = H) := hLH
  have HLX : Hid (Rows8 w ah L) := hLX
  have HL1 : Hid (l1 = c) := hl1
  have HL2 : Hid (l2 = c) := hl2
  have HM : Hid (m = a1 * c) := hm
  have HG : Hid (w.heap[g]? = some (.cells (vfs (halfM k r)) 5 (0, 0))) := hG
  have HML : Hid ((halfM k r).length = a1 * c) := by show _ = _; rw [halfM_len, ha1, hc]
  have HS2 : Hid _ := hs2
  have HS11 : Hid _ := hs11
  have HLB : Hid ((bothH nums).length = c) := hlb
  have hc32 : c ≤ 32 := by omega
  have hc1 : 1 ≤ c := by omega
  have ha32 : a1 ≤ 32 := by omega
  clear hrk hgr hlb hX hXl hXc hall hD hD2 hN hL hLH hLX hl1 hl2 hm hG hs2 hs11 ha1 hnl hin hnd hc
  have HB1 : Hid (Below w.heap.size w (w.alloc (.cells #[.int .i64 a1, .int .i64 c, .slice (some ⟨g, 0, none⟩) m m] 65))) := (Below.refl _ _).alloc (Nat.le_refl _) _
  go_enter Tryd.func36, Tryd.ntmps36
  go_wp2_with fail
  refine Calls.mono (htake_yes a1 c m m l1 c1 (some ⟨g, 0, none⟩) an (halfM k r) (castL (bothH nums)) _ (by omega) (by omega) HM.out HML.out (Nat.le_refl _) (row8_own (heap_later HG.out HB1.out)) (fun h => by cases h) (by rw [castL_len, HLB.out]; exact HL1.out) (by have := HL1.out; omega) (rowI_below HN.out HB1.out) s11 (cell_later HB1.out HS11.out) HALL.out) ?_
  rintro e w2 ⟨g2, m2, rfl, hm2, hg2, hh2, hb2⟩
  have e1 := HL1.out
  subst e1
  rw [← HX.out] at hh2
  have HM2 : Hid (m2 = l1 * l1) := hm2
  have HA2 : Hid _ := holds_new (holds_cons (holds_nil w2) hh2) #[.int .i64 l1, .int .i64 l1, .slice (some ⟨g2, 0, none⟩) m2 m2] 65
  have hB2 := HB1.out.trans (hb2.mono HB1.out.size)
  have HB2 : Hid (Below w.heap.size w (w2.alloc (.cells #[.int .i64 l1, .int .i64 l1, .slice (some ⟨g2, 0, none⟩) m2 m2] 65))) := hB2.alloc hB2.size _
  clear hm2 hg2 hh2 hb2 hB2
  go_wp2_with fail
  refine Calls.mono (inverse_F l1 m2 m2 (some ⟨g2, 0, none⟩) X _ (by omega) HM2.out HXL.out (Nat.le_refl _) (holds_row HA2.out 1 rfl) (fun h => by cases h) s2 (cell_later HB2.out HS2.out)) ?_
  rintro e w3 (⟨_, g3, m3, Y, rfl, hm3, hg3, hh3, hY, hb3⟩ | ⟨hno, _⟩)
  · have HM3 : Hid (m3 = l1 * l1) := hm3
    have HY : Hid (InvOf l1 (cellF l1 X) Y) := hY
    have HA3 : Hid _ := holds_new (holds_cons (holds_nil w3) hh3) #[.int .i64 l1, .int .i64 l1, .slice (some ⟨g3, 0, none⟩) m3 m3] 65
    have hB3 := HB2.out.trans (hb3.mono HB2.out.size)
    have HB3 : Hid (Below w.heap.size w (w3.alloc (.cells #[.int .i64 l1, .int .i64 l1, .slice (some ⟨g3, 0, none⟩) m3 m3] 65))) := hB3.alloc hB3.size _
    clear hm3 hg3 hh3 hb3 hY hB3
    go_wp2_with fail
    refine Calls.mono (ccomb_F l1 l1 H m3 m3 l2 c2 (some ⟨g3, 0, none⟩) ah (grid l1 Y l1) L _ (by omega) hc1 (by omega) hH HM3.out (grid_len _ _ _) (Nat.le_refl _) (holds_row HA3.out 1 rfl) HL2.out HLL.out HLH.out (rows8_below HLX.out HB3.out)) ?_
    rintro e w4 ⟨M, gs, rfl, hM, hgs, hT, hrs, hb4⟩
    have hr2 := rowsP_congr (g := fun v => rowF H (D v)) hrs fun i hi => comb_inv HY.out HD.out (by rw [← hgs]; exact hi)
    have HR4 : Hid (Rows8 w4 (some ⟨M, 0, none⟩) ((List.range l1).map fun v => rowF H (D v))) := rowsP_rows hr2 hgs (fun i => rowF_len _ _) hT
    have HB4 : Hid (Below w.heap.size w w4) := HB3.out.trans (hb4.mono HB3.out.size)
    clear hM hgs hT hrs hb4 hr2
    go_wp2
    go_ret2
    exact ⟨M, rfl, HR4.out, HB4.out⟩
  · exact absurd HRK.out hno
/-- the bytes of these data halves -/
def joinD (k H n : Nat) (D : Nat → Nat → F) : List F := (((List.range (2 * k)).map fun v => rowF H (D v)).flatten).take n
theorem flatD_len (k H : Nat) (D : Nat → Nat → F) : (((List.range (2 * k)).map fun v => rowF H (D v)).flatten).length = 2 * k * H := by
  rw [flat_len (c := H) (fun ys hy => by obtain ⟨v, _, rfl⟩ := List.mem_map.1 hy; exact rowF_len _ _)]; simp
theorem joinD_len {k H n : Nat} {D : Nat → Nat → F} (h : n ≤ 2 * k * H) : (joinD k H n D).length = n := by
  rw [joinD, List.length_take, flatD_len]; omega
theorem joinD_congr {k H n : Nat} {D E : Nat → Nat → F} (h : ∀ v, v < 2 * k → ∀ b, b < H → D v b = E v b) : joinD k H n D = joinD k H n E := by
  unfold joinD
  congr 2
  apply List.map_congr_left
  intro v hv
  exact rowF_congr fun b hb => h v (by simpa using hv) b hb
/-- the errors that Decode names -/
def ErrsC (w : World) (E : Nat → Addr) : Prop := ErrsF w E ∧ w.cell? ⟨3, 0, none⟩ = some (errAt (E 2)) ∧ w.cell? ⟨4, 0, none⟩ = some (errAt (E 3)) ∧ w.cell? ⟨1, 0, none⟩ = some (errAt (E 4))
theorem errsC_below {w w' : World} {E : Nat → Addr} (h : ErrsC w E) (hb : Below w.heap.size w w') : ErrsC w' E := ⟨errsF_below h.1 hb, cell_later hb h.2.1, cell_later hb h.2.2.1, cell_later hb h.2.2.2⟩
/-- of these data halves the halves of these shards are made -/
def MadeOf (k r H : Nat) (nums : List Nat) (L : List (List F)) (D : Nat → Nat → F) : Prop :=
  ∀ i, i < 2 * k → ∀ b, b < H → bytesD L i b = sumF (fun u => gm (numM k (carN (groupN k r)) (bothH nums) i u) (D u b)) (2 * k)
theorem made_ex {k r H : Nat} {S : List (Int × List F × List F)} (hg : GoodT k r S) (hl : S.length = k) (h3 : k + r ≤ 16) (L : List (List F)) : ∃ D, MadeOf k r H (numT S) L D := by
  obtain ⟨_, g2, g3⟩ := good_nums hg
  have hrk := num_rank (car := carN (groupN k r)) g3 (by rw [numT_len, hl]) g2 (show k + r ≤ 256 by omega)
  obtain ⟨D, hD⟩ := full_table hrk (bytesD L)
  exact ⟨D, fun i hi b _ => hD i hi b⟩
theorem made_one {k r H : Nat} {S : List (Int × List F × List F)} (hg : GoodT k r S) (hl : S.length = k) (h3 : k + r ≤ 16) {L : List (List F)} {D E : Nat → Nat → F} (hD : MadeOf k r H (numT S) L D) (hE : MadeOf k r H (numT S) L E) : ∀ v, v < 2 * k → ∀ b, b < H → D v b = E v b := fun v hv b hb => by
  obtain ⟨_, g2, g3⟩ := good_nums hg
  have hrk := num_rank (car := carN (groupN k r)) g3 (by rw [numT_len, hl]) g2 (show k + r ≤ 256 by omega)
  exact full_one (R := fun i => bytesD L i b) (D := fun u => D u b) (E := fun u => E u b) hrk (fun i hi => hD i hi b hb) (fun i hi => hE i hi b hb) v hv
set_option maxHeartbeats 8000000 in
theorem decode_G (k r n ln cn : Nat) (a : Option Addr) (S : List (Int × List F × List F)) (w : World) (E : Nat → Addr) (hE : ErrsC w E) (h1 : 1 ≤ k) (h2 : 2 ≤ r) (h3 : k + r ≤ 16) (h4 : 1 ≤ n) (h5 : n ≤ 128 * k) (hln : ln = S.length) (hl9 : ln ≤ 140737488355328) (hS : Sh8 w a S) :
    Calls Tryd.prog 19 #[.int .i64 k, .int .i64 r, .int .i64 n, .slice a ln cn] w fun e w' =>
      (¬ (ln = k ∧ GoodT k r S) ∧ e = .returned (.tuple #[.slice none 0 0, errAt (E 3)]) ∧ Below w.heap.size w w') ∨
      ((ln = k ∧ GoodT k r S) ∧ ¬ (∀ xs ∈ rowsS S, xs.length = cntN (2 * k) n) ∧ e = .returned (.tuple #[.slice none 0 0, errAt (E 4)]) ∧ Below w.heap.size w w') ∨
      ((ln = k ∧ GoodT k r S) ∧ (∀ xs ∈ rowsS S, xs.length = cntN (2 * k) n) ∧ ∃ D, MadeOf k r (cntN (2 * k) n) (numT S) (rowsS S) D ∧ ∃ g ys, e = .returned (.tuple #[.slice (some ⟨g, 0, none⟩) n n, .nilIface]) ∧ w.heap.size ≤ g ∧
        w'.heap[g]? = some (.cells (vfs (joinD k (cntN (2 * k) n) n D ++ ys)) 5 (0, 0)) ∧ Below w.heap.size w w') := by
  obtain ⟨k1, k2, k3, _⟩ := cnt_half h1 (show k ≤ 14 by omega) h4 h5
  have HF : Hid _ := fun w E h => half_F k n w E h (by omega) (by omega)
  rw [halfV_ok h1 (by omega) h4 h5, halfE_ok h1 (by omega) h4 h5] at HF
  simp only [evV_zero] at HF
  obtain ⟨H, hH⟩ : ∃ H, H = cntN (2 * k) n := ⟨_, rfl⟩
  rw [← hH] at HF k1 k2 k3 ⊢
  have HH : Hid (H = cntN (2 * k) n) := hH
  have HE : Hid (ErrsC w E) := hE
  have hlt4 := World.block_lt_of_cell? w _ hE.2.2.2
  simp at hlt4
  have HS : Hid (Sh8 w a S) := hS
  have HL : Hid (ln = S.length) := hln
  obtain ⟨c2, hc2⟩ : ∃ c2, c2 = 2 * k := ⟨_, rfl⟩
  obtain ⟨cR, hcR⟩ : ∃ cR, cR = 2 * (k + r) := ⟨_, rfl⟩
  have HC2 : Hid (c2 = 2 * k) := hc2
  have HCR : Hid (cR = 2 * (k + r)) := hcR
  have HR : Hid _ := fun w s h => hrows_F k r w s h h1 h2 h3
  rw [← hc2, ← hcR] at HR
  have HNU : Hid _ := fun u s h q => numbersOf_F k r ln cn a S u s h h1 h2 h3 hln hl9 q
  have HK3 : Hid (n ≤ 2 * k * H) := k3
  clear hE hS hln hH hc2 hcR k3
  unfold errAt at HNU ⊢
  go_enter Tryd.func19, Tryd.ntmps19
  go_wp2_with fail
  refine Calls.mono (HR.out _ (E 1) HE.out.1.2) ?_
  rintro e w1 ⟨g1, m1, rfl, hm1, hg1, hh1, hb1⟩
  have HA1 : Hid _ := holds_new (holds_cons (holds_nil w1) hh1) #[.int .i64 cR, .int .i64 c2, .slice (some ⟨g1, 0, none⟩) m1 m1] 65
  have HB1 : Hid (Below w.heap.size w (w1.alloc (.cells #[.int .i64 cR, .int .i64 c2, .slice (some ⟨g1, 0, none⟩) m1 m1] 65))) := hb1.alloc hb1.size _
  have HM1 : Hid (m1 = cR * c2) := hm1
  clear hm1 hg1 hh1 hb1
  go_wp2_with fail
  refine Calls.mono (HF.out _ E (errsE_below HE.out.1.1 HB1.out)) ?_
  rintro e w2 ⟨rfl, hb2⟩
  have HA2 : Hid _ := holds_later HA1.out hb2
  have HB2 : Hid (Below w.heap.size w w2) := HB1.out.trans (hb2.mono HB1.out.size)
  clear hb2 HA1 HB1
  go_wp2_with fail
  refine Calls.mono (HNU.out _ (E 3) (cell_later HB2.out HE.out.2.2.1) (sh8_below HS.out HB2.out)) ?_
  rintro e w3 (⟨hlk, hgd, a8, c8, rfl, hi8, hb3⟩ | ⟨hno, rfl, hb3⟩)
  · have HLK : Hid (ln = k) := hlk
    have HGD : Hid (GoodT k r S) := hgd
    have HI8 : Hid (RowI w3 a8 (castL (bothH (numT S)))) := hi8
    have HA3 : Hid _ := holds_later HA2.out hb3
    have HB3 : Hid (Below w.heap.size w w3) := HB2.out.trans (hb3.mono HB2.out.size)
    have hln1 : 1 ≤ ln := by omega
    have hln16 : ln ≤ 16 := by omega
    have HNU' := HNU
    clear hlk hgd hi8 hb3 HA2 HB2 HNU HNU'
    go_wp2_with fail
    refine Calls.mono (halvesOf_F ln cn a S _ HL.out hln16 hln1 (sh8_below HS.out HB3.out)) ?_
    rintro e w4 ⟨a9, c9, l9, rfl, hl9', hr9, hb4⟩
    have HL9 : Hid (l9 = 2 * ln) := hl9'
    have hl9b : l9 ≤ 32 := by omega
    have HR9 : Hid (Rows8 w4 a9 (rowsS S)) := hr9
    have HI9 : Hid (RowI w4 a8 (castL (bothH (numT S)))) := rowI_below HI8.out hb4
    have HA4 : Hid _ := holds_later HA3.out hb4
    have HB4 : Hid (Below w.heap.size w w4) := HB3.out.trans (hb4.mono HB3.out.size)
    clear hl9' hr9 hb4 HA3 HB3 HI8
    go_wp2_with fail
    refine Calls.mono (haveSize_F H l9 c9 a9 (rowsS S) _ (by rw [rowsS_len, ← HL.out]; exact HL9.out) (by omega) HR9.out) ?_
    rintro e w5 ⟨rfl, rfl⟩
    by_cases hsz : ∀ xs ∈ rowsS S, xs.length = H
    · rw [decide_eq_true hsz]
      have HSZ : Hid (∀ xs ∈ rowsS S, xs.length = H) := hsz
      obtain ⟨D, hD⟩ := made_ex (H := H) HGD.out (show S.length = k by rw [← HL.out]; exact HLK.out) h3 (rowsS S)
      have HD : Hid (MadeOf k r H (numT S) (rowsS S) D) := hD
      clear hsz hD
      have d0 := cellAt (holds_at HA4.out 0 rfl) 0 _ rfl
      have d1 := cellAt (holds_at HA4.out 0 rfl) 1 _ rfl
      have d2 := cellAt (holds_at HA4.out 0 rfl) 2 _ rfl
      obtain ⟨_, g2, g3⟩ := good_nums HGD.out
      have G2 : Hid (∀ x ∈ numT S, x < k + r) := g2
      have G3 : Hid (numT S).Nodup := g3
      clear g2 g3
      go_wp2_with fail
      refine Calls.mono (undo_F k r H c2 m1 (2 * k) l9 c8 c9 cR g1 a8 a9 (numT S) (rowsS S) D _ (E 2) (E 11) (cell_later HB4.out HE.out.2.1) (cell_later HB4.out HE.out.1.1.2.1) h1 h2 h3 k2 HC2.out HCR.out HM1.out (holds_at HA4.out 1 rfl)
        HC2.out.symm HI9.out (by rw [numT_len, ← HL.out]; exact HLK.out) G2.out G3.out (by have := HL9.out; have := HLK.out; have := HC2.out; omega) (by rw [rowsS_len, ← HL.out, HLK.out]; exact HC2.out.symm) HSZ.out HR9.out HD.out) ?_
      rintro e w6 ⟨M, rfl, hr6, hb6⟩
      have HR6 : Hid (Rows8 w6 (some ⟨M, 0, none⟩) ((List.range c2).map fun v => rowF H (D v))) := hr6
      have HB6 : Hid (Below w.heap.size w w6) := HB4.out.trans (hb6.mono HB4.out.size)
      clear hr6 hb6 d0 d1 d2
      go_wp2_with fail
      refine Calls.mono (join_ok k n c2 c2 (some ⟨M, 0, none⟩) ((List.range c2).map fun v => rowF H (D v)) _ E (errsE_below HE.out.1.1 HB6.out) h1 (by omega) h4 h5 (by simp) HR6.out ⟨by simp [HC2.out], fun ys hy => by obtain ⟨v, _, rfl⟩ := List.mem_map.1 hy; rw [rowF_len, HH.out]⟩) ?_
      rintro e w7 ⟨g7, ys7, rfl, hg7, hF7, hT7, hh7, hb7⟩
      have HB7 : Hid (Below w.heap.size w w7) := HB6.out.trans (hb7.mono HB6.out.size)
      have HJ : Hid (w7.heap[g7]? = some (.cells (vfs (joinD k H n D ++ ys7)) 5 (0, 0))) := by
        show _ = _
        unfold joinD
        rw [← HC2.out, hF7.out]; exact hh7
      have hg7' : w.heap.size ≤ g7 := Nat.le_trans HB6.out.size hg7
      clear hg7 hF7 hT7 hh7 hb7
      go_wp2
      go_ret2
      exact .inr (.inr ⟨⟨HLK.out, HGD.out⟩, HSZ.out, D, HD.out, g7, ys7, rfl, hg7', HJ.out, HB7.out⟩)
    · rw [decide_eq_false hsz]
      have HSZ : Hid (¬ ∀ xs ∈ rowsS S, xs.length = H) := hsz
      have hc9 : w4.cell? ⟨1, 0, none⟩ = some (errAt (E 4)) := (HB4.out.cell (p := ⟨1, 0, none⟩) hlt4).trans HE.out.2.2.2
      unfold errAt at hc9
      clear hsz
      go_wp2
      go_region
      go_wp2
      go_ret2
      exact .inr (.inl ⟨⟨HLK.out, HGD.out⟩, HSZ.out, rfl, HB4.out.drew⟩)
  · have HNO : Hid (¬ (ln = k ∧ GoodT k r S)) := hno
    have HB3 : Hid (Below w.heap.size w w3) := HB2.out.trans (hb3.mono HB2.out.size)
    clear hno hb3 HNU
    go_wp2_with fail
    go_ret2
    exact .inl ⟨HNO.out, rfl, HB3.out⟩
set_option maxHeartbeats 2000000 in
theorem decode_size (k r : Nat) (n : Int) (ln cn : Nat) (a : Option Addr) (w : World) (E : Nat → Addr) (hE : ErrsC w E) (h1 : 1 ≤ k) (h2 : 2 ≤ r) (h3 : k + r ≤ 16) (hn0 : -9223372036854775808 ≤ n) (hn1 : n ≤ 9223372036854775807) (h : halfE k n ≠ 0) :
    Calls Tryd.prog 19 #[.int .i64 k, .int .i64 r, .int .i64 n, .slice a ln cn] w fun e w' => e = .returned (.tuple #[.slice none 0 0, evV E (halfE k n)]) ∧ Below w.heap.size w w' := by
  have HF : Hid _ := fun w E h => half_F k n w E h hn0 hn1
  rw [halfV_no h] at HF
  have hs : evV E (halfE k n) = errAt (E (halfE k n - 1)) := by unfold evV; rw [if_neg h]
  have HF2 : Hid _ := fun w (q : ErrsE w E) => HF.out w E q
  rw [hs] at HF2 ⊢
  generalize E (halfE k n - 1) = s at *
  have HR : Hid _ := fun w s h => hrows_F k r w s h h1 h2 h3
  have HE : Hid (ErrsC w E) := hE
  clear hs h hE HF
  unfold errAt at HF2 ⊢
  go_enter Tryd.func19, Tryd.ntmps19
  go_wp2_with fail
  refine Calls.mono (HR.out _ (E 1) HE.out.1.2) ?_
  rintro e w1 ⟨g1, m1, rfl, hm1, hg1, hh1, hb1⟩
  have HB1 : Hid (Below w.heap.size w (w1.alloc (.cells #[.int .i64 (2 * (k + r) : Nat), .int .i64 (2 * k : Nat), .slice (some ⟨g1, 0, none⟩) m1 m1] 65))) := hb1.alloc hb1.size _
  clear hm1 hg1 hh1 hb1
  go_wp2_with fail
  refine Calls.mono (HF2.out _ (errsE_below HE.out.1.1 HB1.out)) ?_
  rintro e w2 ⟨rfl, hb2⟩
  have HB2 : Hid (Below w.heap.size w w2) := HB1.out.trans (hb2.mono HB1.out.size)
  clear hb2
  go_wp2_with fail
  go_ret2
  exact ⟨rfl, HB2.out⟩
set_option maxHeartbeats 2000000 in
theorem decode_illegal (k r n : Int) (ln cn : Nat) (a : Option Addr) (w : World) (E : Nat → Addr) (hE : ErrsC w E) (hk0 : -9223372036854775808 ≤ k) (hk1 : k ≤ 9223372036854775807) (hr0 : -9223372036854775808 ≤ r) (hr1 : r ≤ 9223372036854775807) (hL : ¬ LegalP k r) :
    Calls Tryd.prog 19 #[.int .i64 k, .int .i64 r, .int .i64 n, .slice a ln cn] w fun e w' => e = .returned (.tuple #[.slice none 0 0, errAt (E 0)]) ∧ Below w.heap.size w w' := by
  have HR : Hid _ := fun u hu => hrows_bad k r u (E 0) hu hk0 hk1 hr0 hr1 hL
  have HE : Hid (ErrsC w E) := hE
  clear hE hL
  unfold errAt at HR ⊢
  go_enter Tryd.func19, Tryd.ntmps19
  go_wp2_with fail
  refine Calls.mono (HR.out _ HE.out.1.1.1) ?_
  rintro e w1 ⟨rfl, hb1⟩
  have HB1 : Hid (Below w.heap.size w w1) := hb1
  clear hb1
  go_wp2_with fail
  go_ret2
  exact ⟨rfl, HB1.out.alloc HB1.out.size _⟩
end Go.Proofs.YtmlpijlcpeoeaaaDoor

/- Shards of a stripe, chosen and exchanged; what they are made of. -/
namespace Go.Proofs.YtmlpijlcpeoeaaaDoor
open Go.RowKit Gf
set_option linter.unusedVariables false
set_option maxRecDepth 20000
theorem errsC_num {w : World} {es : List Addr} (h : ErrsAt w gsNum es) : ErrsC w (ofL es) := by
  have hl : es.length = 25 := h.1.symm
  have hget : ∀ j, (hj : j < 25) → es[j]? = some (ofL es j) := fun j hj => by
    unfold ofL
    rw [List.getElem?_eq_getElem (by omega), List.getD_eq_getElem?_getD, List.getElem?_eq_getElem (by omega)]; rfl
  exact ⟨errsF_num h, (h.2.2 2 _ _ rfl (hget 2 (by decide))).1, (h.2.2 3 _ _ rfl (hget 3 (by decide))).1, (h.2.2 4 _ _ rfl (hget 4 (by decide))).1⟩
/-- a shard of a stripe -/
def shS (k r H : Nat) (xs : List F) (x : Nat) : Int × List F × List F := ((x : Int), imgL k (carN (groupN k r)) H (strD H xs) (2 * x), imgL k (carN (groupN k r)) H (strD H xs) (2 * x + 1))
theorem stripe_join {k H n : Nat} {xs : List F} (hn : n = xs.length) (h : n ≤ 2 * k * H) : joinD k H n (strD H xs) = xs := by
  have := flat_halves H (2 * k) xs
  unfold joinD
  show (((List.range (2 * k)).map (hf H xs)).flatten).take n = xs
  rw [this, hn]
  exact take_pad (by omega)
/-- shards in memory, chosen by f -/
theorem sh8_pick {w : World} {B S k r H m q : Nat} {xs : List F} {gs : List (Nat × Nat)} {f : Nat → Nat} (hl : gs.length = 2 * m) (hT : w.heap[S]? = some (.cells (triC ((List.range m).map fun x => shV (rowsP H gs) (f x))) 38 (0, 0)))
    (hR : RowsP w B gs (imgL k (carN (groupN k r)) H (strD H xs))) (hf : ∀ x, x < m → f x < m) (hq : q ≤ m) : Sh8 w (some ⟨S, 0, none⟩) ((List.range q).map fun x => shS k r H xs (f x)) := by
  refine .inr ⟨S, 0, rfl, fun j n ys zs hj => ?_⟩
  have hjq : j < q := by have := (List.getElem?_eq_some_iff.1 hj).1; simpa using this
  rw [List.getElem?_map, List.getElem?_range hjq] at hj
  simp only [Option.map_some, Option.some.injEq, shS, Prod.mk.injEq] at hj
  obtain ⟨rfl, rfl, rfl⟩ := hj
  have hfj := hf j (by omega)
  have e0 : gs[2 * f j]? = some gs[2 * f j] := List.getElem?_eq_getElem (by omega)
  have e1 : gs[2 * f j + 1]? = some gs[2 * f j + 1] := List.getElem?_eq_getElem (by omega)
  generalize gs[2 * f j] = q0 at e0
  generalize gs[2 * f j + 1] = q1 at e1
  obtain ⟨g0, c0⟩ := q0
  obtain ⟨g1, c1⟩ := q1
  have ht : ((List.range m).map fun x => shV (rowsP H gs) (f x))[j]? = some (.int .i64 (f j : Int), .slice (some ⟨g0, 0, none⟩) H c0, .slice (some ⟨g1, 0, none⟩) H c1) := by
    rw [List.getElem?_map, List.getElem?_range (by omega), Option.map_some, shV, List.getD_eq_getElem?_getD, List.getD_eq_getElem?_getD, rowsP_at e0, rowsP_at e1]; rfl
  refine ⟨some ⟨g0, 0, none⟩, c0, some ⟨g1, 0, none⟩, c1, ?_, ?_, ?_, row8_has (hR.1 _ _ e0).2, row8_has (hR.1 _ _ e1).2⟩
  · rw [Nat.zero_add]; exact cellAt hT (j * 3) _ (triC_at (q := 0) ht (by decide))
  · rw [Nat.zero_add, imgL_len]; exact cellAt hT (j * 3 + 1) _ (triC_at (q := 1) ht (by decide))
  · rw [Nat.zero_add, imgL_len]; exact cellAt hT (j * 3 + 2) _ (triC_at (q := 2) ht (by decide))
theorem pick_good {k r H q m : Nat} {xs : List F} {f : Nat → Nat} (hf : ∀ x, x < m → f x < m) (hi : ∀ x y, x < m → y < m → f x = f y → x = y) (hq : q ≤ m) (hm : m = k + r) : GoodT k r ((List.range q).map fun x => shS k r H xs (f x)) := by
  refine ⟨fun s hs => ?_, ?_⟩
  · obtain ⟨x, hx, rfl⟩ := List.mem_map.1 hs
    have := hf x (by have := List.mem_range.1 hx; omega)
    simp only [shS]
    omega
  · rw [List.map_map]
    rw [List.Nodup, List.pairwise_map]
    refine List.Pairwise.imp_of_mem (fun {x y} hx hy hne e => hne ?_) (List.nodup_range (n := q))
    simp only [Function.comp, shS] at e
    exact hi x y (by have := List.mem_range.1 hx; omega) (by have := List.mem_range.1 hy; omega) (by omega)
theorem pick_num {k r H q : Nat} {xs : List F} {f : Nat → Nat} : numT ((List.range q).map fun x => shS k r H xs (f x)) = (List.range q).map f := by
  simp [numT, shS, Function.comp_def]
theorem rows_pick {k r H : Nat} {xs : List F} : ∀ L : List Nat, rowsS (L.map (shS k r H xs)) = (bothH L).map (imgL k (carN (groupN k r)) H (strD H xs))
  | [] => rfl
  | x :: L => by
    have := rows_pick (k := k) (r := r) (H := H) (xs := xs) L
    simp only [rowsS, List.map_cons, List.flatMap_cons, bothH, List.map_append] at this ⊢
    rw [this]; rfl
theorem pick_made {k r H : Nat} {xs : List F} (L : List Nat) (hl : L.length = k) : MadeOf k r H L (rowsS (L.map (shS k r H xs))) (strD H xs) := fun i hi b hb => by
  rw [rows_pick, bytesD]
  have hil : i < (bothH L).length := by rw [bothH_len]; omega
  rw [List.getD_eq_getElem?_getD, List.getElem?_map, List.getElem?_eq_getElem hil]
  simp only [Option.map_some, Option.getD_some]
  rw [imgL, at8_rowF hb, imgF]
  refine sumF_congr fun v hv => ?_
  rw [numM, List.getD_eq_getElem?_getD, List.getElem?_eq_getElem hil]; rfl
/-- two places exchanged -/
def swapP (f : Nat → Nat) (i j : Nat) : Nat → Nat := fun x => if x = j then f i else if x = i then f j else f x
theorem swapP_set {m i j : Nat} {f : Nat → Nat} {g : Nat → Tri} (hi : i < m) (hj : j < m) : (((List.range m).map fun x => g (f x)).set i (g (f j))).set j (g (f i)) = (List.range m).map fun x => g (swapP f i j x) := by
  apply List.ext_getElem?
  intro x
  rw [List.getElem?_set, List.getElem?_set]
  simp only [List.getElem?_map, List.length_set, List.length_map, List.length_range]
  by_cases h1 : j = x
  · subst h1
    rw [if_pos rfl, if_pos hj, List.getElem?_range hj]
    simp [swapP]
  · rw [if_neg h1]
    by_cases h2 : i = x
    · subst h2
      rw [if_pos rfl, if_pos hi, List.getElem?_range hi]
      simp [swapP, Ne.symm h1]
    · rw [if_neg h2]
      by_cases hx : x < m
      · rw [List.getElem?_range hx]
        simp [swapP, Ne.symm h1, Ne.symm h2]
      · rw [List.getElem?_eq_none (by simp; omega)]; rfl
theorem swapP_lt {m i j : Nat} {f : Nat → Nat} (hi : i < m) (hj : j < m) (hf : ∀ x, x < m → f x < m) : ∀ x, x < m → swapP f i j x < m := fun x hx => by
  unfold swapP
  split
  · exact hf i hi
  · split
    · exact hf j hj
    · exact hf x hx
theorem swapP_inj {m i j : Nat} {f : Nat → Nat} (hi : i < m) (hj : j < m) (hf : ∀ x y, x < m → y < m → f x = f y → x = y) : ∀ x y, x < m → y < m → swapP f i j x = swapP f i j y → x = y := fun x y hx hy e => by
  have h : ∀ x, swapP f i j x = f (if x = j then i else if x = i then j else x) := fun x => by
    unfold swapP
    by_cases h1 : x = j
    · rw [if_pos h1, if_pos h1]
    · rw [if_neg h1, if_neg h1]
      by_cases h2 : x = i
      · rw [if_pos h2, if_pos h2]
      · rw [if_neg h2, if_neg h2]
  rw [h, h] at e
  have := hf _ _ (by split <;> (try split) <;> omega) (by split <;> (try split) <;> omega) e
  revert this
  split <;> split <;> (try split) <;> (try split) <;> omega
theorem shV_form {H m x : Nat} {gs : List (Nat × Nat)} (hl : gs.length = 2 * m) (hx : x < m) : ∃ g0 c0 g1 c1, shV (rowsP H gs) x = (.int .i64 (x : Int), .slice (some ⟨g0, 0, none⟩) H c0, .slice (some ⟨g1, 0, none⟩) H c1) := by
  have e0 : gs[2 * x]? = some gs[2 * x] := List.getElem?_eq_getElem (by omega)
  have e1 : gs[2 * x + 1]? = some gs[2 * x + 1] := List.getElem?_eq_getElem (by omega)
  exact ⟨_, _, _, _, by rw [shV, List.getD_eq_getElem?_getD, List.getD_eq_getElem?_getD, rowsP_at e0, rowsP_at e1]; rfl⟩
end Go.Proofs.YtmlpijlcpeoeaaaDoor

/- The walk of CodeAnyShards: at all numbers, lists of bytes and picks. -/
namespace Go.Proofs.YtmlpijlcpeoeaaaDoor
open Go.RowKit Gf
set_option linter.unusedVariables false
set_option maxRecDepth 20000
set_option maxHeartbeats 4000000 in
theorem anys_illegal (k r at0 : Int) (l1 c1 l2 c2 l3 c3 : Nat) (a1 a2 a3 : Option Addr) (xs : List F) (w : World) (hk0 : -9223372036854775808 ≤ k) (hk1 : k ≤ 9223372036854775807) (hr0 : -9223372036854775808 ≤ r) (hr1 : r ≤ 9223372036854775807) (hl1 : l1 ≤ 140737488351232) (es : List Addr) (hes : ErrsAt w gsNum es) (hL : ¬ LegalP k r) :
    Calls Tryd.prog 6 #[.agg #[.int .i64 k, .int .i64 r, .slice a1 l1 c1, .slice a2 l2 c2, .slice a3 l3 c3, .int .i64 at0]] w fun e w' => e = .returned (.bool true) ∧ Below w.heap.size w w' := by
  have HE : Hid _ := hes
  have he : encE k r l1 = 1 := by unfold encE; rw [if_neg hL]
  have HS : Hid _ := fun u (hu : Below w.heap.size w u) => shards_bad k r l1 c1 a1 u (ofL es) (errsF_num (errsAt_below hes hu)) hk0 hk1 hr0 hr1 (by omega) (by rw [he]; decide)
  rw [he] at HS
  simp only [evV_succ] at HS
  have HG : Hid _ := fun u => legal_no k r u hk0 hk1 hr0 hr1 hL
  have HB0 : Hid (Below w.heap.size w (w.alloc (.cells #[.int .i64 k, .int .i64 r, .slice a1 l1 c1, .slice a2 l2 c2, .slice a3 l3 c3, .int .i64 at0] 56))) := (Below.refl _ _).alloc (Nat.le_refl _) _
  generalize hs : ofL es 0 = s at *
  have HCP : Hid (∀ u, Below w.heap.size w u → u.cell? ⟨0, 0, none⟩ = some (errAt s)) := fun u hu => by rw [← hs]; exact (errsF_num (errsAt_below HE.out hu)).1.1
  clear hes he hL
  unfold errAt at HS HCP
  go_enter Tryd.func6, Tryd.ntmps6
  go_wp2_with fail
  go_region
  go_wp2_with fail
  refine Calls.mono (alive7_ok _ (ofL es) (errsF_num (errsAt_below HE.out HB0.out.drew))) ?_
  rintro e w1 ⟨rfl, hb⟩
  have HB1 : Hid (Below w.heap.size w w1) := HB0.out.drew.trans (hb.mono HB0.out.drew.size)
  clear hb
  go_wp2_with fail
  refine Calls.mono (HS.out _ HB1.out) ?_
  rintro e w2 ⟨rfl, hb⟩
  have HB2 : Hid (Below w.heap.size w w2) := HB1.out.trans (hb.mono HB1.out.size)
  clear hb
  go_wp2_with fail
  refine Calls.mono (HG.out _) ?_
  rintro e w3 ⟨rfl, rfl⟩
  have c9 := HCP.out _ HB2.out
  have eqs := fun u : World => eq_same u s
  go_wp2
  go_ret
  exact ⟨rfl, HB2.out⟩
set_option maxHeartbeats 4000000 in
theorem anys_size (k r : Nat) (at0 : Int) (l1 c1 l2 c2 l3 c3 : Nat) (a1 a2 a3 : Option Addr) (w : World) (hl1 : l1 ≤ 140737488351232) (es : List Addr) (hes : ErrsAt w gsNum es) (h1 : 1 ≤ k) (h2 : 2 ≤ r) (h3 : k + r ≤ 16) (h : halfE k l1 ≠ 0) :
    Calls Tryd.prog 6 #[.agg #[.int .i64 k, .int .i64 r, .slice a1 l1 c1, .slice a2 l2 c2, .slice a3 l3 c3, .int .i64 at0]] w fun e w' => e = .returned (.bool true) ∧ Below w.heap.size w w' := by
  have HE : Hid _ := hes
  have he : encE k r l1 = halfE k l1 := by unfold encE; rw [if_pos ⟨by omega, by omega, by omega⟩]
  have HS : Hid _ := fun u (hu : Below w.heap.size w u) => shards_bad k r l1 c1 a1 u (ofL es) (errsF_num (errsAt_below hes hu)) (by omega) (by omega) (by omega) (by omega) (by omega) (by rw [he]; exact h)
  rw [he] at HS
  have HF : Hid _ := fun u => rhalf_F k l1 u
  have hle := halfE_25 k l1
  have h' : ((halfE k l1 : Int) != 0) = true := by simp only [bne_iff_ne, ne_eq]; omega
  have HG : Hid _ := fun u => legal_yes k r u h1 h2 h3
  have HB0 : Hid (Below w.heap.size w (w.alloc (.cells #[.int .i64 k, .int .i64 r, .slice a1 l1 c1, .slice a2 l2 c2, .slice a3 l3 c3, .int .i64 at0] 56))) := (Below.refl _ _).alloc (Nat.le_refl _) _
  generalize halfE k l1 = x at *
  generalize halfV k l1 = y at *
  clear hes he h
  go_enter Tryd.func6, Tryd.ntmps6
  go_wp2_with fail
  go_region
  go_wp2_with fail
  refine Calls.mono (alive7_ok _ (ofL es) (errsF_num (errsAt_below HE.out HB0.out.drew))) ?_
  rintro e w1 ⟨rfl, hb⟩
  have HB1 : Hid (Below w.heap.size w w1) := HB0.out.drew.trans (hb.mono HB0.out.drew.size)
  clear hb
  go_wp2_with fail
  refine Calls.mono (HS.out _ HB1.out) ?_
  rintro e w2 ⟨rfl, hb⟩
  have HB2 : Hid (Below w.heap.size w w2) := HB1.out.trans (hb.mono HB1.out.size)
  clear hb
  go_wp2_with fail
  refine Calls.mono (HG.out _) ?_
  rintro e w3 ⟨rfl, rfl⟩
  go_wp2_with fail
  refine Calls.mono (HF.out _) ?_
  rintro e w3 ⟨rfl, rfl⟩
  go_wp2_with fail
  refine Calls.mono (num_V x (errsAt_below HE.out HB2.out) hle) ?_
  rintro e w4 ⟨rfl, hb⟩
  have HB4 : Hid (Below w.heap.size w w4) := HB2.out.trans (hb.mono HB2.out.size)
  clear hb
  go_wp2
  go_ret
  exact ⟨rfl, HB4.out⟩
set_option maxHeartbeats 8000000 in
theorem anys_ok (k r : Nat) (at0 : Int) (l1 c1 l2 c2 l3 c3 : Nat) (a1 a2 a3 : Option Addr) (xs : List F) (ns : List Int) (w : World) (hla : l1 = xs.length) (hx : Row8 w a1 xs) (hl3 : l3 = ns.length) (hl3m : l3 ≤ 140737488355328) (hI : RowI w a3 ns) (hbd : ∀ x ∈ ns, -9223372036854775808 ≤ x ∧ x ≤ 9223372036854775807)
    (es : List Addr) (hes : ErrsAt w gsNum es) (h1 : 1 ≤ k) (h2 : 2 ≤ r) (h3 : k + r ≤ 16) (h4 : 1 ≤ l1) (h5 : l1 ≤ 128 * k) :
    Calls Tryd.prog 6 #[.agg #[.int .i64 k, .int .i64 r, .slice a1 l1 c1, .slice a2 l2 c2, .slice a3 l3 c3, .int .i64 at0]] w fun e w' => e = .returned (.bool true) ∧ Below w.heap.size w w' := by
  have HE : Hid _ := hes
  have HA : Hid (l1 = xs.length) := hla
  have HX : Hid (Row8 w a1 xs) := hx
  have HI : Hid (RowI w a3 ns) := hI
  have HL3 : Hid (l3 = ns.length) := hl3
  have HBD : Hid (∀ x ∈ ns, -9223372036854775808 ≤ x ∧ x ≤ 9223372036854775807) := hbd
  obtain ⟨m, hm⟩ : ∃ m, m = k + r := ⟨_, rfl⟩
  have HM : Hid (m = k + r) := hm
  have hm16 : m ≤ 16 := by omega
  have hm3 : 3 ≤ m := by omega
  have hkm : k ≤ m := by omega
  have hkr : (k : Int) + (r : Int) = (m : Int) := by omega
  obtain ⟨k1, k2, k3, _⟩ := cnt_half h1 (show k ≤ 14 by omega) h4 h5
  have HF : Hid _ := fun u => rhalf_F k l1 u
  rw [halfV_ok h1 (by omega) h4 h5, halfE_ok h1 (by omega) h4 h5] at HF
  obtain ⟨H, hH⟩ : ∃ H, H = cntN (2 * k) l1 := ⟨_, rfl⟩
  rw [← hH] at k1 k2 k3 HF
  have HH : Hid (H = cntN (2 * k) l1) := hH
  have HG : Hid _ := fun u => legal_yes k r u h1 h2 h3
  have HS : Hid _ := fun u (hu : Below w.heap.size w u) => shards_ok k r l1 c1 a1 xs u (ofL es) (errsF_num (errsAt_below hes hu)) h1 h2 h3 h4 h5 hla (row8_below hx hu)
  have HB0 : Hid (Below w.heap.size w (w.alloc (.cells #[.int .i64 k, .int .i64 r, .slice a1 l1 c1, .slice a2 l2 c2, .slice a3 l3 c3, .int .i64 at0] 56))) := (Below.refl _ _).alloc (Nat.le_refl _) _
  clear hes hla hx hm hH hI hl3 hbd
  go_enter Tryd.func6, Tryd.ntmps6
  go_wp2_with fail
  go_region
  go_wp2_with fail
  refine Calls.mono (alive7_ok _ (ofL es) (errsF_num (errsAt_below HE.out HB0.out.drew))) ?_
  rintro e w1 ⟨rfl, hb⟩
  have HB1 : Hid (Below w.heap.size w w1) := HB0.out.drew.trans (hb.mono HB0.out.drew.size)
  clear hb
  go_wp2_with fail
  refine Calls.mono (HS.out _ HB1.out) ?_
  rintro e w2 ⟨S, m2, gs, rfl, hm2, hSh, hb⟩
  obtain rfl : m2 = m := by rw [hm2, HM.out]
  have HB2 : Hid (Below w.heap.size w w2) := HB1.out.trans (hb.mono HB1.out.size)
  have HSW : Hid (w.heap.size ≤ S) := Nat.le_trans HB1.out.size hSh.1
  have HGL : Hid (gs.length = 2 * m2) := by show _ = _; rw [hSh.2.1, HM.out]
  have HT2 : Hid (w2.heap[S]? = some (.cells (triC ((List.range m2).map fun x => shV (rowsP H gs) x)) 38 (0, 0))) := by
    have := hSh.2.2.1
    rw [← HH.out, ← HM.out] at this; exact this
  have HR2 : Hid (RowsP w2 w1.heap.size gs (imgL k (carN (groupN k r)) H (strD H xs))) := by
    have := hSh.2.2.2
    rw [← HH.out] at this; exact this
  clear hb hm2 hSh
  go_wp2_with fail
  refine Calls.mono (HG.out _) ?_
  rintro e w3 ⟨rfl, rfl⟩
  go_wp2_with fail
  refine Calls.mono (HF.out _) ?_
  rintro e w3 ⟨rfl, rfl⟩
  go_wp2
  have hRows : ∀ u, w2.grownBy u (some S) → RowsP u w1.heap.size gs (imgL k (carN (groupN k r)) H (strD H xs)) := fun u hu => ⟨fun i p hp => ⟨(HR2.out.1 i p hp).1, has8_grownT hu (HR2.out.1 i p hp).2 HT2.out⟩, HR2.out.2⟩
  have HRW : Hid (∀ u, w2.grownBy u (some S) → RowsP u w1.heap.size gs (imgL k (carN (groupN k r)) H (strD H xs))) := hRows
  clear hRows
  go_loopw [12] (fun t wr => ∃ (j : Nat) (f : Nat → Nat), j ≤ m2 ∧ t = .int .i64 j ∧ Below w.heap.size w wr ∧ w2.grownBy wr (some S) ∧ wr.heap[S]? = some (.cells (triC ((List.range m2).map fun x => shV (rowsP H gs) (f x))) 38 (0, 0)) ∧
    (∀ x, x < m2 → f x < m2) ∧ (∀ x y, x < m2 → y < m2 → f x = f y → x = y)) (fun t _ => m2 - (intOf t).toNat)
  case atStart => exact ⟨0, fun x => x, by omega, rfl, HB2.out, World.grownBy.refl _ _, HT2.out, fun x h => h, fun x y _ _ e => e⟩
  case round =>
    obtain ⟨i, f, hi, rfl, hb, hg, hT, hf1, hf2⟩ := hrel
    have HB : Hid (Below w.heap.size w wr) := hb
    have HGR : Hid (w2.grownBy wr (some S)) := hg
    have HT : Hid (wr.heap[S]? = some (.cells (triC ((List.range m2).map fun x => shV (rowsP H gs) (f x))) 38 (0, 0))) := hT
    have HF1 : Hid (∀ x, x < m2 → f x < m2) := hf1
    have HF2 : Hid (∀ x y, x < m2 → y < m2 → f x = f y → x = y) := hf2
    clear hb hg hT hf1 hf2
    by_cases hlt : i < m2
    · go_upto_region 17 with fail
      go_cut [77] (fun s wx => s = .bool (decide (i < l3)) ∧ wr = wx)
      case first =>
        go_wp2
        go_meet
        exact ⟨by simp, rfl⟩
      case rest =>
      obtain ⟨rfl, rfl⟩ := hcut
      go_upto_if 77 with fail
      go_cut [13] (fun s wx => ∃ j : Nat, j < m2 ∧ s = .int .i64 j ∧ wr = wx)
      case first =>
        by_cases hl : i < l3
        · rw [decide_eq_true hl]
          have hget : ns[i]? = some ns[i] := List.getElem?_eq_getElem (by rw [← HL3.out]; exact hl)
          have hbx := HBD.out _ (List.getElem_mem (by rw [← HL3.out]; exact hl))
          generalize ns[i] = x at hget hbx
          obtain ⟨⟨t1, t2⟩, j, hj, hti⟩ := mod_place x (show 1 ≤ m2 by omega)
          rcases HI.out with e0 | ⟨b, off, rfl, hrows⟩
          · rw [e0] at hget; simp at hget
          have c3' := cell_later HB.out (hrows i x hget)
          have hx1 := hbx.1
          have hx2 := hbx.2
          have hn0 : ((m2 : Int) == 0) = false := beq_eq_false_iff_ne.2 (by omega)
          have HTI : Hid ((x.tmod m2 + m2) % (m2 : Int) = j) := by
            show _ = _
            rw [← hti]; simp
          clear hget hrows hbx hti
          go_wp2
          go_meet
          exact ⟨j, hj, by rw [HTI.out], rfl⟩
        · rw [decide_eq_false hl]
          go_wp2
          go_meet
          exact ⟨i, hlt, rfl, rfl⟩
      case rest =>
      obtain ⟨j, hj, rfl, rfl⟩ := hcut
      have hfi := HF1.out i hlt
      have hfj := HF1.out j hj
      obtain ⟨gi0, ci0, gi1, ci1, hvi⟩ := shV_form (H := H) HGL.out hfi
      obtain ⟨gj0, cj0, gj1, cj1, hvj⟩ := shV_form (H := H) HGL.out hfj
      have gi : ((List.range m2).map fun x => shV (rowsP H gs) (f x))[i]? = some (.int .i64 (f i : Int), .slice (some ⟨gi0, 0, none⟩) H ci0, .slice (some ⟨gi1, 0, none⟩) H ci1) := by rw [← hvi, List.getElem?_map, List.getElem?_range hlt]; rfl
      have gj : ((List.range m2).map fun x => shV (rowsP H gs) (f x))[j]? = some (.int .i64 (f j : Int), .slice (some ⟨gj0, 0, none⟩) H cj0, .slice (some ⟨gj1, 0, none⟩) H cj1) := by rw [← hvj, List.getElem?_map, List.getElem?_range hj]; rfl
      have e0 := cellAt HT.out (i * 3) _ (triC_at (q := 0) gi (by decide))
      have e1 := cellAt HT.out (i * 3 + 1) _ (triC_at (q := 1) gi (by decide))
      have e2 := cellAt HT.out (i * 3 + 2) _ (triC_at (q := 2) gi (by decide))
      have f0 := cellAt HT.out (j * 3) _ (triC_at (q := 0) gj (by decide))
      have f1 := cellAt HT.out (j * 3 + 1) _ (triC_at (q := 1) gj (by decide))
      have f2 := cellAt HT.out (j * 3 + 2) _ (triC_at (q := 2) gj (by decide))
      have zi0 : wr.frozen? ⟨S, i * 3, none⟩ = false := frozen_of_row _ _ _ _ _ HT.out
      have zi1 : wr.frozen? ⟨S, i * 3 + 1, none⟩ = false := frozen_of_row _ _ _ _ _ HT.out
      have zi2 : wr.frozen? ⟨S, i * 3 + 2, none⟩ = false := frozen_of_row _ _ _ _ _ HT.out
      have zj0 : wr.frozen? ⟨S, j * 3, none⟩ = false := frozen_of_row _ _ _ _ _ HT.out
      have zj1 : wr.frozen? ⟨S, j * 3 + 1, none⟩ = false := frozen_of_row _ _ _ _ _ HT.out
      have zj2 : wr.frozen? ⟨S, j * 3 + 2, none⟩ = false := frozen_of_row _ _ _ _ _ HT.out
      simp only [tri3] at e0 e1 e2 f0 f1 f2
      have HVI : Hid _ := hvi
      have HVJ : Hid _ := hvj
      clear hvi hvj gi gj
      by_cases hij : i = j
      · subst hij
        have HIJ := HVI.out.symm.trans HVJ.out
        simp only [Prod.mk.injEq, Value.slice.injEq, Option.some.injEq, Addr.mk.injEq, and_true, true_and] at HIJ
        obtain ⟨⟨rfl, rfl⟩, rfl, rfl⟩ := HIJ
        clear f0 f1 f2
        go_wp2
        go_region
        go_wp2
        refine ⟨⟨i + 1, swapP f i i, by omega, by go_num, ?_, ?_, ?_, swapP_lt hlt hlt HF1.out, swapP_inj hlt hlt HF2.out⟩, by simp [intOf]; omega⟩
        · exact (((((((HB.out.setCell (by exact HSW.out) _).setCell (by exact HSW.out) _).setCell (by exact HSW.out) _).setCell (by exact HSW.out) _).setCell (by exact HSW.out) _).setCell (by exact HSW.out) _).drew)
        · exact grownBy_drew (grownBy_setCell (grownBy_setCell (grownBy_setCell (grownBy_setCell (grownBy_setCell (grownBy_setCell HGR.out _) _) _) _) _) _)
        · have e := tri_store (j := i) (a := .int .i64 (f i : Int)) (b := .slice (some ⟨gi0, 0, none⟩) H ci0) (c := .slice (some ⟨gi1, 0, none⟩) H ci1) (tri_store (j := i) (a := .int .i64 (f i : Int)) (b := .slice (some ⟨gi0, 0, none⟩) H ci0) (c := .slice (some ⟨gi1, 0, none⟩) H ci1) HT.out)
          rw [← HVI.out, swapP_set hlt hlt] at e
          exact e
      · have n00 : ¬ i * 3 = j * 3 := by omega
        have m00 : ¬ j * 3 = i * 3 := by omega
        have n01 : ¬ i * 3 = j * 3 + 1 := by omega
        have m01 : ¬ j * 3 + 1 = i * 3 := by omega
        have n02 : ¬ i * 3 = j * 3 + 2 := by omega
        have m02 : ¬ j * 3 + 2 = i * 3 := by omega
        have n10 : ¬ i * 3 + 1 = j * 3 := by omega
        have m10 : ¬ j * 3 = i * 3 + 1 := by omega
        have n11 : ¬ i * 3 + 1 = j * 3 + 1 := by omega
        have m11 : ¬ j * 3 + 1 = i * 3 + 1 := by omega
        have n12 : ¬ i * 3 + 1 = j * 3 + 2 := by omega
        have m12 : ¬ j * 3 + 2 = i * 3 + 1 := by omega
        have n20 : ¬ i * 3 + 2 = j * 3 := by omega
        have m20 : ¬ j * 3 = i * 3 + 2 := by omega
        have n21 : ¬ i * 3 + 2 = j * 3 + 1 := by omega
        have m21 : ¬ j * 3 + 1 = i * 3 + 2 := by omega
        have n22 : ¬ i * 3 + 2 = j * 3 + 2 := by omega
        have m22 : ¬ j * 3 + 2 = i * 3 + 2 := by omega
        go_wp2
        go_region
        go_wp2
        refine ⟨⟨i + 1, swapP f i j, by omega, by go_num, ?_, ?_, ?_, swapP_lt hlt hj HF1.out, swapP_inj hlt hj HF2.out⟩, by simp [intOf]; omega⟩
        · exact (((((((HB.out.setCell (by exact HSW.out) _).setCell (by exact HSW.out) _).setCell (by exact HSW.out) _).setCell (by exact HSW.out) _).setCell (by exact HSW.out) _).setCell (by exact HSW.out) _).drew)
        · exact grownBy_drew (grownBy_setCell (grownBy_setCell (grownBy_setCell (grownBy_setCell (grownBy_setCell (grownBy_setCell HGR.out _) _) _) _) _) _)
        · have e := tri_store (j := j) (a := .int .i64 (f i : Int)) (b := .slice (some ⟨gi0, 0, none⟩) H ci0) (c := .slice (some ⟨gi1, 0, none⟩) H ci1) (tri_store (j := i) (a := .int .i64 (f j : Int)) (b := .slice (some ⟨gj0, 0, none⟩) H cj0) (c := .slice (some ⟨gj1, 0, none⟩) H cj1) HT.out)
          rw [← HVI.out, ← HVJ.out, swapP_set hlt hj] at e
          exact e
    · obtain rfl : m2 = i := by omega
      have hkS : k ≤ m2 := hkm
      obtain ⟨SS, hSS⟩ : ∃ SS, SS = (List.range k).map fun x => shS k r H xs (f x) := ⟨_, rfl⟩
      have HSS : Hid (SS = (List.range k).map fun x => shS k r H xs (f x)) := hSS
      have hsl : SS.length = k := by rw [hSS]; simp
      have HSL : Hid (SS.length = k) := hsl
      have HS8 : Hid (Sh8 wr (some ⟨S, 0, none⟩) SS) := by
        show Sh8 ..
        rw [hSS]; exact sh8_pick HGL.out HT.out (HRW.out _ HGR.out) HF1.out hkm
      have HGD : Hid (GoodT k r SS) := by
        show GoodT ..
        rw [hSS]; exact pick_good HF1.out HF2.out hkm HM.out
      have HDG : Hid _ := decode_G k r l1 k m2 (some ⟨S, 0, none⟩) SS wr (ofL es) (errsC_num (errsAt_below HE.out HB.out)) h1 h2 h3 h4 h5 hsl.symm (by omega) HS8.out
      rw [← HH.out] at HDG
      clear hSS hsl HG HS HF
      go_wp2_with fail
      refine Calls.mono HDG.out ?_
      rintro e w4 (⟨hno, _⟩ | ⟨_, hno, _⟩ | ⟨_, _, D, hD, g, ys, rfl, hg, hh, hb⟩)
      · exact absurd ⟨by first | rfl | trivial, HGD.out⟩ hno
      · refine absurd (fun zs hz => ?_) hno
        rw [HSS.out] at hz
        have := rows_pick (k := k) (r := r) (H := H) (xs := xs) ((List.range k).map f)
        rw [List.map_map] at this
        rw [show ((List.range k).map fun x => shS k r H xs (f x)) = (List.range k).map (shS k r H xs ∘ f) from rfl, this] at hz
        obtain ⟨x, _, rfl⟩ := List.mem_map.1 hz
        exact imgL_len _ _ _ _ _
      · have hM2 : MadeOf k r H (numT SS) (rowsS SS) (strD H xs) := by
          have := pick_made (k := k) (r := r) (H := H) (xs := xs) ((List.range k).map f) (by simp)
          rw [List.map_map] at this
          rw [HSS.out, pick_num]
          exact this
        have hje : joinD k H l1 D = xs := by
          rw [joinD_congr (made_one HGD.out HSL.out h3 hD hM2)]
          exact stripe_join HA.out k3
        rw [hje] at hh
        have kA := conv8 (la := l1) (ca := l1) HA.out (row8_front hh)
        have HB4 : Hid (Below w.heap.size w w4) := HB.out.trans (hb.mono HB.out.size)
        have kB := conv8 (la := l1) (ca := c1) HA.out (row8_below HX.out HB4.out)
        have eA := strEq8 xs
        generalize str8 xs = sA at *
        clear hD hh hb hM2 hje hg
        go_wp2
        go_ret
        exact ⟨rfl, HB4.out⟩
theorem anys_all (k r at0 : Int) (l1 c1 l2 c2 l3 c3 : Nat) (a1 a2 a3 : Option Addr) (xs : List F) (ns : List Int) (w : World) (hk0 : -9223372036854775808 ≤ k) (hk1 : k ≤ 9223372036854775807) (hr0 : -9223372036854775808 ≤ r) (hr1 : r ≤ 9223372036854775807) (hla : l1 = xs.length) (hl1 : l1 ≤ 140737488351232) (hx : Row8 w a1 xs) (hl3 : l3 = ns.length) (hl3m : l3 ≤ 140737488355328) (hI : RowI w a3 ns) (hbd : ∀ x ∈ ns, -9223372036854775808 ≤ x ∧ x ≤ 9223372036854775807)
    (es : List Addr) (hes : ErrsAt w gsNum es) :
    Calls Tryd.prog 6 #[.agg #[.int .i64 k, .int .i64 r, .slice a1 l1 c1, .slice a2 l2 c2, .slice a3 l3 c3, .int .i64 at0]] w fun e w' => e = .returned (.bool true) ∧ Below w.heap.size w w' := by
  by_cases hL : LegalP k r
  · obtain ⟨p, q, rfl, rfl, h1, h2, h3⟩ := legal_nat hL
    by_cases h : halfE p l1 = 0
    · obtain ⟨a, m, ha, hm, _, _, h4, h5⟩ := half_ok h
      obtain rfl : l1 = m := by omega
      obtain rfl : p = a := by omega
      exact anys_ok p q at0 l1 c1 l2 c2 l3 c3 a1 a2 a3 xs ns w hla hx hl3 hl3m hI hbd es hes h1 h2 h3 h4 h5
    · exact anys_size p q at0 l1 c1 l2 c2 l3 c3 a1 a2 a3 w hl1 es hes h1 h2 h3 h
  · exact anys_illegal k r at0 l1 c1 l2 c2 l3 c3 a1 a2 a3 xs w hk0 hk1 hr0 hr1 hl1 es hes hL
end Go.Proofs.YtmlpijlcpeoeaaaDoor
