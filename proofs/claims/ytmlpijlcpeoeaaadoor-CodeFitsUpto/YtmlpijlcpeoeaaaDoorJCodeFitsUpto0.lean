/- The law CodeFits holds where what comes in is of bulk at most 1048576: Fits of package code answers as the chapter says, at all numbers and lists of halves; no other condition but what the card ties. -/
import Derived.Test.YtmlpijlcpeoeaaaDoorGfDot
import Derived.ProofKit
import Derived.OpenShut
import Derived.SizedLaws
import Derived.Lib.SmallJoins
import Derived.Test.YtmlpijlcpeoeaaaDoorMatO
import Derived.Test.YtmlpijlcpeoeaaaDoorOwn
import Derived.Deep.Matrix
import Derived.Test.YtmlpijlcpeoeaaaDoorRows
import Derived.Test.YtmlpijlcpeoeaaaDoorJCodeFitsUpto1
import Derived.Test.YtmlpijlcpeoeaaaDoorBaseG
import Derived.Test.YtmlpijlcpeoeaaaDoorMatRow
import Derived.Test.YtmlpijlcpeoeaaaDoorMatTake
import Derived.Test.YtmlpijlcpeoeaaaDoorRegHeld
import Derived.Test.YtmlpijlcpeoeaaaDoorNumApart
import Derived.Laws.OwnMore
import Derived.Test.YtmlpijlcpeoeaaaDoorRef2
import Derived.Test.YtmlpijlcpeoeaaaDoorRefOf
import Derived.Lib.ItoaNum
import Derived.Lib.ItoaWalk
import Derived.Test.YtmlpijlcpeoeaaaDoorHolds
import Derived.Deep.DeepCutAuto
import Derived.BigRegion
import Derived.Test.YtmlpijlcpeoeaaaDoorErrs
import Derived.Test.YtmlpijlcpeoeaaaDoorShardsA
import Derived.Test.YtmlpijlcpeoeaaaDoorMatS
import Derived.Test.YtmlpijlcpeoeaaaDoorInts
import Derived.Deep.RegionHeld3
import Derived.Test.YtmlpijlcpeoeaaaDoorCards
import Derived.Test.YtmlpijlcpeoeaaaDoorTie
import Derived.WalkKit
import Derived.ShutString
import Derived.ChangeOld
import Derived.Below
import Derived.Lay
import Derived.SevenTiedAt
import Derived.Stop.Joined
import Derived.Deep.DeepHandedRow
/- How a list of bytes that came in is read: facts for the frames of the laws; nothing of the program is proved here. -/
namespace Go.Proofs.YtmlpijlcpeoeaaaDoor
open Go.ChangeShapes Go.WideShapes Go.ChangeAt Go.RowKit Gf
set_option maxRecDepth 20000
theorem own : ownKnob Tryd.prog.godebug = none := by kernel_rfl
theorem laidOut : laidOutB Tryd.prog = true := by kernel_rfl
theorem bytes8 : Tryd.prog.bytesOf 5 = 1 := by kernel_rfl
theorem getD_get {α : Type} (l : List α) (j : Nat) (d : α) (h : j < l.length) : l.getD j d = l[j] := by simp [List.getD, h]
theorem open8_cells {H : Type} {enc : TypeId × Value → H} {W : World} {cs : List Value} {x : DataW H × List MemPlace} {fuel : Nat}
    (h : DataW.trod enc Tryd.prog W 0 (fun _ => true) true fuel 22 cs = some x) :
    ∃ a len cap xs, cs = [.slice a len cap] ∧ len = xs.length ∧ len ≤ cap ∧ Row8 W a xs ∧ (x.1 = .nil ∧ a = none ∧ cap = 0 ∨ ∃ es sp, x.1 = .slice es sp ∧ es.length + sp.length = cap) ∧ (a = none → cap = 0) := by
  rcases open_ints Tryd.underlying22 Tryd.underlying5 (by kernel_rfl) h with ⟨hcs, hx⟩ | ⟨ad, l, c, zs, hcs, _, hl, hm, hz, hx, hcell, hwz⟩
  · exact ⟨none, 0, 0, [], hcs, rfl, Nat.le_refl _, .inl rfl, .inl ⟨by rw [hx], rfl, rfl⟩, fun _ => rfl⟩
  · have hz' : zs.length = c := by simpa using hz
    refine ⟨some ad, l, c, (zs.take l).map toF, hcs, by simp; omega, hl, ?_, .inr ⟨_, _, by rw [hx], by simp [lits]; omega⟩, fun e => by cases e⟩
    by_cases h0 : l = 0
    · left; simp [h0]
    · right
      have hc := hcell 0 (by omega)
      obtain ⟨b, off, spot⟩ := ad
      have hspot : spot = none := by simpa [Addr.add] using World.cell?_spot hc
      subst hspot
      refine ⟨b, off, rfl, fun j hj => ?_⟩
      have hj' : j < l := by simp at hj; omega
      have hcj := hcell j (by omega)
      have hw := hwz (zs.getD j 0) (by
        rw [getD_get _ _ _ (by omega)]; exact List.getElem_mem _)
      have hb := bounds_u8 hw
      have e : ((at8 ((zs.take l).map toF) j).toNat : Int) = zs.getD j 0 := by
        unfold at8
        rw [getD_get _ _ _ (by simp; omega)]
        simp only [List.getElem_map, List.getElem_take]
        rw [getD_get _ _ _ (by omega)] at hb ⊢
        exact val_toF hb.1 hb.2
      rw [e, ← hcj]
      by_cases hj0 : j = 0
      · subst hj0; rfl
      · simp [Addr.add, hj0]
theorem open8 {H : Type} {enc : TypeId × Value → H} {W : World} {v : Value} {d : DataW H} {p : List MemPlace} {base : Nat}
    (hv : Value.okWide Tryd.prog W .any base 22 v) (h : DataW.Trod enc Tryd.prog W 0 (fun _ => true) true 22 v d p) :
    ∃ a len cap xs, v = .slice a len cap ∧ len = xs.length ∧ len ≤ cap ∧ Row8 W a xs ∧ (d = .nil ∧ a = none ∧ cap = 0 ∨ ∃ es sp, d = .slice es sp ∧ es.length + sp.length = cap) ∧ (a = none → cap = 0) := by
  obtain ⟨fuel, hf⟩ := h
  obtain ⟨a, len, cap, xs, hcs, h1, h2, h3, h4, h5⟩ := open8_cells hf
  obtain ⟨a', len', cap', rfl⟩ := okWide_slice Tryd.underlying22 hv
  simp [Value.cells] at hcs
  obtain ⟨rfl, rfl, rfl⟩ := hcs
  exact ⟨_, _, _, xs, rfl, h1, h2, h3, h4, h5⟩
end Go.Proofs.YtmlpijlcpeoeaaaDoor

/- How a matrix, and two numbers, come in: facts for the frames of the laws; nothing of the program is proved here. -/
namespace Go.Proofs.YtmlpijlcpeoeaaaDoor
open Go.ChangeShapes Go.WideShapes Go.ChangeAt Go.RowKit Gf Go.Joins
set_option linter.unusedVariables false
set_option maxRecDepth 20000
theorem cellsMat : Tryd.prog.cellsOf 65 = 3 := by kernel_rfl
theorem cellsInt : Tryd.prog.cellsOf 3 = 1 := by kernel_rfl
/-- a list's datum, and its room -/
def Room2 {H : Type} (d : DataW H) (cap : Nat) : Prop := d = .nil ∧ cap = 0 ∨ ∃ es sp, d = .slice es sp ∧ es.length + sp.length = cap
theorem room2_le {H : Type} {d : DataW H} {cap : Nat} (h : Room2 d cap) (hw : ∀ n ∈ DataW.weights Tryd.prog 22 d, n ≤ reachBytes) : cap ≤ 140737488351232 := by
  rcases h with ⟨_, rfl⟩ | ⟨es, sp, rfl, rfl⟩
  · omega
  · have := hw ((es.length + sp.length) * Tryd.prog.bytesOf 5) (by simp [DataW.weights, Tryd.underlying22])
    rw [bytes8] at this
    simp only [reachBytes] at this
    omega
theorem openMat {H : Type} {enc : TypeId × Value → H} {W : World} {v : Value} {d : DataW H} {p : List MemPlace} {base : Nat} {ts : List TypeId} {ds : List (DataW H)} {j : Nat}
    (hv : Value.okWide Tryd.prog W .any base 65 v) (h : DataW.Trod enc Tryd.prog W 0 (fun _ => true) true 65 v d p)
    (hsz : (DataW.weightsEach Tryd.prog ts ds).all (· ≤ reachBytes) = true) (ht : ts[j]? = some 65) (hd : ds[j]? = some d) :
    ∃ (r c : Int) (a : Option Addr) (l cap : Nat) (xs : List F), v = .agg #[.int .i64 r, .int .i64 c, .slice a l cap] ∧ l = xs.length ∧ Row8 W a xs ∧ l ≤ cap ∧ cap ≤ 140737488351232 ∧ (a = none → cap = 0) ∧
      -9223372036854775808 ≤ r ∧ r ≤ 9223372036854775807 ∧ -9223372036854775808 ≤ c ∧ c ≤ 9223372036854775807 := by
  obtain ⟨v0, v1, v2, y0, y1, y2, n, rfl, rfl, _, e0, e1, e2⟩ := open_agg3 Tryd.underlying65 (by kernel_rfl) cellsMat hv h
  obtain ⟨r, s0, _, w0⟩ := DataW.trod_int Tryd.underlying3 e0
  obtain ⟨c, s1, _, w1⟩ := DataW.trod_int Tryd.underlying3 e1
  obtain ⟨a, la, ca, xs, s2, e, ka, ra, da, na⟩ := open8_cells e2
  simp only [List.cons.injEq, and_true] at s0 s1 s2
  subst s0 s1 s2
  have hw : ∀ n ∈ DataW.weights Tryd.prog 65 (.agg [y0.1, y1.1, y2.1]), n ≤ reachBytes := fun n hn => by
    simpa using List.all_eq_true.1 hsz _ (DataW.weights_mem_each ht hd n hn)
  simp only [DataW.weights, Tryd.underlying65] at hw
  have r2 : Room2 y2.1 ca := da.imp (fun h => ⟨h.1, h.2.2⟩) id
  refine ⟨r, c, a, la, ca, xs, rfl, e, ra, ka, room2_le r2 ?_, na, (bounds_i64 w0).1, (bounds_i64 w0).2, (bounds_i64 w1).1, (bounds_i64 w1).2⟩
  exact fun n hn => hw n (by simp [DataW.weightsEach, hn])
end Go.Proofs.YtmlpijlcpeoeaaaDoor

/- How a list of lists of bytes, and a list of numbers, come in: facts for the frames of the laws; nothing of the program is proved here. -/
namespace Go.Proofs.YtmlpijlcpeoeaaaDoor
open Go.ChangeShapes Go.WideShapes Go.ChangeAt Go.RowKit Gf Go.Joins
set_option linter.unusedVariables false
set_option maxRecDepth 20000
theorem addr_off {w : World} {ad : Addr} {v : Value} (h : w.cell? (ad.add 0) = some v) : ∃ b off, ad = ⟨b, off, none⟩ := by
  obtain ⟨b, off, spot⟩ := ad
  have hspot : spot = none := by simpa [Addr.add] using World.cell?_spot h
  subst hspot
  exact ⟨b, off, rfl⟩
theorem add_off (b off j : Nat) : (⟨b, off, none⟩ : Addr).add j = ⟨b, off + j, none⟩ := by unfold Addr.add; split <;> simp_all
theorem cellsSl : Tryd.prog.cellsOf 22 = 1 := by kernel_rfl
theorem cellsU8 : Tryd.prog.cellsOf 5 = 1 := by kernel_rfl
theorem openRows {H : Type} {enc : TypeId × Value → H} {W : World} {v : Value} {d : DataW H} {p : List MemPlace} {base : Nat}
    (hv : Value.okWide Tryd.prog W .any base 25 v) (h : DataW.Trod enc Tryd.prog W 0 (fun _ => true) true 25 v d p) :
    ∃ a l cap L, v = .slice a l cap ∧ l = List.length L ∧ Rows8 W a L ∧
      ∀ b off, a = some ⟨b, off, none⟩ → ∀ j n a' cap', W.cell? ⟨b, off + j, none⟩ = some (.slice a' n cap') → j < L.length → a' = none → cap' = 0 := by
  obtain ⟨fuel, hf⟩ := h
  obtain ⟨a0, l0, c0, rfl⟩ := okWide_slice Tryd.underlying25 hv
  rcases Deep.open_int_rows Tryd.underlying25 Tryd.underlying22 Tryd.underlying5 cellsSl cellsU8 hf with ⟨hcs, hx⟩ | ⟨ad, len, cap, A, L, C, Z, hcs, _, hl, hm, hx, hr⟩
  · simp [Value.cells] at hcs
    obtain ⟨rfl, rfl, rfl⟩ := hcs
    exact ⟨none, 0, 0, [], rfl, rfl, .inl rfl, fun b off e => by cases e⟩
  · simp [Value.cells] at hcs
    obtain ⟨rfl, rfl, rfl⟩ := hcs
    refine ⟨some ad, l0, c0, (List.range l0).map fun r => ((Z r).take (L r)).map toF, rfl, by simp, ?_, ?_⟩
    · by_cases h0 : l0 = 0
      · left; simp [h0]
      · right
        obtain ⟨b, off, rfl⟩ := addr_off (hr 0 (by omega)).1
        refine ⟨b, off, rfl, fun j xs hj => ?_⟩
        have hjl : j < l0 := by have := (List.getElem?_eq_some_iff.1 hj).1; simpa using this
        rw [List.getElem?_map, List.getElem?_range hjl] at hj
        obtain rfl := Option.some.inj hj
        obtain ⟨h1, h2, h3, h4, h5, h6, h7⟩ := hr j (by omega)
        rw [add_off] at h1
        have hlen : (((Z j).take (L j)).map toF).length = L j := by rw [List.length_map, List.length_take]; omega
        refine ⟨A j, C j, by rw [hlen]; exact h1, ?_⟩
        by_cases hL0 : L j = 0
        · left; simp [hL0]
        · right
          cases hA : A j with
          | none => have := h6 hA; omega
          | some ad' =>
            obtain ⟨_, h8⟩ := h7 ad' hA
            obtain ⟨b', off', rfl⟩ := addr_off (h8 0 (by omega))
            refine ⟨b', off', rfl, fun i hi => ?_⟩
            rw [hlen] at hi
            have hc := h8 i (by omega)
            rw [add_off] at hc
            rw [hc]
            have hb := bounds_u8 (h5 ((Z j).getD i 0) (by rw [getD_get _ _ _ (by omega)]; exact List.getElem_mem _))
            have e : ((at8 (((Z j).take (L j)).map toF) i).toNat : Int) = (Z j).getD i 0 := by
              unfold at8
              rw [getD_get _ _ _ (by rw [hlen]; exact hi)]
              simp only [List.getElem_map, List.getElem_take]
              rw [getD_get _ _ _ (by omega)] at hb ⊢
              exact val_toF hb.1 hb.2
            rw [e]
    · intro b off e j n a' cap' hc hj ha
      simp only [List.length_map, List.length_range] at hj
      obtain ⟨h1, h2, h3, h4, h5, h6, h7⟩ := hr j (by omega)
      obtain rfl := Option.some.inj e
      rw [add_off, hc] at h1
      simp only [Option.some.injEq, Value.slice.injEq] at h1
      obtain ⟨e1, _, e3⟩ := h1
      rw [e3]; exact h6 (by rw [← e1]; exact ha)
theorem bytesInt : Tryd.prog.bytesOf 3 = 8 := by kernel_rfl
theorem openInts {H : Type} {enc : TypeId × Value → H} {W : World} {v : Value} {d : DataW H} {p : List MemPlace} {base : Nat} {ts : List TypeId} {ds : List (DataW H)} {j : Nat}
    (hv : Value.okWide Tryd.prog W .any base 54 v) (h : DataW.Trod enc Tryd.prog W 0 (fun _ => true) true 54 v d p)
    (hsz : (DataW.weightsEach Tryd.prog ts ds).all (· ≤ reachBytes) = true) (ht : ts[j]? = some 54) (hd : ds[j]? = some d) :
    ∃ a l cap ns, v = .slice a l cap ∧ l = List.length ns ∧ RowI W a ns ∧ l ≤ cap ∧ cap ≤ 17592186043904 ∧ (a = none → cap = 0) ∧ ∀ n ∈ ns, -9223372036854775808 ≤ n ∧ n ≤ 9223372036854775807 := by
  obtain ⟨fuel, hf⟩ := h
  obtain ⟨a0, l0, c0, rfl⟩ := okWide_slice Tryd.underlying54 hv
  rcases open_ints Tryd.underlying54 Tryd.underlying3 cellsInt hf with ⟨hcs, hx⟩ | ⟨ad, l, c, zs, hcs, _, hl, hm, hz, hx, hcell, hwz⟩
  · simp [Value.cells] at hcs
    obtain ⟨rfl, rfl, rfl⟩ := hcs
    exact ⟨none, 0, 0, [], rfl, rfl, .inl rfl, Nat.le_refl _, by omega, fun _ => rfl, fun n hn => by cases hn⟩
  · simp [Value.cells] at hcs
    obtain ⟨rfl, rfl, rfl⟩ := hcs
    have hz' : zs.length = c0 := by simpa using hz
    have hcap : c0 ≤ 17592186043904 := by
      have hw : ∀ n ∈ DataW.weights Tryd.prog 54 d, n ≤ reachBytes := fun n hn => by simpa using List.all_eq_true.1 hsz _ (DataW.weights_mem_each ht hd n hn)
      simp only [Prod.mk.injEq] at hx
      rw [hx.1] at hw
      have := hw (((lits .i64 (zs.take l0) : List (DataW H)).length + (lits .i64 (zs.drop l0) : List (DataW H)).length) * Tryd.prog.bytesOf 3) (by simp [DataW.weights, Tryd.underlying54])
      rw [bytesInt] at this
      simp only [reachBytes, lits, List.length_map, List.length_take, List.length_drop] at this
      omega
    refine ⟨some ad, l0, c0, zs.take l0, rfl, by rw [List.length_take]; omega, ?_, hl, hcap, (fun e => by cases e), fun n hn => bounds_i64 (hwz n (List.mem_of_mem_take hn))⟩
    by_cases h0 : l0 = 0
    · left; simp [h0]
    · right
      obtain ⟨b, off, rfl⟩ := addr_off (hcell 0 (by omega))
      refine ⟨b, off, rfl, fun j m hj => ?_⟩
      have hjl : j < l0 := by have := (List.getElem?_eq_some_iff.1 hj).1; rw [List.length_take] at this; omega
      have hc := hcell j (by omega)
      rw [add_off] at hc
      rw [hc]
      rw [List.getElem?_take_of_lt hjl] at hj
      rw [List.getD_eq_getElem?_getD, hj]; rfl
end Go.Proofs.YtmlpijlcpeoeaaaDoor

/- How a list of lists of bytes comes in, with the bounds of its rooms: facts for the frames of the laws; nothing of the program is proved here. -/
namespace Go.Proofs.YtmlpijlcpeoeaaaDoor
open Go.ChangeShapes Go.WideShapes Go.ChangeAt Go.RowKit Gf Go.Joins
set_option linter.unusedVariables false
set_option maxRecDepth 20000
/-- a list of rows in memory, the rooms bounded -/
def RowsB (w : World) (a : Option Addr) (L : List (List F)) : Prop :=
  L = [] ∨ ∃ b off, a = some ⟨b, off, none⟩ ∧ ∀ j xs, L[j]? = some xs → ∃ a' cap', w.cell? ⟨b, off + j, none⟩ = some (.slice a' xs.length cap') ∧ Row8 w a' xs ∧ xs.length ≤ cap' ∧ cap' ≤ 140737488351232 ∧ (a' = none → cap' = 0)
theorem rowsB_rows {w : World} {a : Option Addr} {L : List (List F)} (h : RowsB w a L) : Rows8 w a L :=
  h.imp id fun ⟨b, off, e, h⟩ => ⟨b, off, e, fun j xs hj => by
    obtain ⟨a', cap', h1, h2, _⟩ := h j xs hj
    exact ⟨a', cap', h1, h2⟩⟩
theorem bytesSl : Tryd.prog.bytesOf 22 = 24 := by kernel_rfl
theorem weightsAll_in {H : Type} {P : Program} {e : TypeId} : ∀ {l : List (DataW H)} {d : DataW H}, d ∈ l → ∀ n ∈ d.weights P e, n ∈ DataW.weightsAll P e l
  | [], d, hd, _, _ => by cases hd
  | x :: l, d, hd, n, hn => by
    simp only [DataW.weightsAll, List.mem_append]
    rcases List.mem_cons.1 hd with rfl | h
    · exact .inl hn
    · exact .inr (weightsAll_in h n hn)
theorem openRowsB {H : Type} {enc : TypeId × Value → H} {W : World} {v : Value} {d : DataW H} {p : List MemPlace} {base : Nat} {ts : List TypeId} {ds : List (DataW H)} {j : Nat}
    (hv : Value.okWide Tryd.prog W .any base 25 v) (h : DataW.Trod enc Tryd.prog W 0 (fun _ => true) true 25 v d p)
    (hsz : (DataW.weightsEach Tryd.prog ts ds).all (· ≤ reachBytes) = true) (ht : ts[j]? = some 25) (hd : ds[j]? = some d) :
    ∃ a l cap L, v = .slice a l cap ∧ l = List.length L ∧ RowsB W a L ∧ l ≤ 5864062014634 := by
  obtain ⟨fuel, hf⟩ := h
  obtain ⟨a0, l0, c0, rfl⟩ := okWide_slice Tryd.underlying25 hv
  have hw : ∀ n ∈ DataW.weights Tryd.prog 25 d, n ≤ reachBytes := fun n hn => by simpa using List.all_eq_true.1 hsz _ (DataW.weights_mem_each ht hd n hn)
  rcases Deep.open_int_rows Tryd.underlying25 Tryd.underlying22 Tryd.underlying5 cellsSl cellsU8 hf with ⟨hcs, hx⟩ | ⟨ad, len, cap, A, L, C, Z, hcs, _, hl, hm, hx, hr⟩
  · simp [Value.cells] at hcs
    obtain ⟨rfl, rfl, rfl⟩ := hcs
    exact ⟨none, 0, 0, [], rfl, rfl, .inl rfl, by omega⟩
  · simp [Value.cells] at hcs
    obtain ⟨rfl, rfl, rfl⟩ := hcs
    simp only [Prod.mk.injEq] at hx
    rw [hx.1] at hw
    simp only [DataW.weights, Tryd.underlying25] at hw
    have hl9 : l0 ≤ 5864062014634 := by
      have := hw _ (List.mem_cons_self ..)
      rw [bytesSl] at this
      simp only [reachBytes, List.length_map, List.length_range] at this
      omega
    have hC : ∀ r, r < l0 → A r ≠ none → C r ≤ 140737488351232 := fun r hrl hne => by
      obtain ⟨_, _, _, h4, _⟩ := hr r (by omega)
      cases hA : A r with
      | none => exact absurd hA hne
      | some a9 =>
        have hmem : (Deep.intRow (H := H) .u8 (A r) (L r) (Z r)) ∈ (List.range l0).map fun r => Deep.intRow (H := H) .u8 (A r) (L r) (Z r) := List.mem_map.2 ⟨r, List.mem_range.2 hrl, rfl⟩
        have h9 := hw (((lits .u8 ((Z r).take (L r)) : List (DataW H)).length + (lits .u8 ((Z r).drop (L r)) : List (DataW H)).length) * Tryd.prog.bytesOf 5)
          (List.mem_cons_of_mem _ (List.mem_append_left _ (weightsAll_in hmem _ (by simp [Deep.intRow, hA, DataW.weights, Tryd.underlying22]))))
        rw [bytes8] at h9
        simp only [reachBytes, lits, List.length_map, List.length_take, List.length_drop] at h9
        omega
    refine ⟨some ad, l0, c0, (List.range l0).map fun r => ((Z r).take (L r)).map toF, rfl, by simp, ?_, hl9⟩
    by_cases h0 : l0 = 0
    · left; simp [h0]
    · right
      obtain ⟨b, off, rfl⟩ := addr_off (hr 0 (by omega)).1
      refine ⟨b, off, rfl, fun j xs hj => ?_⟩
      have hjl : j < l0 := by have := (List.getElem?_eq_some_iff.1 hj).1; simpa using this
      rw [List.getElem?_map, List.getElem?_range hjl] at hj
      obtain rfl := Option.some.inj hj
      obtain ⟨h1, h2, h3, h4, h5, h6, h7⟩ := hr j (by omega)
      rw [add_off] at h1
      have hlen : (((Z j).take (L j)).map toF).length = L j := by rw [List.length_map, List.length_take]; omega
      refine ⟨A j, C j, by rw [hlen]; exact h1, ?_, by rw [hlen]; exact h2, ?_, h6⟩
      · by_cases hL0 : L j = 0
        · left; simp [hL0]
        · right
          cases hA : A j with
          | none => have := h6 hA; omega
          | some ad' =>
            obtain ⟨_, h8⟩ := h7 ad' hA
            obtain ⟨b', off', rfl⟩ := addr_off (h8 0 (by omega))
            refine ⟨b', off', rfl, fun i hi => ?_⟩
            rw [hlen] at hi
            have hc := h8 i (by omega)
            rw [add_off] at hc
            rw [hc]
            have hb := bounds_u8 (h5 ((Z j).getD i 0) (by rw [getD_get _ _ _ (by omega)]; exact List.getElem_mem _))
            have e : ((at8 (((Z j).take (L j)).map toF) i).toNat : Int) = (Z j).getD i 0 := by
              unfold at8
              rw [getD_get _ _ _ (by rw [hlen]; exact hi)]
              simp only [List.getElem_map, List.getElem_take]
              rw [getD_get _ _ _ (by omega)] at hb ⊢
              exact val_toF hb.1 hb.2
            rw [e]
      · by_cases hA : A j = none
        · have := h6 hA; omega
        · exact hC j hjl hA
end Go.Proofs.YtmlpijlcpeoeaaaDoor

/- How a list of lists of bytes comes in, with the bounds of its rooms and its own; facts for the frames of the laws; nothing of the program is proved here. -/
namespace Go.Proofs.YtmlpijlcpeoeaaaDoor
open Go.ChangeShapes Go.WideShapes Go.ChangeAt Go.RowKit Gf Go.Joins
set_option linter.unusedVariables false
set_option maxRecDepth 20000
theorem openRowsC {H : Type} {enc : TypeId × Value → H} {W : World} {v : Value} {d : DataW H} {p : List MemPlace} {base : Nat} {ts : List TypeId} {ds : List (DataW H)} {j : Nat}
    (hv : Value.okWide Tryd.prog W .any base 25 v) (h : DataW.Trod enc Tryd.prog W 0 (fun _ => true) true 25 v d p)
    (hsz : (DataW.weightsEach Tryd.prog ts ds).all (· ≤ reachBytes) = true) (ht : ts[j]? = some 25) (hd : ds[j]? = some d) :
    ∃ a l cap L, v = .slice a l cap ∧ l = List.length L ∧ RowsB W a L ∧ l ≤ 5864062014634 ∧ l ≤ cap := by
  obtain ⟨fuel, hf⟩ := h
  obtain ⟨a0, l0, c0, rfl⟩ := okWide_slice Tryd.underlying25 hv
  have hw : ∀ n ∈ DataW.weights Tryd.prog 25 d, n ≤ reachBytes := fun n hn => by simpa using List.all_eq_true.1 hsz _ (DataW.weights_mem_each ht hd n hn)
  rcases Deep.open_int_rows Tryd.underlying25 Tryd.underlying22 Tryd.underlying5 cellsSl cellsU8 hf with ⟨hcs, hx⟩ | ⟨ad, len, cap, A, L, C, Z, hcs, _, hl, hm, hx, hr⟩
  · simp [Value.cells] at hcs
    obtain ⟨rfl, rfl, rfl⟩ := hcs
    exact ⟨none, 0, 0, [], rfl, rfl, .inl rfl, by omega, Nat.le_refl _⟩
  · simp [Value.cells] at hcs
    obtain ⟨rfl, rfl, rfl⟩ := hcs
    simp only [Prod.mk.injEq] at hx
    rw [hx.1] at hw
    simp only [DataW.weights, Tryd.underlying25] at hw
    have hl9 : l0 ≤ 5864062014634 := by
      have := hw _ (List.mem_cons_self ..)
      rw [bytesSl] at this
      simp only [reachBytes, List.length_map, List.length_range] at this
      omega
    have hC : ∀ r, r < l0 → A r ≠ none → C r ≤ 140737488351232 := fun r hrl hne => by
      obtain ⟨_, _, _, h4, _⟩ := hr r (by omega)
      cases hA : A r with
      | none => exact absurd hA hne
      | some a9 =>
        have hmem : (Deep.intRow (H := H) .u8 (A r) (L r) (Z r)) ∈ (List.range l0).map fun r => Deep.intRow (H := H) .u8 (A r) (L r) (Z r) := List.mem_map.2 ⟨r, List.mem_range.2 hrl, rfl⟩
        have h9 := hw (((lits .u8 ((Z r).take (L r)) : List (DataW H)).length + (lits .u8 ((Z r).drop (L r)) : List (DataW H)).length) * Tryd.prog.bytesOf 5)
          (List.mem_cons_of_mem _ (List.mem_append_left _ (weightsAll_in hmem _ (by simp [Deep.intRow, hA, DataW.weights, Tryd.underlying22]))))
        rw [bytes8] at h9
        simp only [reachBytes, lits, List.length_map, List.length_take, List.length_drop] at h9
        omega
    refine ⟨some ad, l0, c0, (List.range l0).map fun r => ((Z r).take (L r)).map toF, rfl, by simp, ?_, hl9, hl⟩
    by_cases h0 : l0 = 0
    · left; simp [h0]
    · right
      obtain ⟨b, off, rfl⟩ := addr_off (hr 0 (by omega)).1
      refine ⟨b, off, rfl, fun j xs hj => ?_⟩
      have hjl : j < l0 := by have := (List.getElem?_eq_some_iff.1 hj).1; simpa using this
      rw [List.getElem?_map, List.getElem?_range hjl] at hj
      obtain rfl := Option.some.inj hj
      obtain ⟨h1, h2, h3, h4, h5, h6, h7⟩ := hr j (by omega)
      rw [add_off] at h1
      have hlen : (((Z j).take (L j)).map toF).length = L j := by rw [List.length_map, List.length_take]; omega
      refine ⟨A j, C j, by rw [hlen]; exact h1, ?_, by rw [hlen]; exact h2, ?_, h6⟩
      · by_cases hL0 : L j = 0
        · left; simp [hL0]
        · right
          cases hA : A j with
          | none => have := h6 hA; omega
          | some ad' =>
            obtain ⟨_, h8⟩ := h7 ad' hA
            obtain ⟨b', off', rfl⟩ := addr_off (h8 0 (by omega))
            refine ⟨b', off', rfl, fun i hi => ?_⟩
            rw [hlen] at hi
            have hc := h8 i (by omega)
            rw [add_off] at hc
            rw [hc]
            have hb := bounds_u8 (h5 ((Z j).getD i 0) (by rw [getD_get _ _ _ (by omega)]; exact List.getElem_mem _))
            have e : ((at8 (((Z j).take (L j)).map toF) i).toNat : Int) = (Z j).getD i 0 := by
              unfold at8
              rw [getD_get _ _ _ (by rw [hlen]; exact hi)]
              simp only [List.getElem_map, List.getElem_take]
              rw [getD_get _ _ _ (by omega)] at hb ⊢
              exact val_toF hb.1 hb.2
            rw [e]
      · by_cases hA : A j = none
        · have := h6 hA; omega
        · exact hC j hjl hA
end Go.Proofs.YtmlpijlcpeoeaaaDoor

/- What the second form's bound gives: how long a list that came in can be; nothing of the program is proved here. -/
namespace Go.Proofs.YtmlpijlcpeoeaaaDoor
set_option linter.unusedVariables false
set_option maxRecDepth 20000
theorem bulk_pos {H : Type} (d : DataW H) : 0 < Rows.uptoBulk d := by
  cases d with
  | lit l => cases l <;> simp only [Rows.uptoBulk] <;> omega
  | _ => simp only [Rows.uptoBulk] <;> omega
theorem bulk_len {H : Type} : ∀ l : List (DataW H), l.length ≤ Rows.uptoBulkAll l
  | [] => Nat.zero_le _
  | d :: l => by
    have h1 := bulk_pos d
    have h2 := bulk_len l
    simp only [Rows.uptoBulkAll, List.length_cons]
    omega
theorem bulk_slice {H : Type} (es sp : List (DataW H)) : es.length + sp.length ≤ Rows.uptoBulk (.slice es sp) := by
  have h1 := bulk_len es
  have h2 := bulk_len sp
  simp only [Rows.uptoBulk]
  omega
end Go.Proofs.YtmlpijlcpeoeaaaDoor

/- What Rows of package half answers, of all numbers; nothing that was there turns. -/
namespace Go.Proofs.YtmlpijlcpeoeaaaDoor
open Go.RowKit Gf
set_option linter.unusedVariables false
set_option maxRecDepth 20000
/-- the rows of all halves -/
def halfM (k r : Nat) : List F := grid (2 * k) (halfF k (carN (groupN k r))) (2 * (k + r))
theorem halfM_len (k r : Nat) : (halfM k r).length = 2 * (k + r) * (2 * k) := grid_len _ _ _
theorem hkind_ne {w : World} {a b : Nat} {cs ds : Array Value} {t u : TypeId} {f1 f2 : Nat × Nat} (h1 : w.heap[a]? = some (.cells cs t f1)) (h2 : w.heap[b]? = some (.cells ds u f2)) (h : t ≠ u) : a ≠ b := fun e => by
  subst e; rw [h1] at h2; cases h2; exact h rfl
theorem place_half {k r g s p : Nat} (hs : s < k + r) (hp : p < 2) : rowF (2 * k) (placeF k g s p (rowAt k (genM k r) s)) = rowF (2 * k) (halfF k (carN g) (2 * s + p)) := by
  refine rowF_congr fun v hv => ?_
  rw [genM, rowAt_grid hs]
  simp only [placeF, halfF]
  rw [show (2 * s + p) % 2 = p by omega, show (2 * s + p) / 2 = s by omega]
  by_cases h : v % 2 = p
  · rw [if_pos h, if_pos h, at8_rowF (by omega)]
  · rw [if_neg h, if_neg h]
    by_cases h2 : p = 1 ∧ s = k + carN g (v / 2)
    · rw [if_pos h2, if_pos ⟨h2.1, by omega, by omega⟩]
    · rw [if_neg h2, if_neg (fun h3 => h2 ⟨h3.1, by omega⟩)]
set_option maxHeartbeats 4000000 in
theorem hrows_F (k r : Nat) (w : World) (s0 : Addr) (hs0 : w.cell? ⟨2, 0, none⟩ = some (errAt s0)) (h1 : 1 ≤ k) (h2 : 2 ≤ r) (h3 : k + r ≤ 16) :
    Calls Tryd.prog 28 #[.int .i64 k, .int .i64 r] w fun e w' => ∃ g m, e = .returned (.tuple #[.agg #[.int .i64 (2 * (k + r) : Nat), .int .i64 (2 * k : Nat), .slice (some ⟨g, 0, none⟩) m m], .nilIface]) ∧ m = 2 * (k + r) * (2 * k) ∧ w.heap.size ≤ g ∧
      w'.heap[g]? = some (.cells (vfs (halfM k r)) 5 (0, 0)) ∧ Below w.heap.size w w' := by
  obtain ⟨gr1, _, _, gr2⟩ := groupN_least h1 h2 h3
  have HG : Hid _ := fun w => bgroup_ok k r w h1 h2 h3
  have HV : Hid _ := fun w s hs => generator_F k r w s hs h1 h2 h3
  have hhm : halfM k r = grid (2 * k) (halfF k (carN (groupN k r))) (2 * (k + r)) := rfl
  obtain ⟨gr, hgr⟩ : ∃ gr, gr = groupN k r := ⟨_, rfl⟩
  rw [← hgr] at HG gr1 gr2 hhm
  obtain ⟨n, hn⟩ : ∃ n, n = 2 * (k + r) := ⟨_, rfl⟩
  obtain ⟨c, hc⟩ : ∃ c, c = 2 * k := ⟨_, rfl⟩
  obtain ⟨t, ht⟩ : ∃ t, t = k + r := ⟨_, rfl⟩
  rw [← ht] at HV
  rw [← hn, ← hc] at hhm ⊢
  have en : (2 : Int) * ((k : Int) + r) = n := by omega
  have ec : (2 : Int) * (k : Int) = c := by omega
  have hn32 : n ≤ 32 := by omega
  have hc32 : c ≤ 32 := by omega
  have HN : Hid _ := hn
  have HC : Hid _ := hc
  have HT : Hid _ := ht
  have HHM : Hid _ := hhm
  have HS : Hid _ := hs0
  have hmk := run_makeS n (by omega)
  clear hgr hn hc ht hhm hs0
  have hA := holds_new (holds_nil w) #[.int .i64 0, .int .i64 0, .slice none 0 0] 65
  have HA : Hid _ := hA
  have HB0 : Hid _ := (Below.refl w.heap.size w).alloc (Nat.le_refl _) (.cells #[.int .i64 0, .int .i64 0, .slice none 0 0] 65)
  clear hA
  go_enter Tryd.func28, Tryd.ntmps28
  go_wp2_with fail
  refine Calls.mono (HV.out _ s0 (cell_later HB0.out HS.out)) ?_
  rintro e w1 ⟨g1, m1, rfl, hm1, hg1, hh1, hb1⟩
  have HA1 : Hid _ := holds_new (holds_cons (holds_later HA.out hb1) hh1) #[.int .i64 t, .int .i64 k, .slice (some ⟨g1, 0, none⟩) m1 m1] 65
  have hB1 := HB0.out.trans (hb1.mono HB0.out.size)
  have HB1 : Hid (Below w.heap.size w (w1.alloc (.cells #[.int .i64 t, .int .i64 k, .slice (some ⟨g1, 0, none⟩) m1 m1] 65))) := hB1.alloc hB1.size _
  have HM1 : Hid _ := hm1
  clear hb1 hh1 hg1 hm1 HA hB1
  go_wp2_with fail
  refine Calls.mono (HG.out _) ?_
  rintro e w2 ⟨rfl, rfl⟩
  go_wp2
  have hA2 := holds_cons (holds_alloc HA1.out (.cells (slV 0 [] n) 22)) (heap_alloc_last (w1.alloc (.cells #[.int .i64 t, .int .i64 k, .slice (some ⟨g1, 0, none⟩) m1 m1] 65)) (.cells (slV 0 [] n) 22))
  have hB2 := HB1.out.alloc HB1.out.size (.cells (slV 0 [] n) 22)
  have hz1 := HB1.out.size
  have hz2 := ltHeap (holds_at HA1.out 2 rfl)
  rw [World.size_alloc] at hA2 hz1 hz2
  have HA2 : Hid _ := hA2
  have HB2 : Hid _ := hB2
  clear hA2 hB2 HA1 HB1 hmk
  generalize hM : w1.heap.size + 1 = M at *
  generalize ((w1.alloc (.cells #[.int .i64 t, .int .i64 k, .slice (some ⟨g1, 0, none⟩) m1 m1] 65)).alloc (.cells (slV 0 [] n) 22)) = W3 at *
  have hM0 : w.heap.size < M := by omega
  have hM1 : w1.heap.size < M := by omega
  clear hM
  go_loopw [41] (fun i wr => ∃ j : Nat, ∃ gs : List Nat, j ≤ n ∧ i = .int .i64 j ∧ gs.length = j ∧ Below w.heap.size w wr ∧
    Holds wr [(M, .cells (slV c gs n) 22 (0, 0)), (w1.heap.size, .cells #[.int .i64 t, .int .i64 k, .slice (some ⟨g1, 0, none⟩) m1 m1] 65 (0, 0)), (g1, .cells (vfs (genM k r)) 5 (0, 0)), (w.heap.size, .cells #[.int .i64 0, .int .i64 0, .slice none 0 0] 65 (0, 0))] ∧
    ∀ i g, gs[i]? = some g → g ≠ M ∧ wr.heap[g]? = some (.cells (vfs (rowF c (halfF k (carN gr) i))) 5 (0, 0))) (fun i _ => n - (intOf i).toNat)
  case atStart => exact ⟨0, [], by omega, rfl, rfl, HB2.out, HA2.out, fun j g h => by simp at h⟩
  case round =>
    obtain ⟨j, gs, hj, rfl, hgs, hb, hh, hrows⟩ := hrel
    have HB : Hid _ := hb
    have HH : Hid _ := hh
    have HR : Hid _ := hrows
    have HGS : Hid _ := hgs
    clear hb hh hrows hgs
    by_cases hlt : j < n
    · obtain ⟨s, p, rfl, hp2, hst⟩ : ∃ s p : Nat, j = 2 * s + p ∧ p < 2 ∧ s < t := ⟨j / 2, j % 2, by omega, by omega, by have := HN.out; have := HT.out; omega⟩
      go_wp2_with fail
      refine (placeOf_F (2 * s + p) s p _ rfl hp2 (by have := HT.out; omega)).mono ?_
      rintro e w4 ⟨rfl, hb4⟩
      have HH4 : Hid _ := holds_new (holds_later HH.out hb4) #[.int .i64 s, .int .i64 p] 89
      have hB4 := HB.out.trans (hb4.mono HB.out.size)
      have HB4 : Hid _ := hB4.alloc hB4.size (.cells #[.int .i64 s, .int .i64 p] 89)
      have HR4b : Hid (∀ (k0 : Nat) (o : Obj), wr.heap[k0]? = some o → (w4.alloc (.cells #[.int .i64 s, .int .i64 p] 89)).heap[k0]? = some o) := fun k0 o h => (Below.heap_alloc _ _ _ (ltHeap (heap_later h hb4))).trans (heap_later h hb4)
      have zz4 := hb4.size
      clear hb4 hB4
      have c1 := cellAt (holds_at HH4.out 2 rfl) 0 _ rfl
      have c2 := cellAt (holds_at HH4.out 2 rfl) 1 _ rfl
      have c3 := cellAt (holds_at HH4.out 2 rfl) 2 _ rfl
      have c4 := cellAt (holds_at HH4.out 0 rfl) 0 _ rfl
      have z4 := ltHeap (holds_at HH4.out 0 rfl)
      have z5 := ltHeap (holds_at HH4.out 2 rfl)
      go_wp2_with fail
      refine Calls.mono (row_F t k m1 m1 s (some ⟨g1, 0, none⟩) (genM k r) _ (by have := HT.out; omega) (by omega) (by have := HM1.out; simpa using this) (by rw [genM_len, HT.out]) (Nat.le_refl _) (holds_row HH4.out 3 rfl) (fun h => by cases h) hst) ?_
      rintro e w5 ⟨a5, cap5, rfl, hr5, hn5, _, hb5⟩
      have HR5 : Hid _ := hr5
      have HH5 : Hid _ := holds_later HH4.out hb5
      have HB5 : Hid (Below w.heap.size w w5) := HB4.out.trans (hb5.mono HB4.out.size)
      have HR5b : Hid (∀ (k0 : Nat) (o : Obj), wr.heap[k0]? = some o → w5.heap[k0]? = some o) := fun k0 o h => heap_later (HR4b.out k0 o h) hb5
      clear hr5 hb5 hn5 c1 c2 c3 c4 z4 z5 HB4
      have c1 := cellAt (holds_at HH5.out 0 rfl) 0 _ rfl
      have c2 := cellAt (holds_at HH5.out 0 rfl) 1 _ rfl
      have z5 := ltHeap (holds_at HH5.out 0 rfl)
      go_wp2_with fail
      refine Calls.mono (hrowAt_F k gr s p cap5 a5 _ _ h1 (by omega) gr1 gr2 (by have := HT.out; omega) hp2 (rowAt_len (by rw [genM_len]) (by rw [← HT.out]; exact hst)) HR5.out) ?_
      rintro e w6 ⟨g6, n6, rfl, hn6, hg6, hh6, hb6⟩
      obtain rfl : n6 = c := by have := HC.out; omega
      rw [place_half (by have := HT.out; omega) hp2, ← HC.out] at hh6
      have hs6 := heap_later (holds_at HH5.out 1 rfl) hb6
      have z6 := ltHeap (holds_at HH5.out 1 rfl)
      have hg6M : g6 ≠ M := by omega
      have HG2 := HGS.out
      have c7 : w6.cell? ⟨M, 2 * s + p, none⟩ = some (.slice none 0 0) := cellAt hs6 (2 * s + p) _ (by have e := slV_next (c := n6) (gs := gs) (r := n) (by rw [HG2]; exact hlt); rwa [HG2] at e)
      have c8 : w6.frozen? ⟨M, 2 * s + p, none⟩ = false := frozen_of_row _ _ _ _ _ hs6
      have hW : ∀ (k0 : Nat) (o : Obj), k0 ≠ M → w6.heap[k0]? = some o → (w6.setCell ⟨M, 2 * s + p, none⟩ (.slice (some ⟨g6, 0, none⟩) n6 n6)).heap[k0]? = some o := fun k0 o h1 h2 => (heap_setCell_other _ _ _ _ h1).trans h2
      have HT6 : Hid ((w6.setCell ⟨M, 2 * s + p, none⟩ (.slice (some ⟨g6, 0, none⟩) n6 n6)).heap[M]? = some (.cells (slV n6 (gs ++ [g6]) n) 22 (0, 0))) := by
        show _ = _
        rw [heap_setCell_same _ _ _ _ _ _ hs6, ← HG2, slV_set g6 (by omega)]
      have HROW : Hid (∀ i g, (gs ++ [g6])[i]? = some g → g ≠ M ∧ (w6.setCell ⟨M, 2 * s + p, none⟩ (.slice (some ⟨g6, 0, none⟩) n6 n6)).heap[g]? = some (.cells (vfs (rowF n6 (halfF k (carN gr) i))) 5 (0, 0))) := by
        intro i g hi
        by_cases hjk : i < gs.length
        · rw [List.getElem?_append_left hjk] at hi
          obtain ⟨h1, h2⟩ := HR.out i g hi
          exact ⟨h1, hW _ _ h1 (heap_later (HR5b.out _ _ h2) hb6)⟩
        · have hj2 := (List.getElem?_eq_some_iff.1 hi).1
          simp only [List.length_append, List.length_singleton] at hj2
          obtain rfl : i = 2 * s + p := by omega
          rw [List.getElem?_append_right (by omega), show 2 * s + p - gs.length = 0 from by omega] at hi
          obtain rfl : g6 = g := by simpa using hi
          exact ⟨hg6M, hW _ _ hg6M hh6⟩
      have hB6 := HB5.out.trans (hb6.mono HB5.out.size)
      have hBX := hB6.setCell (p := ⟨M, 2 * s + p, none⟩) (by show w.heap.size ≤ M; omega) (.slice (some ⟨g6, 0, none⟩) n6 n6)
      have HBX : Hid _ := hBX
      have hX0 := holds_later HH5.out hb6
      have HHX : Hid (Holds (w6.setCell ⟨M, 2 * s + p, none⟩ (.slice (some ⟨g6, 0, none⟩) n6 n6)) [(M, .cells (slV n6 (gs ++ [g6]) n) 22 (0, 0)), (w1.heap.size, .cells #[.int .i64 t, .int .i64 k, .slice (some ⟨g1, 0, none⟩) m1 m1] 65 (0, 0)), (g1, .cells (vfs (genM k r)) 5 (0, 0)), (w.heap.size, .cells #[.int .i64 0, .int .i64 0, .slice none 0 0] 65 (0, 0))]) :=
        holds_cons (holds_cons (holds_cons (holds_cons (holds_nil _) (hW _ _ (by omega) (holds_at hX0 4 rfl))) (hW _ _ (hkind_ne (holds_at hX0 3 rfl) hs6 (by decide)) (holds_at hX0 3 rfl))) (hW _ _ (by omega) (holds_at hX0 2 rfl))) HT6.out
      clear hs6 hb6 hh6 hW hB6 hBX hX0 hn6 c1 c2 HG2
      go_wp2
      refine ⟨⟨2 * s + p + 1, gs ++ [g6], by omega, by go_num, by simp [HGS.out], HBX.out, HHX.out, HROW.out⟩, by simp [intOf]; omega⟩
    · obtain rfl : j = n := by omega
      have k1 := holds_at HH.out 0 rfl
      go_wp2_with fail
      refine Calls.mono (of_F c j j _ ((List.range j).map fun i => rowF c (halfF k (carN gr) i)) _ (by omega) (by simp) (by omega) (fun x hx => ?_) (.inr ⟨M, 0, rfl, fun i x hx => ?_⟩)) ?_
      · obtain ⟨i, _, rfl⟩ := List.mem_map.1 hx
        exact rowF_len _ _
      · simp only [List.getElem?_map, Option.map_eq_some_iff] at hx
        obtain ⟨l, hi, rfl⟩ := hx
        obtain ⟨hjk, hi2⟩ := List.getElem?_eq_some_iff.1 hi
        simp only [List.length_range] at hjk
        simp only [List.getElem_range] at hi2
        subst hi2
        have hjg : i < gs.length := by rw [HGS.out]; exact hjk
        have hgj : gs[i]? = some gs[i] := List.getElem?_eq_getElem hjg
        refine ⟨some ⟨gs[i], 0, none⟩, c, ?_, row8_own (HR.out i _ hgj).2⟩
        rw [Nat.zero_add, rowF_len]
        exact cellAt k1 i _ (slV_at hjg)
      rintro e w5 ⟨g, m, rfl, hm, hg, hh, hb5⟩
      rw [← grid_flat, ← HHM.out] at hh
      have k2 := heap_later (holds_at HH.out 3 rfl) hb5
      have c4 := cellAt k2 0 _ rfl
      have c5 := cellAt k2 1 _ rfl
      have c6 := cellAt k2 2 _ rfl
      have d4 : w5.frozen? ⟨w.heap.size, 0, none⟩ = false := frozen_of_row _ _ _ _ _ k2
      have d5 : w5.frozen? ⟨w.heap.size, 1, none⟩ = false := frozen_of_row _ _ _ _ _ k2
      have d6 : w5.frozen? ⟨w.heap.size, 2, none⟩ = false := frozen_of_row _ _ _ _ _ k2
      have HMM : Hid _ := hm
      have HHH : Hid _ := hh
      have HBW : Hid (Below w.heap.size w w5) := HB.out.trans (hb5.mono HB.out.size)
      have hgw : w.heap.size < g := by
        have h1 := ltHeap k1
        omega
      clear hm hh hb5 k2 k1
      go_wp2
      refine bodyPost_ret (v := .tuple #[.agg #[.int .i64 j, .int .i64 c, .slice (some ⟨g, 0, none⟩) m m], .nilIface]) (by simp [results, Tryd.results28, go_sem, c4, c5, c6]) rfl ⟨g, m, rfl, HMM.out, by omega, ?_, ?_⟩
      · rw [heap_setCell_other _ _ _ _ (by show g ≠ w.heap.size; omega), heap_setCell_other _ _ _ _ (by show g ≠ w.heap.size; omega), heap_setCell_other _ _ _ _ (by show g ≠ w.heap.size; omega)]
        exact HHH.out
      · exact ((HBW.out.setCell (by simp) _).setCell (by simp) _).setCell (by simp) _
end Go.Proofs.YtmlpijlcpeoeaaaDoor

/- Facts for the statement MatPlaces: refusals of Take, two lists apart, the document's own Row, an append in a drawn region. -/
namespace Go.Proofs.YtmlpijlcpeoeaaaDoor
open Go.RowKit Gf
set_option linter.unusedVariables false
set_option maxRecDepth 20000
set_option maxHeartbeats 1000000 in
theorem take_bad (r c : Int) (a an : Option Addr) (l cap ln cn : Nat) (w : World) (s : Addr) (hs : w.cell? ⟨2, 0, none⟩ = some (errAt s)) (h : ¬ (0 ≤ r ∧ r ≤ 64 ∧ 0 ≤ c ∧ c ≤ 64 ∧ (l : Int) = r * c)) :
    Calls Tryd.prog 59 #[.agg #[.int .i64 r, .int .i64 c, .slice a l cap], .slice an ln cn] w fun e w' => e = .returned (.tuple #[.agg #[.int .i64 0, .int .i64 0, .slice none 0 0], errAt s]) ∧ Below w.heap.size w w' := by
  have hlt := World.block_lt_of_cell? w _ hs
  simp at hlt
  have H : Hid _ := h
  clear h
  have HS : Hid _ := cell?_alloc_old (.cells #[.int .i64 0, .int .i64 0, .slice none 0 0] 65) (cell?_alloc_old (.cells #[.int .i64 r, .int .i64 c, .slice a l cap] 65) hs)
  unfold errAt at *
  go_enter Tryd.func59, Tryd.ntmps59
  go_wp2_with fail
  refine Calls.mono (check_bad r c a l cap _ _ HS.out H.out) ?_
  rintro e w1 ⟨rfl, hb1⟩
  have k1 := heap_later (heap_alloc2_new w (.cells #[.int .i64 r, .int .i64 c, .slice a l cap] 65) (.cells #[.int .i64 0, .int .i64 0, .slice none 0 0] 65)) hb1
  have c4 := cellAt k1 0 _ rfl
  have c5 := cellAt k1 1 _ rfl
  have c6 := cellAt k1 2 _ rfl
  have d4 : w1.frozen? ⟨w.heap.size + 1, 0, none⟩ = false := frozen_of_row _ _ _ _ _ k1
  have d5 : w1.frozen? ⟨w.heap.size + 1, 1, none⟩ = false := frozen_of_row _ _ _ _ _ k1
  have d6 : w1.frozen? ⟨w.heap.size + 1, 2, none⟩ = false := frozen_of_row _ _ _ _ _ k1
  have c9 := cell_later hb1 HS.out
  have HB1 : Hid (Below w.heap.size w w1) := (((Below.refl w.heap.size w).alloc (Nat.le_refl _) _).alloc (by simp) _).trans (hb1.mono (by simp; omega))
  clear hb1 k1
  go_wp2
  go_region
  go_wp2
  refine bodyPost_ret (v := .tuple #[.agg #[.int .i64 0, .int .i64 0, .slice none 0 0], .iface 140 (.pointer (some s))]) (by simp [results, Tryd.results59, go_sem, c4, c5, c6]) rfl ⟨rfl, ?_⟩
  exact (((HB1.out.setCell (by simp) _).setCell (by simp) _).setCell (by simp) _).drew
set_option maxHeartbeats 1000000 in
theorem take_long (r c : Nat) (a an : Option Addr) (l cap ln cn : Nat) (w : World) (s : Addr) (hs : w.cell? ⟨2, 0, none⟩ = some (errAt s)) (hr : r ≤ 64) (hc : c ≤ 64) (hl : l = r * c) (hn : 64 < ln) :
    Calls Tryd.prog 59 #[.agg #[.int .i64 r, .int .i64 c, .slice a l cap], .slice an ln cn] w fun e w' => e = .returned (.tuple #[.agg #[.int .i64 0, .int .i64 0, .slice none 0 0], errAt s]) ∧ Below w.heap.size w w' := by
  have hlt := World.block_lt_of_cell? w _ hs
  simp at hlt
  have HL : Hid _ := hl
  clear hl
  have HS : Hid _ := cell?_alloc_old (.cells #[.int .i64 0, .int .i64 0, .slice none 0 0] 65) (cell?_alloc_old (.cells #[.int .i64 r, .int .i64 c, .slice a l cap] 65) hs)
  unfold errAt at *
  go_enter Tryd.func59, Tryd.ntmps59
  go_wp2_with fail
  refine Calls.mono (check_ok r c a l cap _ hr hc HL.out) ?_
  rintro e w1 ⟨rfl, hb1⟩
  have k1 := heap_later (heap_alloc2_new w (.cells #[.int .i64 r, .int .i64 c, .slice a l cap] 65) (.cells #[.int .i64 0, .int .i64 0, .slice none 0 0] 65)) hb1
  have c4 := cellAt k1 0 _ rfl
  have c5 := cellAt k1 1 _ rfl
  have c6 := cellAt k1 2 _ rfl
  have d4 : w1.frozen? ⟨w.heap.size + 1, 0, none⟩ = false := frozen_of_row _ _ _ _ _ k1
  have d5 : w1.frozen? ⟨w.heap.size + 1, 1, none⟩ = false := frozen_of_row _ _ _ _ _ k1
  have d6 : w1.frozen? ⟨w.heap.size + 1, 2, none⟩ = false := frozen_of_row _ _ _ _ _ k1
  have c9 := cell_later hb1 HS.out
  have HB1 : Hid (Below w.heap.size w w1) := (((Below.refl w.heap.size w).alloc (Nat.le_refl _) _).alloc (by simp) _).trans (hb1.mono (by simp; omega))
  clear hb1 k1
  go_wp2
  go_region
  go_wp2
  refine bodyPost_ret (v := .tuple #[.agg #[.int .i64 0, .int .i64 0, .slice none 0 0], .iface 140 (.pointer (some s))]) (by simp [results, Tryd.results59, go_sem, c4, c5, c6]) rfl ⟨rfl, ?_⟩
  exact (((HB1.out.setCell (by simp) _).setCell (by simp) _).setCell (by simp) _).drew

theorem wanted_append_run {P : Program} {w : World} {o : Oper} {a : Act} {K : Act → World → Prop} {Q : Exit → Act → World → Prop} {ys : Nat → Option Bool} {L : Prop} (hgd : o.guard = none) (s x : Operand) (t : TypeId)
    (ho : o.op = .call { callee := .builtin .append, args := #[s, x], argTypes := #[t, t] }) (v u r : Value) (w' : World) (hs : a.eval s = v) (hx : a.eval x = u)
    (hr : (Builtin.append_ #[t, t] o.type #[v, u]).run P w = .ok r w') (h : K (a.put o.dst r) w') : if Region.wanted o ys = true then Oper.wp P o a w K Q else L := by
  rw [if_pos (by simp [Region.wanted, hgd])]
  unfold Oper.wp execOp
  simp only [ho, resolve, invoke, builtin, Sem.run_bind, Sem.run_pure, Result.andThen_ok, List.map_toArray, List.map_cons, List.map_nil, hs, hx, hr]
  exact h
theorem kind_ne {w : World} {a b : Nat} {cs ds : Array Value} {t u : TypeId} {f1 f2 : Nat × Nat} (h1 : w.heap[a]? = some (.cells cs t f1)) (h2 : w.heap[b]? = some (.cells ds u f2)) (h : t ≠ u) : a ≠ b := fun e => by
  subst e; rw [h1] at h2; cases h2; exact h rfl
theorem grown_some {w w' : World} (g : Nat) (h : w.grownBy w' none) : w.grownBy w' (some g) := ⟨h.os, h.tape, h.output, h.size, fun k hk _ => h.block k hk (by simp)⟩
theorem grown_keep {w w' : World} {r : Option Nat} {k : Nat} {o : Obj} (h : w.grownBy w' r) (hk : w.heap[k]? = some o) (hne : some k ≠ r) : w'.heap[k]? = some o := (h.block k (Array.getElem?_eq_some_iff.1 hk).1 hne).trans hk

theorem has8_take {w : World} {g cap : Nat} {xs : List F} (h : Has8 w g xs cap) (m : Nat) : Has8 w g (xs.take m) cap := by
  obtain ⟨cur, hg, hs, hl, hm, ht⟩ := h
  refine ⟨cur, hg, hs, by rw [List.length_take]; omega, hm, ?_⟩
  rw [List.map_take, ← ht, List.take_take, List.length_take]
theorem row8_grown {w w' : World} {r : Option Nat} {g : Nat} {xs : List F} (h : Row8 w (some ⟨g, 0, none⟩) xs) (hb : w.grownBy w' r) (hg : g < w.heap.size) (hne : some g ≠ r) : Row8 w' (some ⟨g, 0, none⟩) xs := by
  rcases h with e | ⟨b, off, e, h⟩
  · exact .inl e
  · cases e
    refine .inr ⟨g, 0, rfl, fun j hj => ?_⟩
    rw [← h j hj]
    simp only [World.cell?, hb.block g hg hne]
theorem append8_both {w : World} {g n cap : Nat} {xs ys : List F} {ad : Addr} {m c : Nat} (ty : TypeId) (h : Has8 w g xs cap) (hn : n = xs.length) (hm : m = ys.length) (hb : n + m ≤ 140737488355328)
    (hy : ∀ j, j < ys.length → w.cell? (ad.add j) = some (.int .u8 ((at8 ys j).toNat : Int))) :
    ∃ g' cap' w', (Builtin.append_ #[22, 22] ty #[.slice (some ⟨g, 0, none⟩) n cap, .slice (some ad) m c]).run Tryd.prog w = .ok (.slice (some ⟨g', 0, none⟩) (n + m) cap') w' ∧
      Has8 w' g' (xs ++ ys) cap' ∧ w.grownBy w' (some g) ∧ (g' = g ∨ w.heap.size ≤ g' ∧ w.grownBy w' none) := by
  by_cases hroom : n + m ≤ cap
  · subst hn hm
    obtain ⟨i, hi, h1, h2, h3⟩ := info8
    obtain ⟨cur, hg, hs, hl, hmx, ht⟩ := h
    have hown : w.ownsRow 0 5 1 (.slice (some ⟨g, 0, none⟩) xs.length cap) xs.length (xs.map vf) :=
      ⟨by simp, .inr ⟨g, cap, cur, rfl, Nat.zero_le _, hg, hl, hmx, by omega, by rw [Nat.mul_one]; exact ht⟩⟩
    obtain ⟨w', hrun, ho, hgr⟩ := run_append_fits (P := Tryd.prog) w 0 22 ty 5 i 1 Tryd.underlying22 hi h1 g xs.length cap _ hown ad ys.length c (ys.map vf) (by simp) (fun j v hv => by
        simp only [List.getElem?_map, Option.map_eq_some_iff] at hv
        obtain ⟨x, hx1, rfl⟩ := hv
        have hj : j < ys.length := (List.getElem?_eq_some_iff.1 hx1).1
        have e : at8 ys j = x := by simp [at8, hx1]
        rw [hy j hj, e]; rfl) (fun v hv => by
        simp only [List.mem_map] at hv
        obtain ⟨x, _, rfl⟩ := hv
        rfl) hroom
    rcases ho.2 with ⟨hv, _⟩ | ⟨g', cap', cur', hv, _, hg', hl', hm', hs', ht'⟩
    · cases hv
    · cases hv
      exact ⟨g, cap, w', hrun, ⟨cur', hg', by omega, by simpa using hl', hm', by rw [List.length_append, List.map_append, ← ht', Nat.mul_one]⟩, hgr, .inl rfl⟩
  · obtain ⟨g', cap', w', h1, h2, h3, h4⟩ := append8_grows (cap := cap) (m := m) (c := c) ty (row8_has h) hn hm (by omega) hb hy
    exact ⟨g', cap', w', h1, h2, ⟨h3.os, h3.tape, h3.output, h3.size, fun k hk _ => h3.block k hk (by simp)⟩, .inr ⟨h4, h3⟩⟩
set_option maxHeartbeats 4000000 in
theorem apart_H (a : Option Addr) (n ca gb m cb : Nat) (xs ys : List F) (w : World) (hn : n = xs.length) (hm : m = ys.length) (hb : m ≤ 140737488351232)
    (hx : ∀ w', w.grownBy w' (some gb) → Row8 w' a xs) (hy : Has8 w gb ys cb) :
    Calls Tryd.prog 16 #[.slice a n ca, .slice (some ⟨gb, 0, none⟩) m cb] w fun e w' => e = .returned (.bool true) ∧ w.grownBy w' (some gb) ∧ Row8 w' (some ⟨gb, 0, none⟩) (ys.map fl) := by
  have k0 := conv8 (ca := ca) hn (hx w (grownBy_refl _ _))
  have hgb : gb < w.heap.size := by obtain ⟨cur, hg, _⟩ := hy; exact (Array.getElem?_eq_some_iff.1 hg).1
  have HX : Hid _ := hx
  have HY : Hid _ := hy
  have HN : Hid _ := hn
  have HM : Hid _ := hm
  clear hx hy hn hm
  go_enter Tryd.func16, Tryd.ntmps16
  go_wp2
  clear k0
  go_loopw [13] (fun i wr => ∃ k : Nat, k ≤ m ∧ i = .int .i64 k ∧ w.grownBy wr (some gb) ∧ Has8 wr gb (flTo ys k) cb) (fun i _ => m - (intOf i).toNat)
  case atStart => exact ⟨0, by omega, rfl, grownBy_refl _ _, by rw [flTo_zero]; exact HY.out⟩
  case round =>
    obtain ⟨k, hk, rfl, hg1, hh1⟩ := hrel
    by_cases hlt : k < m
    · have hky : k < ys.length := by have := HM.out; omega
      obtain ⟨c1, c2⟩ := has8_cell (j := k) hh1 (by rw [flTo_len]; exact hky)
      rw [flTo_at] at c1
      have ex := fl_val (at8 ys k)
      have HG : Hid _ := hg1
      have HH : Hid _ := hh1
      have HS : Hid _ := flTo_succ ys k hky
      have HK : Hid _ := has8_set (j := k) hh1 (by rw [flTo_len]; exact hky) (fl (at8 ys k))
      clear hg1 hh1
      go_wp2
      exact ⟨⟨k + 1, by omega, by go_num, grownBy_setCell HG.out _, by rw [← HS.out]; exact HK.out⟩, by simp [intOf]; omega⟩
    · have hk' : k = ys.length := by have := HM.out; omega
      have hh2 : Has8 wr gb (ys.map fl) cb := by rw [hk', flTo_all] at hh1; exact hh1
      have k1 := conv8 (ca := ca) HN.out (HX.out wr hg1)
      have hsz := hg1.size
      have hh2' : Has8 (wr.alloc (.cells (vfs sevens) 5)) gb (ys.map fl) cb := has8_grown hh2 (World.grownBy_alloc wr _ none) (by simp)
      obtain ⟨g2, cap2, w2, hrun, hs2, hgr2, hge2⟩ := append8_both (n := m) (ys := sevens) (ad := ⟨wr.heap.size, 0, none⟩) (m := 8) (c := 8) 22
        hh2' (by have := HM.out; simpa using this) rfl (by omega) (fun j hj => by
          have hadd : (⟨wr.heap.size, 0, none⟩ : Addr).add j = ⟨wr.heap.size, j, none⟩ := by unfold Addr.add; split <;> simp_all
          rw [hadd, World.cell?_alloc_at _ _ _ _ rfl, vfs_get _ _ hj])
      have hgr3 : w.grownBy w2 (some gb) := grownBy_trans (grownBy_trans hg1 (World.grownBy_alloc wr (.cells (vfs sevens) 5) none) (by simp)) hgr2 (fun j _ h => h)
      have hge : g2 = gb ∨ wr.heap.size + 1 ≤ g2 ∧ Has8 w2 gb (ys.map fl) cb := by
        rcases hge2 with e | ⟨e1, e2⟩
        · exact .inl e
        · simp only [World.size_alloc] at e1
          exact .inr ⟨e1, has8_grown hh2' e2 (by simp)⟩
      have HSV : Hid (vfs sevens = #[.int .u8 7, .int .u8 7, .int .u8 7, .int .u8 7, .int .u8 7, .int .u8 7, .int .u8 7, .int .u8 7]) := rfl
      have HR : Hid _ := hrun
      have HS2 : Hid _ := hs2
      have HG3 : Hid _ := hgr3
      have HGE : Hid _ := hge
      have HL : Hid ((ys.map fl).length = m) := by have := HM.out; show _ = _; rw [List.length_map]; exact this.symm
      have HLS : Hid ((ys.map fl ++ sevens).length = m + 8) := by show _ = _; rw [List.length_append, HL.out]; rfl
      have HK : Hid _ := hk'
      clear hg1 hh1 hh2 hh2' hrun hs2 hgr3 hgr2 hge2 hge hk'
      go_wp2_with (at_builtin; rw [← HSV.out]; refine wpList_append_run rfl _ _ 22 rfl _ _ _ _ rfl rfl HR.out ?_)
      clear k1
      go_loopw [8] (fun i wv => ∃ j : Nat, ∃ zs : List F, j ≤ 8 ∧ i = .int .i64 ((m + j : Nat) : Int) ∧ zs.length = m + 8 ∧ zs.take m = ys.map fl ∧ w2.grownBy wv (some g2) ∧ Has8 wv g2 zs cap2) (fun i _ => m + 8 - (intOf i).toNat)
      case atStart => exact ⟨0, _, by omega, rfl, HLS.out, by rw [← HL.out, List.take_left'] ; rfl, grownBy_refl _ _, HS2.out⟩
      case round =>
        obtain ⟨j, zs, hj, rfl, hz, hzt, hgv, hhv⟩ := hrel
        by_cases hlt2 : j < 8
        · obtain ⟨c1, c2⟩ := has8_cell (j := m + j) hhv (by omega)
          have ex := fl_val (at8 zs (m + j))
          have HG : Hid _ := hgv
          have HS : Hid _ := has8_set (j := m + j) hhv (by omega) (fl (at8 zs (m + j)))
          have HZ : Hid _ := hz
          have HZT : Hid _ := hzt
          clear hgv hhv hz hzt
          go_wp2
          exact ⟨⟨j + 1, zs.set (m + j) (fl (at8 zs (m + j))), by omega, by go_num, by rw [List.length_set]; exact HZ.out, by rw [List.take_set_of_le (by omega)]; exact HZT.out, grownBy_setCell HG.out _, HS.out⟩, by simp [intOf]; omega⟩
        · have hj8 : j = 8 := by omega
          have hfin : w.grownBy wr (some gb) := grownBy_trans HG3.out hgv (fun q hq hne => by
            rcases HGE.out with e | e
            · rw [e]; exact hne
            · simp; omega)
          have hhb : Row8 wr (some ⟨gb, 0, none⟩) (ys.map fl) := by
            rcases HGE.out with e | ⟨e, h⟩
            · subst e
              have := has8_take hhv m
              rw [hzt] at this
              exact row8_has this
            · exact row8_has (has8_grown h hgv (by simp; omega))
          have k2 := conv8 (ca := ca) HN.out (HX.out wr hfin)
          have HF : Hid _ := hfin
          have HB : Hid _ := hhb
          clear hgv hhv hfin hhb hz hzt
          subst hj8
          go_wp2
          go_ret
          exact ⟨rfl, HF.out, HB.out⟩
/-- the second list nil -/
theorem append8_nil (w : World) {ys : List F} {ad : Addr} {m c : Nat} (ty : TypeId) (hm : m = ys.length) (h0 : 0 < m) (hb : m ≤ 140737488355328)
    (hy : ∀ j, j < ys.length → w.cell? (ad.add j) = some (.int .u8 ((at8 ys j).toNat : Int))) :
    ∃ g' cap' w', (Builtin.append_ #[22, 22] ty #[.slice none 0 0, .slice (some ad) m c]).run Tryd.prog w = .ok (.slice (some ⟨g', 0, none⟩) m cap') w' ∧
      Has8 w' g' ys cap' ∧ w.grownBy w' none ∧ w.heap.size ≤ g' := by
  subst hm
  obtain ⟨i, hi, h1, h2, h3⟩ := info8
  obtain ⟨v', w', hrun, ho, hgr, hnil, hat⟩ := run_append_own_at (P := Tryd.prog) w w.heap.size 22 ty 5 i _ 1 1 Tryd.underlying22 hi h3 h1 h2 rfl (by decide)
    (.slice none 0 0) 0 [] ⟨rfl, .inl ⟨rfl, rfl⟩⟩ ad ys.length c (ys.map vf) (by simp) (fun j v hv => by
      simp only [List.getElem?_map, Option.map_eq_some_iff] at hv
      obtain ⟨x, hx1, rfl⟩ := hv
      have hj : j < ys.length := (List.getElem?_eq_some_iff.1 hx1).1
      have e : at8 ys j = x := by simp [at8, hx1]
      rw [hy j hj, e]; rfl) (fun v hv => by
      simp only [List.mem_map] at hv
      obtain ⟨x, _, rfl⟩ := hv
      rfl) (by simp only [maxLen]; omega) (by omega) (Nat.le_refl _)
  rcases ho.2 with ⟨hv, hn⟩ | ⟨g', cap', cur', hv, hg, hg', hl', hm', hs', ht'⟩
  · have := (hnil.1 hv).2
    omega
  · subst hv
    refine ⟨g', cap', w', by rw [hrun, Nat.zero_add], ⟨cur', hg', by omega, by simpa using hl', hm', ?_⟩, hgr, hg⟩
    rw [← List.nil_append (ys.map vf), ← ht', Nat.mul_one, Nat.zero_add]
set_option maxHeartbeats 4000000 in
theorem apart_nil (a : Option Addr) (n ca : Nat) (xs : List F) (w : World) (hn : n = xs.length) (hx : ∀ w', w.grownBy w' none → Row8 w' a xs) :
    Calls Tryd.prog 16 #[.slice a n ca, .slice none 0 0] w fun e w' => e = .returned (.bool true) ∧ w.grownBy w' none := by
  have k0 := conv8 (ca := ca) hn (hx w (grownBy_refl _ _))
  have HX : Hid _ := hx
  have HN : Hid _ := hn
  clear hx hn
  go_enter Tryd.func16, Tryd.ntmps16
  go_wp2
  go_loopw [13] (fun i wr => i = .int .i64 0 ∧ w = wr) (fun i _ => 0)
  case atStart => exact ⟨rfl, rfl⟩
  case round =>
    obtain ⟨rfl, rfl⟩ := hrel
    obtain ⟨g2, cap2, w2, hrun, hs2, hgr2, hge2⟩ := append8_nil (w.alloc (.cells (vfs sevens) 5)) (ys := sevens) (ad := ⟨w.heap.size, 0, none⟩) (m := 8) (c := 8) 22 rfl (by omega) (by omega) (fun j hj => by
          have hadd : (⟨w.heap.size, 0, none⟩ : Addr).add j = ⟨w.heap.size, j, none⟩ := by unfold Addr.add; split <;> simp_all
          rw [hadd, World.cell?_alloc_at _ _ _ _ rfl, vfs_get _ _ hj])
    have hgr3 : w.grownBy w2 none := grownBy_trans (World.grownBy_alloc w (.cells (vfs sevens) 5) none) hgr2 (by simp)
    have HSV : Hid (vfs sevens = #[.int .u8 7, .int .u8 7, .int .u8 7, .int .u8 7, .int .u8 7, .int .u8 7, .int .u8 7, .int .u8 7]) := rfl
    have HR : Hid _ := hrun
    have HS2 : Hid _ := hs2
    have HG3 : Hid _ := hgr3
    have HGE : Hid (w.heap.size ≤ g2) := by simp only [World.size_alloc] at hge2; show _ ≤ _; omega
    clear hrun hs2 hgr3 hgr2 hge2
    go_wp2_with (at_builtin; rw [← HSV.out]; refine wpList_append_run rfl _ _ 22 rfl _ _ _ _ rfl rfl HR.out ?_)
    clear k0
    go_loopw [8] (fun i wv => ∃ j : Nat, ∃ zs : List F, j ≤ 8 ∧ i = .int .i64 (j : Int) ∧ zs.length = 8 ∧ w2.grownBy wv (some g2) ∧ Has8 wv g2 zs cap2) (fun i _ => 8 - (intOf i).toNat)
    case atStart => exact ⟨0, _, by omega, rfl, rfl, grownBy_refl _ _, HS2.out⟩
    case round =>
      obtain ⟨j, zs, hj, rfl, hz, hgv, hhv⟩ := hrel
      by_cases hlt2 : j < 8
      · obtain ⟨c1, c2⟩ := has8_cell (j := j) hhv (by omega)
        have ex := fl_val (at8 zs j)
        have HG : Hid _ := hgv
        have HS : Hid _ := has8_set (j := j) hhv (by omega) (fl (at8 zs j))
        have HZ : Hid _ := hz
        clear hgv hhv hz
        go_wp2
        exact ⟨⟨j + 1, zs.set j (fl (at8 zs j)), by omega, by go_num, by rw [List.length_set]; exact HZ.out, grownBy_setCell HG.out _, HS.out⟩, by simp [intOf]; omega⟩
      · have hj8 : j = 8 := by omega
        have hfin : w.grownBy wr none := grownBy_trans HG3.out hgv (fun q hq _ => by have := HGE.out; simp; omega)
        have k2 := conv8 (ca := ca) HN.out (HX.out wr hfin)
        have HF : Hid _ := hfin
        clear hgv hhv hfin hz
        subst hj8
        go_wp2
        go_ret
        exact ⟨rfl, HF.out⟩

set_option maxHeartbeats 1000000 in
theorem rrow_some (r c i b off l cap : Nat) (xs : List F) (w : World) (hr : r ≤ 64) (hc : c ≤ 64) (hi : i < r) (hl : l = r * c) (hx : xs.length = r * c) (hcap : l ≤ cap) (hX : Row8 w (some ⟨b, off, none⟩) xs) :
    Calls Tryd.prog 65 #[.agg #[.int .i64 r, .int .i64 c, .slice (some ⟨b, off, none⟩) l cap], .int .i64 i] w fun e w' => ∃ g cap', e = .returned (.slice (some ⟨g, 0, none⟩) c cap') ∧ w.heap.size ≤ g ∧ Has8 w' g (rowAt c xs i) cap' ∧ Below w.heap.size w w' := by
  obtain ⟨m0, m1⟩ := mul_small (r := i) (c := c) (by omega) hc
  have m5 : i * c + c ≤ l := by
    have := Nat.mul_le_mul_right c (show i + 1 ≤ r from hi)
    rw [Nat.succ_mul] at this; omega
  have hl6 : l ≤ 4096 := by have := mul_small hr hc; have e : (r : Int) * (c : Int) = ((r * c : Nat) : Int) := by simp
                            omega
  have m4 : (i : Int) * (c : Int) = ((i * c : Nat) : Int) := by simp
  have m3 : ((i : Int) + 1) * (c : Int) = ((i * c : Nat) : Int) + (c : Int) := by rw [Int.add_mul, Int.one_mul, m4]
  have hrow : Row8 w (some ⟨b, rof off (i * c) cap, none⟩) (rowAt c xs i) := by
    rcases hX with e | ⟨b2, off2, e, h⟩
    · left
      rw [e]; simp [rowAt]
    · cases e
      exact row8_rowAt hx hi (by omega) h
  have hlen := rowAt_len hx hi
  generalize hp : i * c = p at m3 m4 m5 hrow ⊢
  rw [m4] at m0 m1
  have hh := heap_alloc_last (w.alloc (.cells #[.int .i64 r, .int .i64 c, .slice (some ⟨b, off, none⟩) l cap] 65)) (.cells #[] 5)
  obtain ⟨g', cap', w2, h1, h2, h3, h4⟩ := append8_new (g := w.heap.size + 1) (m := c) (c := cap - p) (a := some ⟨b, rof off p cap, none⟩) (ys := rowAt c xs i) 22 (by simpa using hh) hlen.symm (by omega) (row8_alloc (row8_alloc hrow _) _) (fun h => by cases h)
  have HR : Hid _ := h1
  have H2 : Hid _ := h2
  have HB : Hid (Below w.heap.size w w2) := grownBy_below (g := w.heap.size + 1) ((((Below.refl _ _).alloc (Nat.le_refl _) _).alloc (by simp) _)) ⟨h3.os, h3.tape, h3.output, h3.size, fun k hk _ => h3.block k hk (by simp)⟩ (by omega) (by simp; omega)
  have hg : w.heap.size ≤ g' := by
    rcases h4 with rfl | h4
    · omega
    · simp at h4; omega
  clear h1 h2 h3 h4 hh hX hrow hlen hp hl hx
  by_cases h : cap = p
  · subst h
    rw [rof_same] at HR
    have h0 : cap - cap = 0 := Nat.sub_self _
    rw [h0] at HR
    go_enter Tryd.func65, Tryd.ntmps65
    go_wp2_with (at_builtin; refine wpList_append_run rfl _ _ 22 rfl _ _ _ _ rfl ?_ HR.out ?_)
    · simp only [Nat.add_sub_cancel_left]
      rfl
    · go_wp2
      go_ret
      exact ⟨g', cap', rfl, hg, H2.out, HB.out⟩
  · rw [rof_room h] at HR
    go_enter Tryd.func65, Tryd.ntmps65
    go_wp2_with (at_builtin; refine wpList_append_run rfl _ _ 22 rfl _ _ _ _ rfl ?_ HR.out ?_)
    · simp only [Nat.add_sub_cancel_left]
      rfl
    · go_wp2
      go_ret
      exact ⟨g', cap', rfl, hg, H2.out, HB.out⟩

set_option maxHeartbeats 1000000 in
theorem rrow_nil (r i cap : Nat) (a : Option Addr) (w : World) (hi : i < 64) (hnil : a = none → cap = 0) :
    Calls Tryd.prog 65 #[.agg #[.int .i64 r, .int .i64 0, .slice a 0 cap], .int .i64 i] w fun e w' => ∃ g cap', e = .returned (.slice (some ⟨g, 0, none⟩) 0 cap') ∧ w.heap.size ≤ g ∧ Has8 w' g [] cap' ∧ Below w.heap.size w w' := by
  have hh := heap_alloc_last (w.alloc (.cells #[.int .i64 r, .int .i64 0, .slice a 0 cap] 65)) (.cells #[] 5)
  rw [World.size_alloc] at hh
  obtain ⟨g', cap', w2, h1, h2, h3, h4⟩ := append8_new (m := 0) (c := cap) (a := a) (ys := []) 22 hh rfl (by omega) (.inl rfl) hnil
  have HR : Hid _ := h1
  have H2 : Hid _ := h2
  have HB : Hid (Below w.heap.size w w2) := grownBy_below (g := w.heap.size + 1) ((((Below.refl _ _).alloc (Nat.le_refl _) _).alloc (by simp) _)) ⟨h3.os, h3.tape, h3.output, h3.size, fun k hk _ => h3.block k hk (by simp)⟩ (by omega) (by simp; omega)
  have hg : w.heap.size ≤ g' := by
    rcases h4 with rfl | h4
    · omega
    · simp at h4; omega
  have HN : Hid _ := hnil
  clear h1 h2 h3 h4 hh hnil
  by_cases h : cap = 0
  · subst h
    go_enter Tryd.func65, Tryd.ntmps65
    go_wp2_with (at_builtin; refine wpList_append_run rfl _ _ 22 rfl _ _ _ _ rfl rfl HR.out ?_)
    go_wp2
    go_ret
    exact ⟨g', cap', rfl, hg, H2.out, HB.out⟩
  · cases a with
    | none => exact absurd (HN.out rfl) h
    | some ad =>
      obtain ⟨b, off, tg⟩ := ad
      go_enter Tryd.func65, Tryd.ntmps65
      go_wp2_with (at_builtin; refine wpList_append_run rfl _ _ 22 rfl _ _ _ _ rfl rfl HR.out ?_)
      go_wp2
      go_ret
      exact ⟨g', cap', rfl, hg, H2.out, HB.out⟩
/-- of every matrix in form, every row that is there -/
theorem rrow_F (r c i l cap : Nat) (a : Option Addr) (xs : List F) (w : World) (hr : r ≤ 64) (hc : c ≤ 64) (hi : i < r) (hl : l = r * c) (hx : xs.length = r * c) (hcap : l ≤ cap) (hX : Row8 w a xs) (hnil : a = none → cap = 0) :
    Calls Tryd.prog 65 #[.agg #[.int .i64 r, .int .i64 c, .slice a l cap], .int .i64 i] w fun e w' => ∃ g cap', e = .returned (.slice (some ⟨g, 0, none⟩) c cap') ∧ w.heap.size ≤ g ∧ Has8 w' g (rowAt c xs i) cap' ∧ Below w.heap.size w w' := by
  rcases hX with e | ⟨b, off, rfl, h⟩
  · have h0 : r * c = 0 := by rw [← hx, e]; rfl
    have hc0 : c = 0 := by
      rcases Nat.mul_eq_zero.1 h0 with h | h
      · omega
      · exact h
    subst hc0
    obtain rfl : l = 0 := by omega
    refine (rrow_nil r i cap a w (by omega) hnil).mono fun e' w' ⟨g, cap', h⟩ => ⟨g, cap', ?_⟩
    have e0 : rowAt 0 xs i = [] := List.eq_nil_of_length_eq_zero (rowAt_len hx hi)
    rw [e0]
    exact h
  · exact rrow_some r c i b off l cap xs w hr hc hi hl hx hcap (.inr ⟨b, off, rfl, h⟩)
end Go.Proofs.YtmlpijlcpeoeaaaDoor

/- What combine of package code answers, of all matrices in form and as many lists of one size as columns; nothing that was there turns. -/
namespace Go.Proofs.YtmlpijlcpeoeaaaDoor
open Go.RowKit Gf
set_option linter.unusedVariables false
set_option maxRecDepth 20000
/-- lists as values, each in a block of its own -/
def rowsP (H : Nat) (gs : List (Nat × Nat)) : List Value := gs.map fun p => .slice (some ⟨p.1, 0, none⟩) H p.2
theorem rowsP_len (H : Nat) (gs : List (Nat × Nat)) : (rowsP H gs).length = gs.length := by simp [rowsP]
theorem rowsP_snoc (H : Nat) (gs : List (Nat × Nat)) (g cap : Nat) : rowsP H gs ++ [.slice (some ⟨g, 0, none⟩) H cap] = rowsP H (gs ++ [(g, cap)]) := by simp [rowsP]
theorem rowsP_at {H i : Nat} {gs : List (Nat × Nat)} {p : Nat × Nat} (h : gs[i]? = some p) : (rowsP H gs)[i]? = some (.slice (some ⟨p.1, 0, none⟩) H p.2) := by simp [rowsP, h]
/-- what row i of a combination is, byte by byte -/
def combL (c H : Nat) (xs : List F) (L : List (List F)) (i : Nat) : List F := rowF H (fun b => sumF (fun v => gm (at8 xs (i * c + v)) (bytesD L v b)) c)
theorem combL_len (c H : Nat) (xs : List F) (L : List (List F)) (i : Nat) : (combL c H xs L i).length = H := rowF_len _ _
/-- rows in blocks of their own, the later the higher -/
def RowsP (w : World) (B : Nat) (gs : List (Nat × Nat)) (f : Nat → List F) : Prop :=
  (∀ (i : Nat) (p : Nat × Nat), gs[i]? = some p → B ≤ p.1 ∧ Has8 w p.1 (f i) p.2) ∧ ∀ (i j : Nat) (p q : Nat × Nat), i < j → gs[i]? = some p → gs[j]? = some q → p.1 < q.1
theorem rowsP_nil (w : World) (B : Nat) (f : Nat → List F) : RowsP w B [] f := ⟨fun i p h => by simp at h, fun i j p q _ h => by simp at h⟩
theorem has8_later {w w' : World} {g cap : Nat} {xs : List F} (h : Has8 w g xs cap) (hb : Below w.heap.size w w') : Has8 w' g xs cap := by
  obtain ⟨cur, h1, h2⟩ := h
  exact ⟨cur, heap_later h1 hb, h2⟩
theorem has8_set_other {w : World} {g cap M j : Nat} {xs : List F} {v : Value} (h : Has8 w g xs cap) (hne : g ≠ M) : Has8 (w.setCell ⟨M, j, none⟩ v) g xs cap := by
  obtain ⟨cur, h1, h2⟩ := h
  exact ⟨cur, (heap_setCell_other _ _ _ _ hne).trans h1, h2⟩
theorem has8_lt {w : World} {g cap : Nat} {xs : List F} (h : Has8 w g xs cap) : g < w.heap.size := by
  obtain ⟨cur, h1, _⟩ := h
  exact ltHeap h1
theorem rowsP_below {w w' : World} {B : Nat} {gs : List (Nat × Nat)} {f : Nat → List F} (h : RowsP w B gs f) (hb : Below w.heap.size w w') : RowsP w' B gs f :=
  ⟨fun i p hp => ⟨(h.1 i p hp).1, has8_later (h.1 i p hp).2 hb⟩, h.2⟩
theorem rowsP_step {w w' : World} {B M g cap : Nat} {v : Value} {gs : List (Nat × Nat)} {f : Nat → List F} (h : RowsP w B gs f) (hb : Below w.heap.size w w') (hg : w.heap.size ≤ g) (hB : B ≤ g) (hM : M < w.heap.size) (hMg : ∀ (i : Nat) (p : Nat × Nat), gs[i]? = some p → p.1 ≠ M) (hr : Has8 w' g (f gs.length) cap) :
    RowsP (w'.setCell ⟨M, gs.length, none⟩ v) B (gs ++ [(g, cap)]) f := by
  refine ⟨fun i p hp => ?_, fun i j p q hij hp hq => ?_⟩
  · by_cases hi : i < gs.length
    · rw [List.getElem?_append_left hi] at hp
      exact ⟨(h.1 i p hp).1, has8_set_other (has8_later (h.1 i p hp).2 hb) (hMg i p hp)⟩
    · have e := (List.getElem?_eq_some_iff.1 hp).1
      simp at e
      obtain rfl : i = gs.length := by omega
      rw [List.getElem?_append_right (Nat.le_refl _), Nat.sub_self] at hp
      obtain rfl := Option.some.inj hp
      exact ⟨hB, has8_set_other hr (by show g ≠ M; omega)⟩
  · have ej := (List.getElem?_eq_some_iff.1 hq).1
    simp at ej
    rw [List.getElem?_append_left (by omega)] at hp
    by_cases hj : j < gs.length
    · rw [List.getElem?_append_left hj] at hq
      exact h.2 i j p q hij hp hq
    · obtain rfl : j = gs.length := by omega
      rw [List.getElem?_append_right (Nat.le_refl _), Nat.sub_self] at hq
      obtain rfl := Option.some.inj hq
      have := has8_lt (h.1 i p hp).2
      show p.1 < g
      omega
theorem rowsP_rows {w : World} {B M H R : Nat} {gs : List (Nat × Nat)} {f : Nat → List F} (h : RowsP w B gs f) (hl : gs.length = R) (hf : ∀ i, (f i).length = H) (hM : w.heap[M]? = some (.cells (slW (rowsP H gs) R) 22 (0, 0))) : Rows8 w (some ⟨M, 0, none⟩) ((List.range R).map f) := by
  refine .inr ⟨M, 0, rfl, fun j xs hj => ?_⟩
  have hjR : j < R := by have := (List.getElem?_eq_some_iff.1 hj).1; simpa using this
  rw [List.getElem?_map, List.getElem?_range hjR] at hj
  obtain rfl := Option.some.inj hj
  have hg : gs[j]? = some gs[j] := List.getElem?_eq_getElem (by omega)
  refine ⟨some ⟨gs[j].1, 0, none⟩, gs[j].2, ?_, row8_has (h.1 j _ hg).2⟩
  rw [Nat.zero_add, hf]
  exact cellAt hM j _ (slW_at (rowsP_at hg))
theorem comb_row {R c H i : Nat} {xs : List F} {L : List (List F)} (hi : i < R) (hL : L.length = c) (hLH : ∀ ys ∈ L, ys.length = H) : rowAt H (mulM c H xs L.flatten R) i = combL c H xs L i := by
  rw [mulM, rowAt_grid hi]
  refine rowF_congr fun b hb => sumF_congr fun v hv => ?_
  rw [bytesD, flat_at hLH (by omega) hb]
set_option maxHeartbeats 4000000 in
theorem ccomb_F (R c H l cap lh ch : Nat) (a ah : Option Addr) (xs : List F) (L : List (List F)) (w : World) (hR : R ≤ 64) (hc1 : 1 ≤ c) (hc : c ≤ 64) (hH : H ≤ 64) (hl : l = R * c) (hx : xs.length = R * c) (hcap : l ≤ cap) (hX : Row8 w a xs)
    (hlh : lh = c) (hL : L.length = c) (hLH : ∀ ys ∈ L, ys.length = H) (hLX : Rows8 w ah L) :
    Calls Tryd.prog 30 #[.agg #[.int .i64 R, .int .i64 c, .slice a l cap], .slice ah lh ch] w fun e w' => ∃ M gs, e = .returned (.tuple #[.slice (some ⟨M, 0, none⟩) R R, .nilIface]) ∧ w.heap.size ≤ M ∧ gs.length = R ∧
      w'.heap[M]? = some (.cells (slW (rowsP H gs) R) 22 (0, 0)) ∧ RowsP w' w.heap.size gs (combL c H xs L) ∧ Below w.heap.size w w' := by
  have HL : Hid (l = R * c) := hl
  have HX : Hid (xs.length = R * c) := hx
  have HRX : Hid (Row8 w a xs) := hX
  have HLL : Hid (L.length = c) := hL
  have HLH : Hid (∀ ys ∈ L, ys.length = H) := hLH
  have HLX : Hid (Rows8 w ah L) := hLX
  have HLc : Hid (lh = c) := hlh
  obtain ⟨b, off, rfl, hb0, hcl⟩ := rows8_at hLX (show 0 < L.length by omega)
  obtain ⟨a0, cap0, e0, -⟩ := hcl 0 _ (List.getElem?_eq_getElem (by omega))
  rw [hLH _ (List.getElem_mem _), Nat.add_zero] at e0
  have hlh0 : 0 < lh := by omega
  have hmk := run_makeS R hR
  rw [slW_nil] at hmk
  have hA := holds_new (holds_nil w) #[.int .i64 R, .int .i64 c, .slice a l cap] 65
  have HB1 : Hid (Below w.heap.size w (w.alloc (.cells #[.int .i64 R, .int .i64 c, .slice a l cap] 65))) := (Below.refl w.heap.size w).alloc (Nat.le_refl _) _
  have e1 := cell_later HB1.out e0
  have HA : Hid _ := hA
  clear hl hx hX hL hLH hLX hcl e0 hA hlh
  go_enter Tryd.func30, Tryd.ntmps30
  go_wp2_with fail
  refine Calls.mono (of_F H lh ch _ L _ hH (by have h1 := HLL.out; have h2 := HLc.out; omega) (by have := HLc.out; omega) HLH.out (rows8_below HLX.out HB1.out)) ?_
  rintro e w2 ⟨g2, n2, rfl, hn2, hg2, hh2, hb2⟩
  have HB2 : Hid (Below w.heap.size w w2) := HB1.out.trans (hb2.mono HB1.out.size)
  have HA2 : Hid _ := holds_cons (holds_later HA.out hb2) hh2
  have HN2 : Hid (n2 = lh * H) := hn2
  clear hb2 hh2 hn2 e1 HA HB1
  have c0 := cellAt (holds_at HA2.out 1 rfl) 0 _ rfl
  have c1 := cellAt (holds_at HA2.out 1 rfl) 1 _ rfl
  have c2 := cellAt (holds_at HA2.out 1 rfl) 2 _ rfl
  have HA3 : Hid _ := holds_new HA2.out #[.int .i64 lh, .int .i64 H, .slice (some ⟨g2, 0, none⟩) n2 n2] 65
  have HB3 : Hid _ := HB2.out.alloc HB2.out.size (.cells #[.int .i64 lh, .int .i64 H, .slice (some ⟨g2, 0, none⟩) n2 n2] 65)
  have z2 := ltHeap (holds_at HA2.out 1 rfl)
  have HFL : Hid (L.flatten.length = c * H) := by show _ = _; rw [flat_len HLH.out, HLL.out]
  clear HA2 HB2
  go_wp2_with fail
  obtain rfl : lh = c := HLc.out
  refine Calls.mono (product_F R lh H l cap n2 n2 a (some ⟨g2, 0, none⟩) xs L.flatten _ hR hc hH HL.out HX.out hcap (row8_below HRX.out HB3.out) HN2.out HFL.out (Nat.le_refl _) (holds_row HA3.out 1 rfl)) ?_
  rintro e w4 ⟨g4, n4, rfl, hn4, hg4, hh4, hb4⟩
  have HB4 : Hid (Below w.heap.size w w4) := HB3.out.trans (hb4.mono HB3.out.size)
  have HH4 : Hid (w4.heap[g4]? = some (.cells (vfs (mulM lh H xs L.flatten R)) 5 (0, 0))) := hh4
  have HN4 : Hid (n4 = R * H) := hn4
  clear hb4 hh4 hn4 c0 c1 c2 z2 HA3 HB3 hg2 hg4 HN2 HFL
  go_wp2
  have hz4 := HB4.out.size
  have hA5 := holds_new (holds_new (holds_cons (holds_nil w4) HH4.out) #[.int .i64 R, .int .i64 H, .slice (some ⟨g4, 0, none⟩) n4 n4] 65) (slW [] R) 22
  rw [World.size_alloc] at hA5
  have HB5 : Hid (Below w.heap.size w ((w4.alloc (.cells #[.int .i64 R, .int .i64 H, .slice (some ⟨g4, 0, none⟩) n4 n4] 65)).alloc (.cells (slW [] R) 22))) := (HB4.out.alloc hz4 _).alloc (by simp; omega) _
  have HA5 : Hid _ := hA5
  clear hA5 HB4 HH4 hmk
  generalize ((w4.alloc (.cells #[.int .i64 R, .int .i64 H, .slice (some ⟨g4, 0, none⟩) n4 n4] 65)).alloc (.cells (slW [] R) 22)) = W5 at *
  generalize hP : w4.heap.size = P at *
  generalize hM : P + 1 = M at *
  have hM0 : w.heap.size ≤ M := by omega
  have hPM : P ≠ M := by omega
  have hgM : g4 ≠ M := kind_ne (holds_at HA5.out 2 rfl) (holds_at HA5.out 0 rfl) (by decide)
  clear hP hM
  go_loopw [37] (fun i wr => ∃ j : Nat, ∃ gs : List (Nat × Nat), j ≤ R ∧ i = .int .i64 j ∧ gs.length = j ∧ Below w.heap.size w wr ∧
    Holds wr [(M, .cells (slW (rowsP H gs) R) 22 (0, 0)), (P, .cells #[.int .i64 R, .int .i64 H, .slice (some ⟨g4, 0, none⟩) n4 n4] 65 (0, 0)), (g4, .cells (vfs (mulM lh H xs L.flatten R)) 5 (0, 0))] ∧
    RowsP wr w.heap.size gs (combL lh H xs L)) (fun i _ => R - (intOf i).toNat)
  case atStart => exact ⟨0, [], by omega, rfl, rfl, HB5.out, HA5.out, rowsP_nil _ _ _⟩
  case round =>
    obtain ⟨j, gs, hj, rfl, hgs, hb, hh, hrows⟩ := hrel
    have HB : Hid _ := hb
    have HH : Hid _ := hh
    have HR : Hid (RowsP wr w.heap.size gs (combL lh H xs L)) := hrows
    have HGS : Hid (gs.length = j) := hgs
    clear hb hh hrows hgs
    by_cases hlt : j < R
    · have c0 := cellAt (holds_at HH.out 1 rfl) 0 _ rfl
      have c1 := cellAt (holds_at HH.out 1 rfl) 1 _ rfl
      have c2 := cellAt (holds_at HH.out 1 rfl) 2 _ rfl
      go_wp2_with fail
      refine Calls.mono (row_F R H n4 n4 j (some ⟨g4, 0, none⟩) (mulM lh H xs L.flatten R) _ hR hH HN4.out (mulM_len _ _ _ _ _) (Nat.le_refl _) (holds_row HH.out 2 rfl) (fun h => by cases h) hlt) ?_
      rintro e w6 ⟨a6, cap6, rfl, _, _, hg6, hb6⟩
      obtain ⟨g6, rfl, hg6, hr6⟩ := hg6 (by simp)
      rw [comb_row hlt HLL.out HLH.out] at hr6
      have hz := HB.out.size
      have hlM := ltHeap (holds_at HH.out 0 rfl)
      have hs6 := heap_later (holds_at HH.out 0 rfl) hb6
      have hg6M : g6 ≠ M := by omega
      have hS := HGS.out
      have c7 : w6.cell? ⟨M, j, none⟩ = some (.slice none 0 0) := cellAt hs6 j _ (by have e := slW_next (vs := rowsP H gs) (r := R) (by rw [rowsP_len, hS]; exact hlt); rwa [rowsP_len, hS] at e)
      have c8 : w6.frozen? ⟨M, j, none⟩ = false := frozen_of_row _ _ _ _ _ hs6
      have HRX' : Hid (RowsP (w6.setCell ⟨M, j, none⟩ (.slice (some ⟨g6, 0, none⟩) H cap6)) w.heap.size (gs ++ [(g6, cap6)]) (combL lh H xs L)) := by
        have := rowsP_step (v := .slice (some ⟨g6, 0, none⟩) H cap6) (M := M) (cap := cap6) HR.out hb6 hg6 (by omega) hlM (fun i p hp => by
          obtain ⟨cur, h1, _⟩ := (HR.out.1 i p hp).2
          exact kind_ne h1 (holds_at HH.out 0 rfl) (by decide)) (by rw [hS]; exact hr6)
        rwa [hS] at this
      have HT6 : Hid ((w6.setCell ⟨M, j, none⟩ (.slice (some ⟨g6, 0, none⟩) H cap6)).heap[M]? = some (.cells (slW (rowsP H (gs ++ [(g6, cap6)])) R) 22 (0, 0))) := by
        show _ = _
        have e := slW_set (.slice (some ⟨g6, 0, none⟩) H cap6) (vs := rowsP H gs) (r := R) (by rw [rowsP_len, hS]; exact hlt)
        rw [rowsP_len, hS, rowsP_snoc] at e
        rw [heap_setCell_same _ _ _ _ _ _ hs6, e]
      have hX0 := holds_later HH.out hb6
      have HHX : Hid (Holds (w6.setCell ⟨M, j, none⟩ (.slice (some ⟨g6, 0, none⟩) H cap6)) [(M, .cells (slW (rowsP H (gs ++ [(g6, cap6)])) R) 22 (0, 0)), (P, .cells #[.int .i64 R, .int .i64 H, .slice (some ⟨g4, 0, none⟩) n4 n4] 65 (0, 0)), (g4, .cells (vfs (mulM lh H xs L.flatten R)) 5 (0, 0))]) :=
        holds_cons (holds_cons (holds_cons (holds_nil _) ((heap_setCell_other _ _ _ _ hgM).trans (holds_at hX0 2 rfl))) ((heap_setCell_other _ _ _ _ hPM).trans (holds_at hX0 1 rfl))) HT6.out
      have HBX : Hid (Below w.heap.size w (w6.setCell ⟨M, j, none⟩ (.slice (some ⟨g6, 0, none⟩) H cap6))) := (HB.out.trans (hb6.mono HB.out.size)).setCell (by show w.heap.size ≤ M; omega) _
      clear hs6 hb6 hr6 hX0 c0 c1 c2 hS
      go_wp2
      exact ⟨⟨j + 1, gs ++ [(g6, cap6)], by omega, by go_num, by simp [HGS.out], HBX.out, HHX.out, HRX'.out⟩, by simp [intOf]; omega⟩
    · obtain rfl : j = R := by omega
      go_wp2
      go_ret2
      exact ⟨M, gs, rfl, hM0, HGS.out, holds_at HH.out 0 rfl, HR.out, HB.out⟩
end Go.Proofs.YtmlpijlcpeoeaaaDoor

/- What small numbers in decimal, and names of halves, answer: the library's Itoa, nameOf, Name, Parse of package half, the document's own Number and Name; nothing that was there turns. -/
namespace Go.Proofs.YtmlpijlcpeoeaaaDoor
open Go.RowKit Gf
set_option linter.unusedVariables false
set_option maxRecDepth 20000
/-- a number below a hundred in decimal -/
def numB (n : Nat) : List UInt8 := if n < 10 then [UInt8.ofNat (48 + n)] else [UInt8.ofNat (48 + n / 10), UInt8.ofNat (48 + n % 10)]
/-- bytes as a string -/
def strB (l : List UInt8) : ByteArray := ⟨l.toArray⟩
theorem numB_dec {n : Nat} (h : n < 100) : Lib.decDigits n = numB n := by
  by_cases h1 : n < 10
  · rw [Lib.decDigits_one h1, numB, if_pos h1]
  · rw [Lib.decDigits_two h1 h, numB, if_neg h1]
theorem small_ba (x : ByteArray) (l : List UInt8) (h : x.data.toList = l) : x = strB l := by
  subst h
  cases x
  simp [strB]
theorem extr_data (x : ByteArray) (i j : Nat) : (x.extract i j).data.toList = (x.data.toList.drop i).take (j - i) := by
  simp [ByteArray.data_extract]
/-- a half's name -/
def nameB (k h : Nat) : List UInt8 := (if h / 2 < k then 100 :: numB (h / 2) else 112 :: numB (h / 2 - k)) ++ [if h % 2 = 0 then 97 else 98]
theorem ab0 : (⟨#[97, 98]⟩ : ByteArray).extract 0 1 = strB [97] := by decide +kernel
theorem ab1 : (⟨#[97, 98]⟩ : ByteArray).extract 1 2 = strB [98] := by decide +kernel
theorem strB_app (a b : List UInt8) : strB a ++ strB b = strB (a ++ b) := by
  apply ByteArray.ext
  simp [strB]
theorem strB_size (l : List UInt8) : (strB l).size = l.length := by simp [strB, ByteArray.size]
theorem numB_size (n : Nat) : (strB (numB n)).size ≤ 2 := by
  rw [strB_size, numB]
  split <;> simp
theorem strB_one (c : UInt8) : (⟨#[c]⟩ : ByteArray) = strB [c] := rfl
theorem strB_nil : (⟨#[]⟩ : ByteArray) = strB [] := rfl
theorem strB_inj {a b : List UInt8} (h : strB a = strB b) : a = b := by
  have := congrArg (fun x => x.data.toList) h
  simpa [strB] using this
def dig (d : Nat) : UInt8 := UInt8.ofNat (48 + d)
theorem numB_one {n : Nat} (h : n < 10) : numB n = [dig n] := if_pos h
theorem numB_two {n : Nat} (h : ¬ n < 10) : numB n = [dig (n / 10), dig (n % 10)] := if_neg h
theorem strB_list (l : List UInt8) : (strB l).toList = l := by simp [strB]
theorem strB_some {l : List UInt8} (h : l ≠ []) : (strB l).toList.isEmpty = false := by rw [strB_list]; cases l with | nil => exact absurd rfl h | cons => rfl
theorem numB_ne (n : Nat) : numB n ≠ [] := by rw [numB]; split <;> simp
def emptyN : Value → Nat | .string b => if b.size = 0 then 1 else 0 | _ => 0
theorem vf_digit {d : Nat} (h : d < 10) : Value.int .u8 (48 + (d : Int)) = vf (dig d) := by
  have : (UInt8.ofNat (48 + d)).toNat = 48 + d := by rw [UInt8.toNat_ofNat']; omega
  simp only [vf, dig, this]
  simp
theorem conv_digit {d : Nat} (h : d < 10) (w : World) : (convert 22 9 (.slice (some ⟨w.heap.size, 0, none⟩) 1 1)).run Tryd.prog (w.alloc (.cells #[.int .u8 (48 + (d : Int))] 5)) = .ok (.string (strB [dig d])) (w.alloc (.cells #[.int .u8 (48 + (d : Int))] 5)) := by
  rw [vf_digit h]
  exact conv8 (xs := [dig d]) rfl (row8_own (heap_alloc_last w (.cells (vfs [dig d]) 5)))
end Go.Proofs.YtmlpijlcpeoeaaaDoor

/- What Name and Parse of package half answer, at all numbers and texts; unlike halves have unlike names; nothing that was there turns. -/
namespace Go.Proofs.YtmlpijlcpeoeaaaDoor
open Go.RowKit Gf
set_option linter.unusedVariables false
set_option maxRecDepth 20000
theorem strB_eq {a b : List UInt8} (h : a = b) : ((strB a).toList == (strB b).toList) = true := by rw [h]; exact beq_self_eq_true _
theorem strB_ne {a b : List UInt8} (h : ¬ a = b) : ((strB a).toList == (strB b).toList) = false := by rw [strB_list, strB_list]; exact beq_eq_false_iff_ne.2 h
theorem nameB_inj : ∀ k < 15, ∀ h < 32, ∀ j < 32, nameB k h = nameB k j → h = j := by decide +kernel
theorem nameB_len : ∀ k < 15, ∀ h < 32, 3 ≤ (nameB k h).length ∧ (nameB k h).length ≤ 4 := by decide +kernel
/-- which half a name is -/
def ParsedAs (k n : Nat) (l : List UInt8) (s : Addr) (v : Value) : Prop :=
  (∃ h : Nat, h < n ∧ nameB k h = l ∧ v = .tuple #[.int .i64 h, .nilIface]) ∨ (∀ h, h < n → nameB k h ≠ l) ∧ v = .tuple #[.int .i64 0, errAt s]
end Go.Proofs.YtmlpijlcpeoeaaaDoor

/- What Row of package half answers, and Rows of numbers that aren't legal; alive of stage 5; nothing that was there turns. -/
namespace Go.Proofs.YtmlpijlcpeoeaaaDoor
open Go.RowKit Gf
set_option linter.unusedVariables false
set_option maxRecDepth 20000
set_option maxHeartbeats 1000000 in
theorem hrows_bad (k r : Int) (w : World) (s : Addr) (hs : w.cell? ⟨0, 0, none⟩ = some (errAt s)) (hk0 : -9223372036854775808 ≤ k) (hk1 : k ≤ 9223372036854775807) (hr0 : -9223372036854775808 ≤ r) (hr1 : r ≤ 9223372036854775807) (h : ¬ LegalP k r) :
    Calls Tryd.prog 28 #[.int .i64 k, .int .i64 r] w fun e w' => e = .returned (.tuple #[.agg #[.int .i64 0, .int .i64 0, .slice none 0 0], errAt s]) ∧ Below w.heap.size w w' := by
  have HB0 : Hid _ := (Below.refl w.heap.size w).alloc (Nat.le_refl _) (.cells #[.int .i64 0, .int .i64 0, .slice none 0 0] 65)
  have HA0 : Hid _ := holds_new (holds_nil w) #[.int .i64 0, .int .i64 0, .slice none 0 0] 65
  have HS : Hid _ := cell_later HB0.out hs
  have H : Hid _ := h
  clear h hs
  unfold errAt at *
  go_enter Tryd.func28, Tryd.ntmps28
  go_wp2_with fail
  refine Calls.mono (generator_bad k r _ s HS.out hk0 hk1 hr0 hr1 H.out) ?_
  unfold errAt
  rintro e w1 ⟨rfl, hb1⟩
  have HA1 : Hid _ := holds_alloc (holds_later HA0.out hb1) (.cells #[.int .i64 0, .int .i64 0, .slice none 0 0] 65)
  have hB1 := HB0.out.trans (hb1.mono HB0.out.size)
  have HB1 : Hid _ := hB1.alloc hB1.size (.cells #[.int .i64 0, .int .i64 0, .slice none 0 0] 65)
  have zz := hb1.size
  have k2 := holds_at (holds_later HA0.out hb1) 0 rfl
  have d4 : w1.frozen? ⟨w.heap.size, 0, none⟩ = false := frozen_of_row _ _ _ _ _ k2
  have d5 : w1.frozen? ⟨w.heap.size, 1, none⟩ = false := frozen_of_row _ _ _ _ _ k2
  have d6 : w1.frozen? ⟨w.heap.size, 2, none⟩ = false := frozen_of_row _ _ _ _ _ k2
  have c4 := cellAt k2 0 _ rfl
  have c5 := cellAt k2 1 _ rfl
  have c6 := cellAt k2 2 _ rfl
  have z4 := ltHeap k2
  have hbX : Hid _ := hb1
  clear hb1 hB1 k2
  go_wp2
  refine bodyPost_ret (v := .tuple #[.agg #[.int .i64 0, .int .i64 0, .slice none 0 0], .iface 140 (.pointer (some s))]) (by simp [results, Tryd.results28, go_sem, c4, c5, c6, z4]) rfl ⟨rfl, ?_⟩
  have hX := (((HB0.out.trans (hbX.out.mono HB0.out.size)).setCell (p := ⟨w.heap.size, 0, none⟩) (Nat.le_refl _) (.int .i64 0)).setCell (p := ⟨w.heap.size, 1, none⟩) (Nat.le_refl _) (.int .i64 0)).setCell (p := ⟨w.heap.size, 2, none⟩) (Nat.le_refl _) (.slice none 0 0)
  exact hX.alloc hX.size _
theorem rowAt_half {k r h : Nat} (hh : h < 2 * (k + r)) : rowAt (2 * k) (halfM k r) h = rowF (2 * k) (halfF k (carN (groupN k r)) h) := rowAt_grid hh
theorem alive5_row : rowF (2 * 1) (halfF 1 (carN (groupN 1 2)) 5) = [1, 142] := by decide +kernel
theorem alive5_name : strB (nameB 4 9) = ⟨#[112, 48, 98]⟩ := by decide +kernel
end Go.Proofs.YtmlpijlcpeoeaaaDoor

/- What SameLists answers of two lists that are the same, and what Apart answers of two pieces of memory that lie apart: the second one is written over. -/
namespace Go.Proofs.YtmlpijlcpeoeaaaDoor
open Go.RowKit Gf
set_option linter.unusedVariables false
set_option maxRecDepth 20000
set_option maxHeartbeats 1000000 in
theorem sameLists_F (l ca cb : Nat) (a b : Option Addr) (L : List (List F)) (w : World) (hl : l = L.length) (hl9 : l ≤ 140737488355328) (ha : Rows8 w a L) (hb : Rows8 w b L) :
    Calls Tryd.prog 15 #[.slice a l ca, .slice b l cb] w fun e w' => e = .returned (.bool true) ∧ Below w.heap.size w w' := by
  have HL : Hid _ := hl
  have HA : Hid _ := ha
  have HB : Hid _ := hb
  clear hl ha hb
  go_enter Tryd.func15, Tryd.ntmps15
  go_wp2
  go_loopw [13] (fun t wr => ∃ j : Nat, j ≤ l ∧ t = .int .i64 j ∧ Below w.heap.size w wr) (fun t _ => l - (intOf t).toNat)
  case atStart => exact ⟨0, by omega, rfl, Below.refl _ _⟩
  case round =>
    obtain ⟨j, hj, rfl, hbw⟩ := hrel
    have HBW : Hid _ := hbw
    by_cases hlt : j < l
    · obtain ⟨b1, o1, rfl, _, h1⟩ := rows8_at (rows8_below HA.out hbw) (show j < L.length by rw [← HL.out]; exact hlt)
      obtain ⟨b2, o2, rfl, _, h2⟩ := rows8_at (rows8_below HB.out hbw) (show j < L.length by rw [← HL.out]; exact hlt)
      obtain ⟨xs, hxs⟩ : ∃ xs, L[j]? = some xs := ⟨_, List.getElem?_eq_getElem (by rw [← HL.out]; exact hlt)⟩
      obtain ⟨a1, q1, e1, r1⟩ := h1 j xs hxs
      obtain ⟨a2, q2, e2, r2⟩ := h2 j xs hxs
      have c1 : ∀ w', Below wr.heap.size wr w' → w'.cell? ⟨b1, o1 + j, none⟩ = some (.slice a1 xs.length q1) := fun w' hb => cell_later hb e1
      have c2 : ∀ w', Below wr.heap.size wr w' → w'.cell? ⟨b2, o2 + j, none⟩ = some (.slice a2 xs.length q2) := fun w' hb => cell_later hb e2
      have kA := conv_keep8 (ca := q1) (show xs.length = xs.length from rfl) (row_keep r1)
      have kB := conv_keep8 (ca := q2) (show xs.length = xs.length from rfl) (row_keep r2)
      clear hbw h1 h2 hxs e1 e2 r1 r2
      go_upto_region 6 with fail
      have hR2 : Below wr.heap.size wr wr.drew := (Below.refl _ _).drew
      go_region_held3 (fun w' => Below wr.heap.size wr w') (first | assumption | (refine Below.drew ?_; assumption)) (fail)
      clear kA kB c1 c2 hR2
      go_wp2
      exact ⟨⟨j + 1, by omega, by go_num, HBW.out.drew⟩, by simp [intOf]; omega⟩
    · obtain rfl : j = l := by omega
      clear hbw
      go_wp2
      go_ret
      exact ⟨rfl, HBW.out⟩
/-- turned as far as byte o + k -/
theorem flTo_len' (xs : List F) (k : Nat) : (flTo xs k).length = xs.length := flTo_len xs k
theorem append8_growsAt {w : World} {g o n cap : Nat} {xs ys : List F} {ad : Addr} {m c : Nat} (ty : TypeId) (hx : Row8 w (some ⟨g, o, none⟩) xs) (hn : n = xs.length) (hm : m = ys.length) (hcap : cap < n + m) (hb : n + m ≤ 140737488355328)
    (hy : ∀ j, j < ys.length → w.cell? (ad.add j) = some (.int .u8 ((at8 ys j).toNat : Int))) :
    ∃ g' cap' w', (Builtin.append_ #[22, 22] ty #[.slice (some ⟨g, o, none⟩) n cap, .slice (some ad) m c]).run Tryd.prog w = .ok (.slice (some ⟨g', 0, none⟩) (n + m) cap') w' ∧
      Has8 w' g' (xs ++ ys) cap' ∧ w.grownBy w' none ∧ w.heap.size ≤ g' := by
  subst hn hm
  obtain ⟨i, hi, h1, h2, h3⟩ := info8
  obtain ⟨v', w', hrun, ho, hgr⟩ := run_append_arg_grows (P := Tryd.prog) w 22 ty 5 i _ 1 1 Tryd.underlying22 hi h3 h1 h2 rfl (by decide)
    ⟨g, o, none⟩ xs.length cap (xs.map vf) (by simp) (fun j v hv => by
      simp only [List.getElem?_map, Option.map_eq_some_iff] at hv
      obtain ⟨x, hx1, rfl⟩ := hv
      have hj : j < xs.length := (List.getElem?_eq_some_iff.1 hx1).1
      have e : at8 xs j = x := by simp [at8, hx1]
      rcases hx with e' | ⟨b, off, e', hx⟩
      · rw [e'] at hj; simp at hj
      · cases e'
        have hadd : (⟨g, o, none⟩ : Addr).add j = ⟨g, o + j, none⟩ := by unfold Addr.add; split <;> simp_all
        rw [hadd, hx j hj, e]; rfl)
    ad ys.length c (ys.map vf) (by simp) (fun j v hv => by
      simp only [List.getElem?_map, Option.map_eq_some_iff] at hv
      obtain ⟨x, hx1, rfl⟩ := hv
      have hj : j < ys.length := (List.getElem?_eq_some_iff.1 hx1).1
      have e : at8 ys j = x := by simp [at8, hx1]
      rw [hy j hj, e]; rfl) hcap (by simp only [maxLen]; omega) (by omega)
  rcases ho.2 with ⟨hv, h0⟩ | ⟨g', cap', cur', hv, hge, hg', hl', hm', hs', ht'⟩
  · omega
  · subst hv
    refine ⟨g', cap', w', hrun, ⟨cur', hg', by omega, by simpa using hl', hm', ?_⟩, hgr, hge⟩
    rw [List.length_append, List.map_append, ← ht', Nat.mul_one]
theorem add_zero_at (g j : Nat) : (⟨g, 0, none⟩ : Addr).add j = ⟨g, j, none⟩ := by unfold Addr.add; split <;> simp_all
theorem row8_piece {w : World} {g o m : Nat} {xs : List F} {t : TypeId} {fr : Nat × Nat} (h : w.heap[g]? = some (.cells (vfs xs) t fr)) (ho : o + m ≤ xs.length) : Row8 w (some ⟨g, o, none⟩) ((xs.drop o).take m) :=
  .inr ⟨g, o, rfl, fun j hj => by
    rw [List.length_take, List.length_drop] at hj
    rw [cell_of_row _ _ _ _ _ _ h, vfs_get _ _ (by omega), at8_take (by omega), at8_drop]⟩
/-- Apart, where the second list is a piece of a block, full, and the first one doesn't meet it -/
theorem apart_S (gb o m n ca : Nat) (aa : Option Addr) (xs ys : List F) (w : World) (hn : n = xs.length) (ho : o + m ≤ ys.length) (hm : m ≤ 140737488351232)
    (hy : w.heap[gb]? = some (.cells (vfs (flTo ys o)) 5 (0, 0)))
    (hx : ∀ k, k ≤ m → ∀ w', w.grownBy w' (some gb) → w'.heap[gb]? = some (.cells (vfs (flTo ys (o + k))) 5 (0, 0)) → Row8 w' aa xs) :
    Calls Tryd.prog 16 #[.slice aa n ca, .slice (some ⟨gb, o, none⟩) m m] w fun e w' => e = .returned (.bool true) ∧ w.grownBy w' (some gb) ∧
      w'.heap[gb]? = some (.cells (vfs (flTo ys (o + m))) 5 (0, 0)) := by
  have k0 := conv8 (ca := ca) hn (hx 0 (Nat.zero_le _) w (World.grownBy.refl _ _) hy)
  have hgb : gb < w.heap.size := ltHeap hy
  have HX : Hid _ := hx
  have HY : Hid _ := hy
  have HN : Hid _ := hn
  have HO : Hid _ := ho
  clear hx hy hn
  go_enter Tryd.func16, Tryd.ntmps16
  go_wp2
  clear k0
  go_loopw [13] (fun i wr => ∃ k : Nat, k ≤ m ∧ i = .int .i64 k ∧ w.grownBy wr (some gb) ∧ wr.heap[gb]? = some (.cells (vfs (flTo ys (o + k))) 5 (0, 0))) (fun i _ => m - (intOf i).toNat)
  case atStart => exact ⟨0, by omega, rfl, World.grownBy.refl _ _, HY.out⟩
  case round =>
    obtain ⟨k, hk, rfl, hg1, hh1⟩ := hrel
    by_cases hlt : k < m
    · have hky : o + k < ys.length := by have := HO.out; omega
      have c1 : wr.cell? ⟨gb, o + k, none⟩ = some (.int .u8 ((at8 ys (o + k)).toNat : Int)) := by
        rw [cell_of_row _ _ _ _ _ _ hh1, vfs_get _ _ (by rw [flTo_len]; exact hky), flTo_at]
      have c2 : wr.frozen? ⟨gb, o + k, none⟩ = false := frozen_of_row _ _ _ _ _ hh1
      have ex := fl_val (at8 ys (o + k))
      have HG : Hid _ := hg1
      have HH : Hid _ := hh1
      have HS : Hid _ := flTo_succ ys (o + k) hky
      clear hg1 hh1
      go_wp2
      exact ⟨⟨k + 1, by omega, by go_num, grownBy_setCell HG.out _, by rw [heap_setCell_same _ _ _ _ _ _ HH.out, vfs_set, HS.out]; rfl⟩, by simp [intOf]; omega⟩
    · obtain rfl : k = m := by omega
      obtain ⟨zs, hzs⟩ : ∃ zs, zs = ((flTo ys (o + k)).drop o).take k := ⟨_, rfl⟩
      have hzl : k = zs.length := by
        rw [hzs, List.length_take, List.length_drop, flTo_len]
        have := HO.out
        omega
      have hzr : Row8 wr (some ⟨gb, o, none⟩) zs := by
        rw [hzs]
        exact row8_piece hh1 (by rw [flTo_len]; exact HO.out)
      have k1 := conv8 (ca := ca) HN.out (HX.out k (Nat.le_refl _) wr hg1 hh1)
      have hsz := hg1.size
      obtain ⟨g2, cap2, w2, hrun, hs2, hgr2, hge2⟩ := append8_growsAt (w := wr.alloc (.cells (vfs sevens) 5)) (g := gb) (o := o) (n := k) (cap := k) (xs := zs) (ys := sevens) (ad := ⟨wr.heap.size, 0, none⟩) (m := 8) (c := 8) 22
        (row8_alloc hzr _) hzl rfl (by omega) (by omega) (fun j hj => by
          rw [add_zero_at, World.cell?_alloc_at _ _ _ _ rfl, vfs_get _ _ hj])
      have hge : wr.heap.size + 1 ≤ g2 := by simpa using hge2
      have hgr3 : w.grownBy w2 (some gb) := grownBy_trans (grownBy_trans hg1 (World.grownBy_alloc wr (.cells (vfs sevens) 5) none) (by simp)) hgr2 (by simp)
      have hh3 : w2.heap[gb]? = some (.cells (vfs (flTo ys (o + k))) 5 (0, 0)) := (hgr2.block gb (by simp; omega) (by simp)).trans (((World.grownBy_alloc wr _ none).block gb (by omega) (by simp)).trans hh1)
      have HSV : Hid (vfs sevens = #[.int .u8 7, .int .u8 7, .int .u8 7, .int .u8 7, .int .u8 7, .int .u8 7, .int .u8 7, .int .u8 7]) := rfl
      have HR : Hid _ := hrun
      have HS2 : Hid _ := hs2
      have HG3 : Hid _ := hgr3
      have HH3 : Hid _ := hh3
      have HLS : Hid ((zs ++ sevens).length = k + 8) := by show _ = _; rw [List.length_append, ← hzl]; rfl
      clear hg1 hh1 hzr hzs hzl hrun hs2 hgr3 hh3 hgr2 hge2
      go_wp2_with (at_builtin; rw [← HSV.out]; refine wpList_append_run rfl _ _ 22 rfl _ _ _ _ rfl rfl HR.out ?_)
      clear k1
      have hg2b : g2 ≠ gb := by omega
      have hg2w : w.heap.size ≤ g2 := by omega
      go_loopw [8] (fun i wv => ∃ j : Nat, ∃ zs : List F, j ≤ 8 ∧ i = .int .i64 ((k + j : Nat) : Int) ∧ zs.length = k + 8 ∧ w2.grownBy wv (some g2) ∧ Has8 wv g2 zs cap2) (fun i _ => k + 8 - (intOf i).toNat)
      case atStart => exact ⟨0, _, by omega, rfl, HLS.out, World.grownBy.refl _ _, HS2.out⟩
      case round =>
        obtain ⟨j, zs, hj, rfl, hz, hgv, hhv⟩ := hrel
        by_cases hlt2 : j < 8
        · obtain ⟨c1, c2⟩ := has8_cell (j := k + j) hhv (by omega)
          have ex := fl_val (at8 zs (k + j))
          have HG : Hid _ := hgv
          have HS : Hid _ := has8_set (j := k + j) hhv (by omega) (fl (at8 zs (k + j)))
          have HZ : Hid _ := hz
          clear hgv hhv hz
          go_wp2
          exact ⟨⟨j + 1, zs.set (k + j) (fl (at8 zs (k + j))), by omega, by go_num, by rw [List.length_set]; exact HZ.out, grownBy_setCell HG.out _, HS.out⟩, by simp [intOf]; omega⟩
        · have hj8 : j = 8 := by omega
          have hfin : w.grownBy wr (some gb) := grownBy_trans HG3.out hgv (fun q hq _ => by simp; omega)
          have hhb : wr.heap[gb]? = some (.cells (vfs (flTo ys (o + k))) 5 (0, 0)) := (hgv.block gb (Array.getElem?_eq_some_iff.1 HH3.out).1 (fun e => hg2b (Option.some.inj e).symm)).trans HH3.out
          have k2 := conv8 (ca := ca) HN.out (HX.out k (Nat.le_refl _) wr hfin hhb)
          have HF : Hid _ := hfin
          have HB : Hid _ := hhb
          clear hgv hhv hfin hhb hz
          subst hj8
          go_wp2
          go_ret
          exact ⟨rfl, HF.out, HB.out⟩
end Go.Proofs.YtmlpijlcpeoeaaaDoor

/- What Encode of package code answers, of all numbers and lists of bytes; nothing that was there turns. -/
namespace Go.Proofs.YtmlpijlcpeoeaaaDoor
open Go.RowKit Gf
set_option linter.unusedVariables false
set_option maxRecDepth 20000
/-- which error Encode tells -/
def encE (k r n : Int) : Nat := if LegalP k r then halfE k n else 1
theorem encE_ok {k r n : Int} (h : encE k r n = 0) : ∃ a b m : Nat, k = a ∧ r = b ∧ n = m ∧ 1 ≤ a ∧ 2 ≤ b ∧ a + b ≤ 16 ∧ 1 ≤ m ∧ m ≤ 128 * a := by
  unfold encE at h
  split at h
  · rename_i hL
    obtain ⟨a, b, rfl, rfl, h1, h2, h3⟩ := legal_nat hL
    obtain ⟨c, m, hc, rfl, _, _, h4, h5⟩ := half_ok h
    exact ⟨a, b, m, rfl, rfl, rfl, h1, h2, h3, h4, by omega⟩
  · omega
theorem encE_of {k r n : Nat} (h1 : 1 ≤ k) (h2 : 2 ≤ r) (h3 : k + r ≤ 16) (h4 : 1 ≤ n) (h5 : n ≤ 128 * k) : encE k r n = 0 := by
  unfold encE; rw [if_pos (show LegalP k r from ⟨by omega, by omega, by omega⟩), halfE_ok h1 (by omega) h4 h5]
theorem halfE_25 (k n : Int) : halfE k n ≤ 25 := by unfold halfE; split <;> (try split) <;> (try split) <;> omega
theorem encE_le (k r n : Int) : encE k r n ≤ 25 := by unfold encE; split; exact halfE_25 _ _; omega
/-- the errors that Encode and Fits name -/
def ErrsF (w : World) (E : Nat → Addr) : Prop := ErrsE w E ∧ w.cell? ⟨2, 0, none⟩ = some (errAt (E 1))
theorem errsF_below {w w' : World} {E : Nat → Addr} (h : ErrsF w E) (hb : Below w.heap.size w w') : ErrsF w' E := ⟨errsE_below h.1 hb, cell_later hb h.2⟩
theorem comb_half {k r H : Nat} {L : List (List F)} {i : Nat} (hi : i < 2 * (k + r)) : combL (2 * k) H (halfM k r) L i = imgL k (carN (groupN k r)) H (bytesD L) i :=
  rowF_congr fun b _ => sumF_congr fun v hv => by rw [halfM, at8_grid hi hv]
theorem rowsP_congr {w : World} {B : Nat} {gs : List (Nat × Nat)} {f g : Nat → List F} (h : RowsP w B gs f) (e : ∀ i, i < gs.length → f i = g i) : RowsP w B gs g :=
  ⟨fun i p hp => ⟨(h.1 i p hp).1, by rw [← e i (List.getElem?_eq_some_iff.1 hp).1]; exact (h.1 i p hp).2⟩, h.2⟩
/-- all halves of a stripe in memory, each in a block of its own -/
def EncAt (w : World) (B M : Nat) (k r n : Nat) (xs : List F) (gs : List (Nat × Nat)) : Prop :=
  B ≤ M ∧ gs.length = 2 * (k + r) ∧ w.heap[M]? = some (.cells (slW (rowsP (cntN (2 * k) n) gs) (2 * (k + r))) 22 (0, 0)) ∧ RowsP w B gs (imgL k (carN (groupN k r)) (cntN (2 * k) n) (strD (cntN (2 * k) n) xs))
theorem encAt_below {w w' : World} {B M k r n : Nat} {xs : List F} {gs : List (Nat × Nat)} (h : EncAt w B M k r n xs gs) (hb : Below w.heap.size w w') : EncAt w' B M k r n xs gs := ⟨h.1, h.2.1, heap_later h.2.2.1 hb, rowsP_below h.2.2.2 hb⟩
theorem encAt_rows {w : World} {B M k r n : Nat} {xs : List F} {gs : List (Nat × Nat)} (h : EncAt w B M k r n xs gs) : Rows8 w (some ⟨M, 0, none⟩) (encL k r (cntN (2 * k) n) xs) :=
  rowsP_rows h.2.2.2 h.2.1 (fun i => imgL_len _ _ _ _ _) h.2.2.1
set_option maxHeartbeats 4000000 in
theorem encode_ok (k r n ca : Nat) (a : Option Addr) (xs : List F) (w : World) (E : Nat → Addr) (hE : ErrsF w E) (h1 : 1 ≤ k) (h2 : 2 ≤ r) (h3 : k + r ≤ 16) (h4 : 1 ≤ n) (h5 : n ≤ 128 * k) (hn : n = xs.length) (hx : Row8 w a xs) :
    Calls Tryd.prog 11 #[.int .i64 k, .int .i64 r, .slice a n ca] w fun e w' => ∃ (M c : Nat) (gs : List (Nat × Nat)), e = .returned (.tuple #[.slice (some ⟨M, 0, none⟩) c c, .nilIface]) ∧ c = 2 * (k + r) ∧
      EncAt w' w.heap.size M k r n xs gs ∧ Below w.heap.size w w' := by
  obtain ⟨k1, k2, _, _⟩ := cnt_half h1 (show k ≤ 14 by omega) h4 h5
  have HE : Hid (ErrsF w E) := hE
  have HX : Hid (Row8 w a xs) := hx
  have HN : Hid (n = xs.length) := hn
  clear hE hx hn
  obtain ⟨c2, hc2⟩ : ∃ c2, c2 = 2 * k := ⟨_, rfl⟩
  obtain ⟨cR, hcR⟩ : ∃ cR, cR = 2 * (k + r) := ⟨_, rfl⟩
  have HC2 : Hid (c2 = 2 * k) := hc2
  have HCR : Hid (cR = 2 * (k + r)) := hcR
  have HR : Hid _ := fun w s h => hrows_F k r w s h h1 h2 h3
  rw [← hc2, ← hcR] at HR
  have hcl : c2 ≤ 28 := by omega
  have hcl1 : 1 ≤ c2 := by omega
  have hRl : cR ≤ 32 := by omega
  clear hc2 hcR
  go_enter Tryd.func11, Tryd.ntmps11
  go_wp2_with fail
  refine Calls.mono (HR.out _ (E 1) HE.out.2) ?_
  rintro e w1 ⟨g1, m1, rfl, hm1, hg1, hh1, hb1⟩
  have HA1 : Hid _ := holds_new (holds_cons (holds_nil w1) hh1) #[.int .i64 cR, .int .i64 c2, .slice (some ⟨g1, 0, none⟩) m1 m1] 65
  have HB1 : Hid (Below w.heap.size w (w1.alloc (.cells #[.int .i64 cR, .int .i64 c2, .slice (some ⟨g1, 0, none⟩) m1 m1] 65))) := hb1.alloc hb1.size _
  have HM1 : Hid (m1 = cR * c2) := hm1
  clear hm1 hg1 hh1 hb1
  go_wp2_with fail
  refine Calls.mono (split_ok k n ca a xs _ E (errsE_below HE.out.1 HB1.out) h1 (by omega) h4 h5 HN.out (row8_below HX.out HB1.out)) ?_
  rintro e w2 ⟨hb2, g2, c, H, rfl, hc, hH, hz1, hz2, hne, hB2, hG2, hbl⟩
  obtain rfl : c = c2 := by rw [hc, HC2.out]
  have HH : Hid (H = cntN (2 * k) n) := hH
  have HR2 : Hid (Rows8 w2 (some ⟨hb2, 0, none⟩) ((List.range c).map (hf H xs))) := .inr ⟨hb2, 0, rfl, fun j ys hj => by
    have hjc : j < c := by have := (List.getElem?_eq_some_iff.1 hj).1; simpa using this
    rw [List.getElem?_map, List.getElem?_range hjc] at hj
    obtain rfl := Option.some.inj hj
    refine ⟨some ⟨g2, j * H, none⟩, H, ?_, row8_half hG2 hjc⟩
    rw [Nat.zero_add, hf_len]
    exact cellAt hB2 j _ (hvV_at hjc (Nat.le_refl _))⟩
  have HA2 : Hid _ := holds_later HA1.out hbl
  have HB2 : Hid (Below w.heap.size w w2) := HB1.out.trans (hbl.mono HB1.out.size)
  have hHl : H ≤ 64 := by rw [hH]; exact k2
  clear hc hH hz1 hz2 hne hB2 hG2 hbl HA1 HB1
  have c0 := cellAt (holds_at HA2.out 0 rfl) 0 _ rfl
  have c1 := cellAt (holds_at HA2.out 0 rfl) 1 _ rfl
  have c3 := cellAt (holds_at HA2.out 0 rfl) 2 _ rfl
  go_wp2_with fail
  refine Calls.mono (ccomb_F cR c H m1 m1 c c (some ⟨g1, 0, none⟩) (some ⟨hb2, 0, none⟩) (halfM k r) ((List.range c).map (hf H xs)) _ (by omega) hcl1 (by omega) hHl HM1.out (by rw [halfM_len, HCR.out, HC2.out]) (Nat.le_refl _) (holds_row HA2.out 1 rfl)
    rfl (by simp) (fun ys hy => by obtain ⟨v, _, rfl⟩ := List.mem_map.1 hy; exact hf_len _ _ _) HR2.out) ?_
  rintro e w3 ⟨M, gs, rfl, hM, hgs, hT, hrs, hb3⟩
  have HB3 : Hid (Below w.heap.size w w3) := HB2.out.trans (hb3.mono HB2.out.size)
  have HEnc : Hid (EncAt w3 w.heap.size M k r n xs gs) := by
    have hz := HB2.out.size
    refine ⟨by omega, by rw [hgs, HCR.out], by rw [← HH.out, ← HCR.out]; exact hT, ?_⟩
    have hr2 : RowsP w3 w.heap.size gs (combL c H (halfM k r) ((List.range c).map (hf H xs))) := ⟨fun i p hp => ⟨by have := (hrs.1 i p hp).1; omega, (hrs.1 i p hp).2⟩, hrs.2⟩
    refine rowsP_congr hr2 fun i hi => ?_
    rw [HC2.out, comb_half (by rw [← HCR.out, ← hgs]; exact hi), img_stripe (by omega), ← HH.out]
  clear hM hgs hT hrs hb3 c0 c1 c3
  go_wp2
  go_ret2
  exact ⟨M, cR, gs, rfl, HCR.out, HEnc.out, HB3.out⟩
set_option maxHeartbeats 2000000 in
theorem encode_bad (k r : Int) (n ca : Nat) (a : Option Addr) (w : World) (E : Nat → Addr) (hE : ErrsF w E) (hk0 : -9223372036854775808 ≤ k) (hk1 : k ≤ 9223372036854775807) (hr0 : -9223372036854775808 ≤ r) (hr1 : r ≤ 9223372036854775807) (hla : n ≤ 140737488355328) (h : encE k r n ≠ 0) :
    Calls Tryd.prog 11 #[.int .i64 k, .int .i64 r, .slice a n ca] w fun e w' => e = .returned (.tuple #[.slice none 0 0, evV E (encE k r n)]) ∧ Below w.heap.size w w' := by
  have HE : Hid (ErrsF w E) := hE
  clear hE
  by_cases hL : LegalP k r
  · obtain ⟨p, q, rfl, rfl, h1, h2, h3⟩ := legal_nat hL
    have he : encE p q n = halfE p n := by unfold encE; rw [if_pos hL]
    rw [he] at h ⊢
    have HS : Hid _ := fun u hu => split_bad p a n ca u E hu hla h
    obtain ⟨s, hs⟩ : ∃ s, evV E (halfE p n) = errAt s := ⟨E (halfE p n - 1), by unfold evV; rw [if_neg h]⟩
    rw [hs] at HS ⊢
    have HR : Hid _ := fun w s h => hrows_F p q w s h h1 h2 h3
    clear hs he h hL
    unfold errAt at HS ⊢
    go_enter Tryd.func11, Tryd.ntmps11
    go_wp2_with fail
    refine Calls.mono (HR.out _ (E 1) HE.out.2) ?_
    rintro e w1 ⟨g1, m1, rfl, hm1, hg1, hh1, hb1⟩
    have HB1 : Hid (Below w.heap.size w (w1.alloc (.cells #[.int .i64 (2 * (p + q) : Nat), .int .i64 (2 * p : Nat), .slice (some ⟨g1, 0, none⟩) m1 m1] 65))) := hb1.alloc hb1.size _
    clear hm1 hg1 hh1 hb1
    go_wp2_with fail
    refine Calls.mono (HS.out _ (errsE_below HE.out.1 HB1.out)) ?_
    rintro e w2 ⟨rfl, hb2⟩
    have HB2 : Hid (Below w.heap.size w w2) := HB1.out.trans (hb2.mono HB1.out.size)
    clear hb2
    go_wp2_with fail
    go_ret2
    exact ⟨rfl, HB2.out⟩
  · have he : encE k r n = 1 := by unfold encE; rw [if_neg hL]
    rw [he, evV_succ]
    have HR : Hid _ := fun u hu => hrows_bad k r u (E 0) hu hk0 hk1 hr0 hr1 hL
    clear he h hL
    unfold errAt at HR ⊢
    go_enter Tryd.func11, Tryd.ntmps11
    go_wp2_with fail
    refine Calls.mono (HR.out _ HE.out.1.1) ?_
    rintro e w1 ⟨rfl, hb1⟩
    have HB1 : Hid (Below w.heap.size w w1) := hb1
    clear hb1
    go_wp2_with fail
    go_ret2
    exact ⟨rfl, HB1.out.alloc HB1.out.size _⟩
end Go.Proofs.YtmlpijlcpeoeaaaDoor

/- Shards in a block of one's own: three cells each. What Shards of package code answers, of all numbers and lists of bytes. -/
namespace Go.Proofs.YtmlpijlcpeoeaaaDoor
open Go.RowKit Gf
set_option linter.unusedVariables false
set_option maxRecDepth 20000
abbrev Tri := Value × Value × Value
/-- three values to an element -/
def triL (T : List Tri) : List Value := T.flatMap fun t => [t.1, t.2.1, t.2.2]
def triC (T : List Tri) : Array Value := (triL T).toArray
def tri3 (t : Tri) : Nat → Value
  | 0 => t.1
  | 1 => t.2.1
  | _ => t.2.2
theorem triL_at : ∀ (T : List Tri) (j q : Nat), q < 3 → (triL T)[j * 3 + q]? = T[j]?.map fun t => tri3 t q
  | [], j, q, _ => by simp [triL]
  | t :: T, 0, q, h => by
    match q, h with
    | 0, _ => rfl
    | 1, _ => rfl
    | 2, _ => rfl
  | t :: T, j + 1, q, h => by
    have := triL_at T j q h
    rw [show (j + 1) * 3 + q = (j * 3 + q) + 3 by omega]
    exact this
theorem triL_set : ∀ (T : List Tri) (j : Nat) (a b c : Value), (((triL T).set (j * 3) a).set (j * 3 + 1) b).set (j * 3 + 2) c = triL (T.set j (a, b, c))
  | [], j, a, b, c => by simp [triL]
  | t :: T, 0, a, b, c => rfl
  | t :: T, j + 1, a, b, c => by
    have := triL_set T j a b c
    rw [show (j + 1) * 3 + 1 = (j * 3 + 1) + 3 by omega, show (j + 1) * 3 + 2 = (j * 3 + 2) + 3 by omega, show (j + 1) * 3 = (j * 3) + 3 by omega]
    show t.1 :: t.2.1 :: t.2.2 :: (((triL T).set (j * 3) a).set (j * 3 + 1) b).set (j * 3 + 2) c = _
    rw [this]; rfl
theorem triC_at {T : List Tri} {j q : Nat} {t : Tri} (h : T[j]? = some t) (hq : q < 3) : (triC T)[j * 3 + q]? = some (tri3 t q) := by
  show (triL T).toArray[j * 3 + q]? = _
  rw [List.getElem?_toArray, triL_at T j q hq, h]; rfl
theorem triC_set (T : List Tri) (j : Nat) (a b c : Value) : (((triC T).setIfInBounds (j * 3) a).setIfInBounds (j * 3 + 1) b).setIfInBounds (j * 3 + 2) c = triC (T.set j (a, b, c)) := by
  apply Array.toList_inj.1
  simp only [Array.toList_setIfInBounds, triC]
  exact triL_set T j a b c
/-- the zero of a shard -/
def zeroT : Tri := (.int .i64 0, .slice none 0 0, .slice none 0 0)
theorem infoT : ∃ i, Tryd.prog.info? 38 = some i ∧ i.size = 3 ∧ i.bytes = 56 ∧ i.zero = some (.agg #[.int .i64 0, .slice none 0 0, .slice none 0 0]) := by
  have hi : (Tryd.prog.info? 38).map (fun i => (i.size, i.bytes, i.zero)) = some (3, 56, some (.agg #[.int .i64 0, .slice none 0 0, .slice none 0 0])) := by kernel_rfl
  cases hq : Tryd.prog.info? 38 with
  | none => simp [hq] at hi
  | some i =>
    simp only [hq, Option.map_some, Option.some.injEq, Prod.mk.injEq] at hi
    exact ⟨i, rfl, hi.1, hi.2.1, hi.2.2⟩
theorem run_makeT (n : Nat) (hn : n ≤ 64) (w : World) :
    (Instr.makeSlice 30 (.int .i64 (n : Int)) (.int .i64 (n : Int))).run Tryd.prog w = .ok (.slice (some ⟨w.heap.size, 0, none⟩) n n) (w.alloc (.cells (triC (List.replicate n zeroT)) 38)) := by
  obtain ⟨i, hi, h1, h2, h3⟩ := infoT
  have := run_make (P := Tryd.prog) w 30 38 i _ Tryd.underlying30 hi h3 .i64 .i64 n n (by omega) (by omega) (by rw [h2]; omega) (by omega)
  rw [this, h1]
  have e : madeCells (Value.agg #[.int .i64 0, .slice none 0 0, .slice none 0 0]).cells (n * 3) = triC (List.replicate n zeroT) := by
    apply Array.ext_getElem?
    intro i
    have hz : (Value.agg #[.int .i64 0, .slice none 0 0, .slice none 0 0]).cells = #[.int .i64 0, .slice none 0 0, .slice none 0 0] := by rfl
    rw [hz]
    obtain ⟨j, q, rfl, hq⟩ : ∃ j q, i = j * 3 + q ∧ q < 3 := ⟨i / 3, i % 3, by omega, by omega⟩
    by_cases h : j < n
    · rw [triC_at (t := zeroT) (by rw [List.getElem?_replicate, if_pos h]) hq]
      simp only [madeCells, Array.getElem?_map]
      rw [Array.getElem?_range]
      rw [if_pos (by omega)]
      simp only [Option.map_some]
      rw [show (j * 3 + q) % (#[Value.int .i64 0, .slice none 0 0, .slice none 0 0] : Array Value).size = q by show (j * 3 + q) % 3 = q; omega]
      match q, hq with
      | 0, _ => rfl
      | 1, _ => rfl
      | 2, _ => rfl
    · have e9 : (triC (List.replicate n zeroT))[j * 3 + q]? = none := by
        show (triL _).toArray[j * 3 + q]? = _
        rw [List.getElem?_toArray, triL_at _ _ _ hq, List.getElem?_replicate, if_neg h]; rfl
      rw [e9]
      simp only [madeCells, Array.getElem?_map]
      rw [Array.getElem?_range, if_neg (by omega)]
      rfl
  simp only [Int.toNat_natCast, e]
/-- shard j of a list of halves -/
def shV (vs : List Value) (j : Nat) : Tri := (.int .i64 (j : Int), vs.getD (2 * j) (.slice none 0 0), vs.getD (2 * j + 1) (.slice none 0 0))
/-- the shards made as far as j -/
def shP (vs : List Value) (m j : Nat) : List Tri := (List.range m).map fun i => if i < j then shV vs i else zeroT
theorem shP_zero (vs : List Value) (m : Nat) : List.replicate m zeroT = shP vs m 0 := by
  apply List.ext_getElem?
  intro i
  simp only [shP, List.getElem?_map, List.getElem?_replicate]
  by_cases h : i < m
  · rw [if_pos h, List.getElem?_range h]; rfl
  · rw [if_neg h, List.getElem?_eq_none (by simp; omega)]; rfl
theorem shP_full (vs : List Value) (m : Nat) : shP vs m m = (List.range m).map (shV vs) := by
  apply List.map_congr_left
  intro i hi
  rw [if_pos (by simpa using hi)]
theorem shP_set {vs : List Value} {m j : Nat} (h : j < m) : (shP vs m j).set j (shV vs j) = shP vs m (j + 1) := by
  apply List.ext_getElem?
  intro i
  rw [List.getElem?_set]
  simp only [shP, List.getElem?_map, List.length_map, List.length_range]
  by_cases hi : j = i
  · subst hi
    rw [if_pos rfl, if_pos h, List.getElem?_range h]
    simp
  · rw [if_neg hi]
    by_cases hm : i < m
    · rw [List.getElem?_range hm]
      simp only [Option.map_some]
      by_cases h2 : i < j
      · rw [if_pos h2, if_pos (by omega)]
      · rw [if_neg h2, if_neg (by omega)]
    · rw [List.getElem?_eq_none (by simp; omega)]; rfl
/-- a stripe's shards in memory, each half in a block of its own -/
def ShAt (w : World) (B S : Nat) (k r n : Nat) (xs : List F) (gs : List (Nat × Nat)) : Prop :=
  B ≤ S ∧ gs.length = 2 * (k + r) ∧ w.heap[S]? = some (.cells (triC ((List.range (k + r)).map (shV (rowsP (cntN (2 * k) n) gs)))) 38 (0, 0)) ∧ RowsP w B gs (imgL k (carN (groupN k r)) (cntN (2 * k) n) (strD (cntN (2 * k) n) xs))
theorem shAt_below {w w' : World} {B S k r n : Nat} {xs : List F} {gs : List (Nat × Nat)} (h : ShAt w B S k r n xs gs) (hb : Below w.heap.size w w') : ShAt w' B S k r n xs gs := ⟨h.1, h.2.1, heap_later h.2.2.1 hb, rowsP_below h.2.2.2 hb⟩
theorem has8_grownT {w w' : World} {S g cap : Nat} {cs : Array Value} {fr : Nat × Nat} {xs : List F} (hg : w.grownBy w' (some S)) (h : Has8 w g xs cap) (hS : w.heap[S]? = some (.cells cs 38 fr)) : Has8 w' g xs cap := by
  obtain ⟨cur, h1, h2⟩ := h
  exact ⟨cur, grown_keep hg h1 (fun e => kind_ne h1 hS (by decide) (Option.some.inj e)), h2⟩
theorem tri_store {w : World} {S j : Nat} {T : List Tri} {a b c : Value} (h : w.heap[S]? = some (.cells (triC T) 38 (0, 0))) :
    (((w.setCell ⟨S, j * 3, none⟩ a).setCell ⟨S, j * 3 + 1, none⟩ b).setCell ⟨S, j * 3 + 2, none⟩ c).heap[S]? = some (.cells (triC (T.set j (a, b, c))) 38 (0, 0)) := by
  rw [heap_setCell_same _ _ _ _ _ _ (heap_setCell_same _ _ _ _ _ _ (heap_setCell_same _ _ _ _ _ _ h)), triC_set]
theorem tri_store_other {w : World} {S g j : Nat} {a b c : Value} {o : Obj} (hne : g ≠ S) (h : w.heap[g]? = some o) :
    (((w.setCell ⟨S, j * 3, none⟩ a).setCell ⟨S, j * 3 + 1, none⟩ b).setCell ⟨S, j * 3 + 2, none⟩ c).heap[g]? = some o :=
  (heap_setCell_other _ _ _ _ hne).trans ((heap_setCell_other _ _ _ _ hne).trans ((heap_setCell_other _ _ _ _ hne).trans h))
set_option maxHeartbeats 4000000 in
theorem shards_ok (k r n ca : Nat) (a : Option Addr) (xs : List F) (w : World) (E : Nat → Addr) (hE : ErrsF w E) (h1 : 1 ≤ k) (h2 : 2 ≤ r) (h3 : k + r ≤ 16) (h4 : 1 ≤ n) (h5 : n ≤ 128 * k) (hn : n = xs.length) (hx : Row8 w a xs) :
    Calls Tryd.prog 12 #[.int .i64 k, .int .i64 r, .slice a n ca] w fun e w' => ∃ (S m : Nat) (gs : List (Nat × Nat)), e = .returned (.tuple #[.slice (some ⟨S, 0, none⟩) m m, .nilIface]) ∧ m = k + r ∧
      ShAt w' w.heap.size S k r n xs gs ∧ Below w.heap.size w w' := by
  have HENC : Hid _ := encode_ok k r n ca a xs w E hE h1 h2 h3 h4 h5 hn hx
  obtain ⟨H, hH⟩ : ∃ H, H = cntN (2 * k) n := ⟨_, rfl⟩
  have HH : Hid (H = cntN (2 * k) n) := hH
  obtain ⟨m, hm⟩ : ∃ m, m = k + r := ⟨_, rfl⟩
  have HM : Hid (m = k + r) := hm
  have hm16 : m ≤ 16 := by omega
  have hmk := run_makeT m (by omega)
  clear hE hx hn hH hm
  go_enter Tryd.func12, Tryd.ntmps12
  go_wp2_with fail
  refine Calls.mono HENC.out ?_
  rintro e w1 ⟨M, c, gs, rfl, hc, hEnc, hb1⟩
  have HEN : Hid (EncAt w1 w.heap.size M k r n xs gs) := hEnc
  have HB1 : Hid (Below w.heap.size w w1) := hb1
  have hc2 : c = 2 * m := by rw [hc, HM.out]
  have hq : (c : Int).tdiv 2 = (m : Int) := by rw [Int.tdiv_eq_ediv_of_nonneg (by omega)]; omega
  have hq2 : (c : Int) / 2 = (m : Int) := by omega
  have HC : Hid (c = 2 * m) := hc2
  have HGL : Hid (gs.length = 2 * m) := by show _ = _; rw [hEnc.2.1, HM.out]
  clear hc hEnc hb1 hc2 HENC
  rw [shP_zero (rowsP H gs)] at hmk
  go_wp2
  have hA5 := holds_new (holds_cons (holds_nil w1) HEN.out.2.2.1) (triC (shP (rowsP H gs) m 0)) 38
  have HB5 : Hid (Below w.heap.size w (w1.alloc (.cells (triC (shP (rowsP H gs) m 0)) 38))) := HB1.out.alloc HB1.out.size _
  have HR5 : Hid (RowsP (w1.alloc (.cells (triC (shP (rowsP H gs) m 0)) 38)) w.heap.size gs (imgL k (carN (groupN k r)) H (strD H xs))) := by
    have := HEN.out.2.2.2
    rw [← HH.out] at this
    exact rowsP_below this ((Below.refl _ _).alloc (Nat.le_refl _) _)
  rw [← HH.out] at hA5
  have hSM := HB1.out.size
  have HA5 : Hid _ := hA5
  clear hA5 hmk HB1 HEN
  generalize (w1.alloc (.cells (triC (shP (rowsP H gs) m 0)) 38)) = W5 at *
  generalize hS : w1.heap.size = S at *
  clear hS
  have hSM2 : M ≠ S := kind_ne (holds_at HA5.out 1 rfl) (holds_at HA5.out 0 rfl) (by decide)
  go_loopw [28] (fun i wr => ∃ j : Nat, j ≤ m ∧ i = .int .i64 j ∧ Below w.heap.size w wr ∧ W5.grownBy wr (some S) ∧
    Holds wr [(S, .cells (triC (shP (rowsP H gs) m j)) 38 (0, 0)), (M, .cells (slW (rowsP H gs) (2 * (k + r))) 22 (0, 0))]) (fun i _ => m - (intOf i).toNat)
  case atStart => exact ⟨0, by omega, rfl, HB5.out, World.grownBy.refl _ _, HA5.out⟩
  case round =>
    obtain ⟨j, hj, rfl, hb, hg, hh⟩ := hrel
    have HB : Hid (Below w.heap.size w wr) := hb
    have HG : Hid (W5.grownBy wr (some S)) := hg
    have HH2 : Hid _ := hh
    clear hb hg hh
    by_cases hlt : j < m
    · obtain ⟨p0, hp0⟩ : ∃ p0, p0 = 2 * j := ⟨_, rfl⟩
      obtain ⟨p1, hp1⟩ : ∃ p1, p1 = 2 * j + 1 := ⟨_, rfl⟩
      have t1 : (2 : Int) * (j : Int) = (p0 : Int) := by omega
      have t2 : (p0 : Int) + 1 = (p1 : Int) := by omega
      have hp9 : (p1 : Int) ≤ 100 := by omega
      have hg0 : gs[p0]? = some gs[p0]! := by rw [getElem!_pos gs p0 (by rw [HGL.out]; omega)]; exact List.getElem?_eq_getElem (by rw [HGL.out]; omega)
      have hg1 : gs[p1]? = some gs[p1]! := by rw [getElem!_pos gs p1 (by rw [HGL.out]; omega)]; exact List.getElem?_eq_getElem (by rw [HGL.out]; omega)
      generalize gs[p0]! = q0 at hg0
      generalize gs[p1]! = q1 at hg1
      obtain ⟨g0, cap0⟩ := q0
      obtain ⟨g1, cap1⟩ := q1
      have d0 := cellAt (holds_at HH2.out 1 rfl) p0 _ (slW_at (rowsP_at hg0))
      have d1 := cellAt (holds_at HH2.out 1 rfl) p1 _ (slW_at (rowsP_at hg1))
      have l0 : p0 < c := by have := HC.out; omega
      have l1 : p1 < c := by have := HC.out; omega
      have hz : (shP (rowsP H gs) m j)[j]? = some zeroT := by simp [shP, hlt]
      have e0 := cellAt (holds_at HH2.out 0 rfl) (j * 3) _ (triC_at (q := 0) hz (by decide))
      have e1 := cellAt (holds_at HH2.out 0 rfl) (j * 3 + 1) _ (triC_at (q := 1) hz (by decide))
      have e2 := cellAt (holds_at HH2.out 0 rfl) (j * 3 + 2) _ (triC_at (q := 2) hz (by decide))
      have f0 : wr.frozen? ⟨S, j * 3, none⟩ = false := frozen_of_row _ _ _ _ _ (holds_at HH2.out 0 rfl)
      have f1 : wr.frozen? ⟨S, j * 3 + 1, none⟩ = false := frozen_of_row _ _ _ _ _ (holds_at HH2.out 0 rfl)
      have f2 : wr.frozen? ⟨S, j * 3 + 2, none⟩ = false := frozen_of_row _ _ _ _ _ (holds_at HH2.out 0 rfl)
      have HSH : Hid (shV (rowsP H gs) j = (.int .i64 (j : Int), .slice (some ⟨g0, 0, none⟩) H cap0, .slice (some ⟨g1, 0, none⟩) H cap1)) := by
        show _ = _
        unfold shV
        rw [← hp1, ← hp0, List.getD_eq_getElem?_getD, List.getD_eq_getElem?_getD, rowsP_at hg0, rowsP_at hg1]; rfl
      clear hp0 hp1 hg0 hg1 hz
      simp only [tri3, zeroT] at e0 e1 e2
      go_wp2
      go_region
      go_wp2
      refine ⟨⟨j + 1, by omega, by go_num, ?_, ?_, ?_⟩, by simp [intOf]; omega⟩
      · exact (((HB.out.setCell (by show w.heap.size ≤ S; omega) _).setCell (by show w.heap.size ≤ S; omega) _).setCell (by show w.heap.size ≤ S; omega) _).drew
      · exact grownBy_drew (grownBy_setCell (grownBy_setCell (grownBy_setCell HG.out _) _) _)
      · have k0 := tri_store (j := j) (a := .int .i64 (j : Int)) (b := .slice (some ⟨g0, 0, none⟩) H cap0) (c := .slice (some ⟨g1, 0, none⟩) H cap1) (holds_at HH2.out 0 rfl)
        have k1 := tri_store_other (j := j) (a := .int .i64 (j : Int)) (b := .slice (some ⟨g0, 0, none⟩) H cap0) (c := .slice (some ⟨g1, 0, none⟩) H cap1) hSM2 (holds_at HH2.out 1 rfl)
        rw [← HSH.out, shP_set hlt] at k0
        exact holds_cons (holds_cons (holds_nil _) k1) k0
    · obtain rfl : j = m := by omega
      go_wp2
      go_ret2
      refine ⟨S, j, gs, rfl, HM.out, ⟨hSM, by rw [HGL.out, HM.out], ?_, ?_⟩, HB.out⟩
      · have := holds_at HH2.out 0 rfl
        rw [shP_full] at this
        rw [← HM.out, ← HH.out]; exact this
      · rw [← HH.out]
        exact ⟨fun i p hp => ⟨(HR5.out.1 i p hp).1, has8_grownT HG.out (HR5.out.1 i p hp).2 (holds_at HA5.out 0 rfl)⟩, HR5.out.2⟩
theorem shards_bad (k r : Int) (n ca : Nat) (a : Option Addr) (w : World) (E : Nat → Addr) (hE : ErrsF w E) (hk0 : -9223372036854775808 ≤ k) (hk1 : k ≤ 9223372036854775807) (hr0 : -9223372036854775808 ≤ r) (hr1 : r ≤ 9223372036854775807) (hla : n ≤ 140737488355328) (h : encE k r n ≠ 0) :
    Calls Tryd.prog 12 #[.int .i64 k, .int .i64 r, .slice a n ca] w fun e w' => e = .returned (.tuple #[.slice none 0 0, evV E (encE k r n)]) ∧ Below w.heap.size w w' := by
  have HS : Hid _ := encode_bad k r n ca a w E hE hk0 hk1 hr0 hr1 hla h
  obtain ⟨s, hs⟩ : ∃ s, evV E (encE k r n) = errAt s := ⟨E (encE k r n - 1), by unfold evV; rw [if_neg h]⟩
  rw [hs] at HS ⊢
  clear hs h hE
  unfold errAt at HS ⊢
  go_enter Tryd.func12, Tryd.ntmps12
  go_wp2_with fail
  refine Calls.mono HS.out ?_
  rintro e w1 ⟨rfl, hb⟩
  have HB : Hid _ := hb
  clear hb
  go_wp2_with fail
  go_ret2
  exact ⟨rfl, HB.out⟩
end Go.Proofs.YtmlpijlcpeoeaaaDoor

/- What Num of package tesseranum answers of an error of package api, and of none: its number; nothing that was there turns. -/
namespace Go.Proofs.YtmlpijlcpeoeaaaDoor
open Go.RowKit Go.ChangeShapes
set_option linter.unusedVariables false
set_option maxRecDepth 20000
/-- the errors' variables, in the document's order -/
def gsNum : List Nat := [0, 2, 3, 4, 1, 5, 6, 7, 8, 9, 10, 11, 12, 13, 14, 15, 16, 17, 18, 19, 20, 21, 22, 23, 24]
theorem num_nil (w : World) : Calls Tryd.prog 14 #[.nilIface] w fun e w' => e = .returned (.int .i64 0) ∧ w = w' := by
  go_enter Tryd.func14, Tryd.ntmps14
  go_wp2
  go_ret
  exact ⟨rfl, rfl⟩
set_option maxHeartbeats 2000000 in
theorem num_fn (k : Nat) (a : Nat → Addr) (w : World) (hk : k < 25) (H : ∀ j, j < 25 → w.cell? ⟨gsNum.getD j 0, 0, none⟩ = some (errAt (a j))) (hne : ∀ j, j < 25 → j ≠ k → a k ≠ a j)
    (hh : ∀ j, j < 25 → ∃ c t, w.heap[(a j).block]? = some (.cells c t (0, 0))) :
    Calls Tryd.prog 14 #[.iface 140 (.pointer (some (a k)))] w fun e w' => e = .returned (.int .i64 ((k : Int) + 1)) ∧ Below w.heap.size w w' := by
  have c0 : w.cell? ⟨0, 0, none⟩ = some (.iface 140 (.pointer (some (a 0)))) := H 0 (by decide)
  have c1 : w.cell? ⟨2, 0, none⟩ = some (.iface 140 (.pointer (some (a 1)))) := H 1 (by decide)
  have c2 : w.cell? ⟨3, 0, none⟩ = some (.iface 140 (.pointer (some (a 2)))) := H 2 (by decide)
  have c3 : w.cell? ⟨4, 0, none⟩ = some (.iface 140 (.pointer (some (a 3)))) := H 3 (by decide)
  have c4 : w.cell? ⟨1, 0, none⟩ = some (.iface 140 (.pointer (some (a 4)))) := H 4 (by decide)
  have c5 : w.cell? ⟨5, 0, none⟩ = some (.iface 140 (.pointer (some (a 5)))) := H 5 (by decide)
  have c6 : w.cell? ⟨6, 0, none⟩ = some (.iface 140 (.pointer (some (a 6)))) := H 6 (by decide)
  have c7 : w.cell? ⟨7, 0, none⟩ = some (.iface 140 (.pointer (some (a 7)))) := H 7 (by decide)
  have c8 : w.cell? ⟨8, 0, none⟩ = some (.iface 140 (.pointer (some (a 8)))) := H 8 (by decide)
  have c9 : w.cell? ⟨9, 0, none⟩ = some (.iface 140 (.pointer (some (a 9)))) := H 9 (by decide)
  have c10 : w.cell? ⟨10, 0, none⟩ = some (.iface 140 (.pointer (some (a 10)))) := H 10 (by decide)
  have c11 : w.cell? ⟨11, 0, none⟩ = some (.iface 140 (.pointer (some (a 11)))) := H 11 (by decide)
  have c12 : w.cell? ⟨12, 0, none⟩ = some (.iface 140 (.pointer (some (a 12)))) := H 12 (by decide)
  have c13 : w.cell? ⟨13, 0, none⟩ = some (.iface 140 (.pointer (some (a 13)))) := H 13 (by decide)
  have c14 : w.cell? ⟨14, 0, none⟩ = some (.iface 140 (.pointer (some (a 14)))) := H 14 (by decide)
  have c15 : w.cell? ⟨15, 0, none⟩ = some (.iface 140 (.pointer (some (a 15)))) := H 15 (by decide)
  have c16 : w.cell? ⟨16, 0, none⟩ = some (.iface 140 (.pointer (some (a 16)))) := H 16 (by decide)
  have c17 : w.cell? ⟨17, 0, none⟩ = some (.iface 140 (.pointer (some (a 17)))) := H 17 (by decide)
  have c18 : w.cell? ⟨18, 0, none⟩ = some (.iface 140 (.pointer (some (a 18)))) := H 18 (by decide)
  have c19 : w.cell? ⟨19, 0, none⟩ = some (.iface 140 (.pointer (some (a 19)))) := H 19 (by decide)
  have c20 : w.cell? ⟨20, 0, none⟩ = some (.iface 140 (.pointer (some (a 20)))) := H 20 (by decide)
  have c21 : w.cell? ⟨21, 0, none⟩ = some (.iface 140 (.pointer (some (a 21)))) := H 21 (by decide)
  have c22 : w.cell? ⟨22, 0, none⟩ = some (.iface 140 (.pointer (some (a 22)))) := H 22 (by decide)
  have c23 : w.cell? ⟨23, 0, none⟩ = some (.iface 140 (.pointer (some (a 23)))) := H 23 (by decide)
  have c24 : w.cell? ⟨24, 0, none⟩ = some (.iface 140 (.pointer (some (a 24)))) := H 24 (by decide)
  clear H
  go_enter Tryd.func14, Tryd.ntmps14
  go_wp2
  clear c0 c1 c2 c3 c4 c5 c6 c7 c8 c9 c10 c11 c12 c13 c14 c15 c16 c17 c18 c19 c20 c21 c22 c23 c24
  have B0 : (w.alloc (.cells #[.iface 140 (.pointer (some (a 0))), .iface 140 (.pointer (some (a 1))), .iface 140 (.pointer (some (a 2))), .iface 140 (.pointer (some (a 3))), .iface 140 (.pointer (some (a 4))), .iface 140 (.pointer (some (a 5))), .iface 140 (.pointer (some (a 6))), .iface 140 (.pointer (some (a 7))), .iface 140 (.pointer (some (a 8))), .iface 140 (.pointer (some (a 9))), .iface 140 (.pointer (some (a 10))), .iface 140 (.pointer (some (a 11))), .iface 140 (.pointer (some (a 12))), .iface 140 (.pointer (some (a 13))), .iface 140 (.pointer (some (a 14))), .iface 140 (.pointer (some (a 15))), .iface 140 (.pointer (some (a 16))), .iface 140 (.pointer (some (a 17))), .iface 140 (.pointer (some (a 18))), .iface 140 (.pointer (some (a 19))), .iface 140 (.pointer (some (a 20))), .iface 140 (.pointer (some (a 21))), .iface 140 (.pointer (some (a 22))), .iface 140 (.pointer (some (a 23))), .iface 140 (.pointer (some (a 24)))] 27)).heap[w.heap.size]? = some (.cells ((List.range 25).map fun j => errAt (a j)).toArray 27 (0, 0)) := heap_alloc_last w _
  have HH : ∀ j, j < 25 → ∃ c t, (w.alloc (.cells #[.iface 140 (.pointer (some (a 0))), .iface 140 (.pointer (some (a 1))), .iface 140 (.pointer (some (a 2))), .iface 140 (.pointer (some (a 3))), .iface 140 (.pointer (some (a 4))), .iface 140 (.pointer (some (a 5))), .iface 140 (.pointer (some (a 6))), .iface 140 (.pointer (some (a 7))), .iface 140 (.pointer (some (a 8))), .iface 140 (.pointer (some (a 9))), .iface 140 (.pointer (some (a 10))), .iface 140 (.pointer (some (a 11))), .iface 140 (.pointer (some (a 12))), .iface 140 (.pointer (some (a 13))), .iface 140 (.pointer (some (a 14))), .iface 140 (.pointer (some (a 15))), .iface 140 (.pointer (some (a 16))), .iface 140 (.pointer (some (a 17))), .iface 140 (.pointer (some (a 18))), .iface 140 (.pointer (some (a 19))), .iface 140 (.pointer (some (a 20))), .iface 140 (.pointer (some (a 21))), .iface 140 (.pointer (some (a 22))), .iface 140 (.pointer (some (a 23))), .iface 140 (.pointer (some (a 24)))] 27)).heap[(a j).block]? = some (.cells c t (0, 0)) := fun j hj => by
    obtain ⟨c, t, h⟩ := hh j hj
    exact ⟨c, t, (Below.heap_alloc _ _ _ (ltHeap h)).trans h⟩
  have HB : Hid (Below w.heap.size w (w.alloc (.cells #[.iface 140 (.pointer (some (a 0))), .iface 140 (.pointer (some (a 1))), .iface 140 (.pointer (some (a 2))), .iface 140 (.pointer (some (a 3))), .iface 140 (.pointer (some (a 4))), .iface 140 (.pointer (some (a 5))), .iface 140 (.pointer (some (a 6))), .iface 140 (.pointer (some (a 7))), .iface 140 (.pointer (some (a 8))), .iface 140 (.pointer (some (a 9))), .iface 140 (.pointer (some (a 10))), .iface 140 (.pointer (some (a 11))), .iface 140 (.pointer (some (a 12))), .iface 140 (.pointer (some (a 13))), .iface 140 (.pointer (some (a 14))), .iface 140 (.pointer (some (a 15))), .iface 140 (.pointer (some (a 16))), .iface 140 (.pointer (some (a 17))), .iface 140 (.pointer (some (a 18))), .iface 140 (.pointer (some (a 19))), .iface 140 (.pointer (some (a 20))), .iface 140 (.pointer (some (a 21))), .iface 140 (.pointer (some (a 22))), .iface 140 (.pointer (some (a 23))), .iface 140 (.pointer (some (a 24)))] 27))) := (Below.refl _ _).alloc (Nat.le_refl _) _
  generalize (w.alloc (.cells #[.iface 140 (.pointer (some (a 0))), .iface 140 (.pointer (some (a 1))), .iface 140 (.pointer (some (a 2))), .iface 140 (.pointer (some (a 3))), .iface 140 (.pointer (some (a 4))), .iface 140 (.pointer (some (a 5))), .iface 140 (.pointer (some (a 6))), .iface 140 (.pointer (some (a 7))), .iface 140 (.pointer (some (a 8))), .iface 140 (.pointer (some (a 9))), .iface 140 (.pointer (some (a 10))), .iface 140 (.pointer (some (a 11))), .iface 140 (.pointer (some (a 12))), .iface 140 (.pointer (some (a 13))), .iface 140 (.pointer (some (a 14))), .iface 140 (.pointer (some (a 15))), .iface 140 (.pointer (some (a 16))), .iface 140 (.pointer (some (a 17))), .iface 140 (.pointer (some (a 18))), .iface 140 (.pointer (some (a 19))), .iface 140 (.pointer (some (a 20))), .iface 140 (.pointer (some (a 21))), .iface 140 (.pointer (some (a 22))), .iface 140 (.pointer (some (a 23))), .iface 140 (.pointer (some (a 24)))] 27)) = W1 at *
  clear hh
  go_loopw [36] (fun i wr => ∃ j : Nat, j ≤ k ∧ i = .int .i64 j ∧ wr = W1) (fun i _ => 25 - (intOf i).toNat)
  case atStart => exact ⟨0, by omega, rfl, rfl⟩
  case round =>
    obtain ⟨j, hj, rfl, rfl⟩ := hrel
    have hj25 : j < 25 := by omega
    have c0 : wr.cell? ⟨w.heap.size, j, none⟩ = some (.iface 140 (.pointer (some (a j)))) := cellAt B0 j _ (by
      simp only [List.getElem?_toArray, List.getElem?_map, List.getElem?_range hj25, Option.map_some, errAt])
    by_cases e : j = k
    · subst e
      have q := eq_same wr (a j)
      clear HH hne B0
      go_wp2
      go_ret
      exact ⟨rfl, HB.out⟩
    · obtain ⟨_, _, h1⟩ := HH k hk
      obtain ⟨_, _, h2⟩ := HH j hj25
      have q := eq_other (hne j hj25 e) h1 h2
      have hjk : j + 1 ≤ k := by omega
      clear HH hne B0 h1 h2
      go_wp2
      exact ⟨⟨j + 1, by omega, by go_num, trivial⟩, by simp [intOf]; omega⟩
theorem num_err {w : World} {es : List Addr} {k : Nat} {s : Addr} (h : ErrsAt w gsNum es) (hs : es[k]? = some s) :
    Calls Tryd.prog 14 #[errAt s] w fun e w' => e = .returned (.int .i64 ((k : Int) + 1)) ∧ Below w.heap.size w w' := by
  have hl : es.length = 25 := h.1.symm
  obtain ⟨hk, rfl⟩ := List.getElem?_eq_some_iff.1 hs
  have hget : ∀ j, (hj : j < 25) → es[j]? = some (es.getD j ⟨0, 0, none⟩) := fun j hj => by
    rw [List.getElem?_eq_getElem (by omega), List.getD_eq_getElem?_getD, List.getElem?_eq_getElem (by omega)]; rfl
  have hg : ∀ j, j < 25 → gsNum[j]? = some (gsNum.getD j 0) := fun j hj => by
    rw [List.getElem?_eq_getElem (by show j < 25; exact hj), List.getD_eq_getElem?_getD, List.getElem?_eq_getElem (by show j < 25; exact hj)]; rfl
  have hk25 : k < 25 := by omega
  have e0 : es[k] = es.getD k ⟨0, 0, none⟩ := by
    have := hget k hk25
    rw [List.getElem?_eq_getElem hk] at this
    exact Option.some.inj this
  have := num_fn k (fun j => es.getD j ⟨0, 0, none⟩) w hk25 (fun j hj => (h.2.2 j _ _ (hg j hj) (hget j hj)).1) (fun j hj hjk e => ?_) (fun j hj => (h.2.2 j _ _ (hg j hj) (hget j hj)).2)
  · rw [e0]; exact this
  · have e1 := hget k hk25
    have e2 := hget j hj
    rw [List.getElem?_eq_getElem (by omega)] at e1 e2
    have e3 : es[k] = es[j] := by rw [Option.some.inj e1, Option.some.inj e2]; exact e
    have hp := List.pairwise_iff_getElem.1 h.2.1
    rcases Nat.lt_or_gt_of_ne hjk with q | q
    · exact hp j k _ _ q e3.symm
    · exact hp k j _ _ q e3
end Go.Proofs.YtmlpijlcpeoeaaaDoor

/- The walk of ShardsSizes: at all numbers. -/
namespace Go.Proofs.YtmlpijlcpeoeaaaDoor
open Go.RowKit Gf
set_option linter.unusedVariables false
set_option maxRecDepth 20000
/-- the errors' addresses, by number -/
def ofL (es : List Addr) : Nat → Addr := fun j => es.getD j ⟨0, 0, none⟩
theorem errsE_num {w : World} {es : List Addr} (h : ErrsAt w gsNum es) : ErrsE w (ofL es) := by
  have hl : es.length = 25 := h.1.symm
  have hget : ∀ j, (hj : j < 25) → es[j]? = some (ofL es j) := fun j hj => by
    unfold ofL
    rw [List.getElem?_eq_getElem (by omega), List.getD_eq_getElem?_getD, List.getElem?_eq_getElem (by omega)]; rfl
  exact ⟨(h.2.2 0 _ _ rfl (hget 0 (by decide))).1, (h.2.2 11 _ _ rfl (hget 11 (by decide))).1, (h.2.2 19 _ _ rfl (hget 19 (by decide))).1⟩
theorem num_V {w : World} {es : List Addr} (n : Nat) (h : ErrsAt w gsNum es) (hn : n ≤ 25) :
    Calls Tryd.prog 14 #[evV (ofL es) n] w fun e w' => e = .returned (.int .i64 n) ∧ Below w.heap.size w w' := by
  cases n with
  | zero => exact (num_nil w).mono fun e w' ⟨he, hw⟩ => ⟨he, hw ▸ Below.refl _ _⟩
  | succ n =>
    have hl : es.length = 25 := h.1.symm
    rw [evV_succ]
    have := num_err (k := n) (s := ofL es n) h (by
      unfold ofL
      rw [List.getElem?_eq_getElem (by omega), List.getD_eq_getElem?_getD, List.getElem?_eq_getElem (by omega)]; rfl)
    simpa using this
theorem halfE_le (k n : Int) : halfE k n ≤ 25 := by unfold halfE; split <;> (try split) <;> (try split) <;> omega
theorem stripesE_le (k n : Int) : stripesE k n ≤ 25 := by unfold stripesE; split <;> (try split) <;> (try split) <;> omega
theorem stripesL_len (k n : Int) : (stripesL k n).length ≤ 32 := by
  by_cases h : stripesE k n = 0
  · obtain ⟨a, m, rfl, rfl, h1, h2, h3⟩ := stripes_ok h
    rw [stripesL_ok h1 h2 h3, strL_len]
    exact cnt_stripes h1 h3
  · rw [stripesL_no h]; simp
end Go.Proofs.YtmlpijlcpeoeaaaDoor

/- What the walks of stage 7 share: the errors by number, blocks that stay, shards in memory. -/
namespace Go.Proofs.YtmlpijlcpeoeaaaDoor
open Go.RowKit Gf
set_option linter.unusedVariables false
set_option maxRecDepth 20000
theorem errsF_num {w : World} {es : List Addr} (h : ErrsAt w gsNum es) : ErrsF w (ofL es) := by
  refine ⟨errsE_num h, (h.2.2 1 _ _ rfl ?_).1⟩
  have hl : es.length = 25 := h.1.symm
  unfold ofL
  rw [List.getElem?_eq_getElem (by omega), List.getD_eq_getElem?_getD, List.getElem?_eq_getElem (by omega)]; rfl
/-- all but some blocks stay -/
def KeptX (w w' : World) (X : Nat → Prop) : Prop := ∀ (b : Nat) (o : Obj), ¬ X b → w.heap[b]? = some o → w'.heap[b]? = some o
theorem keptX_refl (w : World) (X : Nat → Prop) : KeptX w w X := fun _ _ _ h => h
theorem keptX_grown {w0 w w' : World} {X Y : Nat → Prop} {g : Nat} (h : KeptX w0 w X) (hg : w.grownBy w' (some g)) (hY : ∀ b, ¬ Y b → ¬ X b ∧ b ≠ g) : KeptX w0 w' Y := fun b o hb ho => grown_keep hg (h b o (hY b hb).1 ho) (fun e => (hY b hb).2 (Option.some.inj e))
theorem keptX_below {w0 w w' : World} {X Y : Nat → Prop} (h : KeptX w0 w X) (hb : Below w.heap.size w w') (hY : ∀ b, ¬ Y b → ¬ X b) : KeptX w0 w' Y := fun b o hn ho => heap_later (h b o (hY b hn) ho) hb
theorem has8_X {w w' : World} {X : Nat → Prop} {g cap : Nat} {xs : List F} (h : Has8 w g xs cap) (hk : KeptX w w' X) (hn : ¬ X g) : Has8 w' g xs cap := by
  obtain ⟨cur, h1, h2⟩ := h
  exact ⟨cur, hk _ _ hn h1, h2⟩
/-- the first j blocks of a list -/
def firstB (gs : List (Nat × Nat)) (j : Nat) (b : Nat) : Prop := ∃ (q : Nat) (p : Nat × Nat), q < j ∧ gs[q]? = some p ∧ p.1 = b
theorem firstB_not {gs : List (Nat × Nat)} {j i : Nat} {p : Nat × Nat} (hord : ∀ (i j : Nat) (p q : Nat × Nat), i < j → gs[i]? = some p → gs[j]? = some q → p.1 < q.1) (h : gs[i]? = some p) (hij : j ≤ i) : ¬ firstB gs j p.1 := fun ⟨q, x, hq, hx, e⟩ => by
  have := hord q i x p (by omega) hx h
  omega
theorem firstB_step {gs : List (Nat × Nat)} {j : Nat} {p : Nat × Nat} (h : gs[j]? = some p) (b : Nat) (hb : ¬ firstB gs (j + 1) b) : ¬ firstB gs j b ∧ b ≠ p.1 :=
  ⟨fun ⟨q, x, hq, hx, e⟩ => hb ⟨q, x, by omega, hx, e⟩, fun e => hb ⟨j, p, by omega, h, e.symm⟩⟩
theorem strEq8 (xs : List F) : ((str8 xs).toList == (str8 xs).toList) = true := by simp
theorem sh_cells {w : World} {S H j m : Nat} {gs : List (Nat × Nat)} {g0 c0 g1 c1 : Nat} (hT : w.heap[S]? = some (.cells (triC ((List.range m).map (shV (rowsP H gs)))) 38 (0, 0))) (hj : j < m) (e0 : gs[2 * j]? = some (g0, c0)) (e1 : gs[2 * j + 1]? = some (g1, c1)) :
    w.cell? ⟨S, j * 3, none⟩ = some (.int .i64 (j : Int)) ∧ w.cell? ⟨S, j * 3 + 1, none⟩ = some (.slice (some ⟨g0, 0, none⟩) H c0) ∧ w.cell? ⟨S, j * 3 + 2, none⟩ = some (.slice (some ⟨g1, 0, none⟩) H c1) := by
  have ht : ((List.range m).map (shV (rowsP H gs)))[j]? = some (.int .i64 (j : Int), .slice (some ⟨g0, 0, none⟩) H c0, .slice (some ⟨g1, 0, none⟩) H c1) := by
    rw [List.getElem?_map, List.getElem?_range hj, Option.map_some, shV, List.getD_eq_getElem?_getD, List.getD_eq_getElem?_getD, rowsP_at e0, rowsP_at e1]; rfl
  exact ⟨cellAt hT (j * 3) _ (triC_at (q := 0) ht (by decide)), cellAt hT (j * 3 + 1) _ (triC_at (q := 1) ht (by decide)), cellAt hT (j * 3 + 2) _ (triC_at (q := 2) ht (by decide))⟩
theorem shAt_cell {w : World} {B S k r n H j : Nat} {xs : List F} {gs : List (Nat × Nat)} (h : ShAt w B S k r n xs gs) (hH : H = cntN (2 * k) n) (hj : j < k + r) : ∃ g0 c0 g1 c1, gs[2 * j]? = some (g0, c0) ∧ gs[2 * j + 1]? = some (g1, c1) ∧
    w.cell? ⟨S, j * 3, none⟩ = some (.int .i64 (j : Int)) ∧ w.cell? ⟨S, j * 3 + 1, none⟩ = some (.slice (some ⟨g0, 0, none⟩) H c0) ∧ w.cell? ⟨S, j * 3 + 2, none⟩ = some (.slice (some ⟨g1, 0, none⟩) H c1) ∧
    Has8 w g0 (imgL k (carN (groupN k r)) H (strD H xs) (2 * j)) c0 ∧ Has8 w g1 (imgL k (carN (groupN k r)) H (strD H xs) (2 * j + 1)) c1 := by
  obtain ⟨_, hl, hT, hR, _⟩ := h
  rw [← hH] at hT hR
  have e0 : gs[2 * j]? = some gs[2 * j] := List.getElem?_eq_getElem (by omega)
  have e1 : gs[2 * j + 1]? = some gs[2 * j + 1] := List.getElem?_eq_getElem (by omega)
  generalize gs[2 * j] = q0 at e0
  generalize gs[2 * j + 1] = q1 at e1
  obtain ⟨g0, c0⟩ := q0
  obtain ⟨g1, c1⟩ := q1
  have ht : ((List.range (k + r)).map (shV (rowsP H gs)))[j]? = some (.int .i64 (j : Int), .slice (some ⟨g0, 0, none⟩) H c0, .slice (some ⟨g1, 0, none⟩) H c1) := by
    rw [List.getElem?_map, List.getElem?_range hj, Option.map_some, shV, List.getD_eq_getElem?_getD, List.getD_eq_getElem?_getD, rowsP_at e0, rowsP_at e1]; rfl
  exact ⟨g0, c0, g1, c1, e0, e1, cellAt hT (j * 3) _ (triC_at (q := 0) ht (by decide)), cellAt hT (j * 3 + 1) _ (triC_at (q := 1) ht (by decide)), cellAt hT (j * 3 + 2) _ (triC_at (q := 2) ht (by decide)), (hR _ _ e0).2, (hR _ _ e1).2⟩
end Go.Proofs.YtmlpijlcpeoeaaaDoor

/- The errors that the statements of stage 7 without numbers lay, by number. -/
namespace Go.Proofs.YtmlpijlcpeoeaaaDoor
open Go.RowKit Gf
set_option linter.unusedVariables false
set_option maxRecDepth 20000
def gsCheap : List Nat := [0, 2, 11, 19]
def gsFits : List Nat := [0, 2, 1, 11, 19]
/-- by number -/
def ofCheap (es : List Addr) : Nat → Addr := fun n => es.getD (if n = 1 then 1 else if n = 11 then 2 else if n = 19 then 3 else 0) ⟨0, 0, none⟩
def ofFits (es : List Addr) : Nat → Addr := fun n => es.getD (if n = 1 then 1 else if n = 4 then 2 else if n = 11 then 3 else if n = 19 then 4 else 0) ⟨0, 0, none⟩
theorem errsF_cheap {w : World} {es : List Addr} (h : ErrsAt w gsCheap es) : ErrsF w (ofCheap es) := by
  have hl : es.length = 4 := h.1.symm
  match es, hl with
  | [a, b, c, d], _ => exact ⟨⟨(h.2.2 0 _ a rfl rfl).1, (h.2.2 2 _ c rfl rfl).1, (h.2.2 3 _ d rfl rfl).1⟩, (h.2.2 1 _ b rfl rfl).1⟩
theorem errsF_fits {w : World} {es : List Addr} (h : ErrsAt w gsFits es) : ErrsF w (ofFits es) ∧ w.cell? ⟨1, 0, none⟩ = some (errAt (ofFits es 4)) := by
  have hl : es.length = 5 := h.1.symm
  match es, hl with
  | [a, b, c, d, e], _ => exact ⟨⟨⟨(h.2.2 0 _ a rfl rfl).1, (h.2.2 3 _ d rfl rfl).1, (h.2.2 4 _ e rfl rfl).1⟩, (h.2.2 1 _ b rfl rfl).1⟩, (h.2.2 2 _ c rfl rfl).1⟩
/-- that the errors of Fits are not one another -/
theorem errsF_other {w : World} {es : List Addr} (h : ErrsAt w gsFits es) : ofFits es 0 ≠ ofFits es 4 := by
  have hl : es.length = 5 := h.1.symm
  have hn := h.2.1
  intro h9
  match es, hl with
  | [a, b, c, d, e], _ =>
    have e1 : a = c := h9
    subst e1
    simp at hn
end Go.Proofs.YtmlpijlcpeoeaaaDoor

/- The chapter's worked answer of package code holds: the function 'alive' of the statements returns true. -/
namespace Go.Proofs.YtmlpijlcpeoeaaaDoor
open Go.RowKit Gf
set_option linter.unusedVariables false
set_option maxRecDepth 20000
theorem alive7_1 : imgL 1 (carN (groupN 1 2)) (cntN (2 * 1) 2) (strD (cntN (2 * 1) 2) [5, 7]) 4 = [140] := by decide +kernel
theorem alive7_2 : imgL 1 (carN (groupN 1 2)) (cntN (2 * 1) 2) (strD (cntN (2 * 1) 2) [5, 7]) 5 = [136] := by decide +kernel
set_option maxHeartbeats 2000000 in
theorem alive7_ok (w : World) (E : Nat → Addr) (hE : ErrsF w E) : Calls Tryd.prog 9 #[] w fun e w' => e = .returned (.bool true) ∧ Below w.heap.size w w' := by
  have HE : Hid (ErrsF w E) := hE
  clear hE
  have HB0 : Hid (Below w.heap.size w (w.alloc (.cells #[.int .u8 5, .int .u8 7] 5))) := (Below.refl _ _).alloc (Nat.le_refl _) _
  have HL : Hid (Row8 (w.alloc (.cells #[.int .u8 5, .int .u8 7] 5)) (some ⟨w.heap.size, 0, none⟩) [5, 7]) := row8_own (show (w.alloc (.cells #[.int .u8 5, .int .u8 7] 5)).heap[w.heap.size]? = some (.cells (vfs [5, 7]) 5 (0, 0)) from heap_alloc_last _ _)
  go_enter Tryd.func9, Tryd.ntmps9
  go_wp2_with fail
  refine Calls.mono (encode_ok 1 2 2 2 _ [5, 7] _ E (errsF_below HE.out HB0.out) (by decide) (by decide) (by decide) (by decide) (by decide) rfl HL.out) ?_
  rintro e w2 ⟨M, c, gs, rfl, rfl, hE2, hb2⟩
  have HB2 : Hid (Below w.heap.size w w2) := HB0.out.trans (hb2.mono HB0.out.size)
  obtain ⟨_, hl, hT, hR, _⟩ := hE2
  have hl6 : gs.length = 6 := hl
  obtain ⟨⟨g4, c4⟩, h4⟩ : ∃ p, gs[4]? = some p := ⟨_, List.getElem?_eq_getElem (by omega)⟩
  obtain ⟨⟨g5, c5⟩, h5⟩ : ∃ p, gs[5]? = some p := ⟨_, List.getElem?_eq_getElem (by omega)⟩
  have r4 := row8_has (hR 4 _ h4).2
  have r5 := row8_has (hR 5 _ h5).2
  rw [alive7_1] at r4
  rw [alive7_2] at r5
  have d4 := cellAt hT 4 _ (slW_at (rowsP_at h4))
  have d5 := cellAt hT 5 _ (slW_at (rowsP_at h5))
  rw [show cntN (2 * 1) 2 = 1 from by decide] at d4 d5
  have kC4 : ∀ u, Below w2.heap.size w2 u → (convert 22 9 (.slice (some ⟨g4, 0, none⟩) 1 c4)).run Tryd.prog u = .ok (.string ⟨#[140]⟩) u := fun u hu => by
    have := conv8 (la := 1) (ca := c4) rfl (row8_below r4 hu)
    rwa [show str8 [140] = { data := #[140] } by decide +kernel] at this
  have kC5 : ∀ u, Below w2.heap.size w2 u → (convert 22 9 (.slice (some ⟨g5, 0, none⟩) 1 c5)).run Tryd.prog u = .ok (.string ⟨#[136]⟩) u := fun u hu => by
    have := conv8 (la := 1) (ca := c5) rfl (row8_below r5 hu)
    rwa [show str8 [136] = { data := #[136] } by decide +kernel] at this
  have kB : ∀ (b : Nat) (u : World) (x : F) (s : ByteArray), u.heap[b]? = some (.cells #[.int .u8 (x.toNat : Int)] 5 (0, 0)) → str8 [x] = s → (convert 22 9 (.slice (some ⟨b, 0, none⟩) 1 1)).run Tryd.prog u = .ok (.string s) u := fun b u x s h e => by
    have := conv8 (la := 1) (ca := 1) (show 1 = ([x] : List F).length from rfl) (row8_own (xs := [x]) h)
    rwa [e] at this
  have b0 : Below w2.heap.size w2 w2.drew := (Below.refl _ _).drew
  have b1 : Below w2.heap.size w2 (w2.alloc (.cells #[.int .u8 140] 5)) := (Below.refl _ _).alloc (Nat.le_refl _) _
  have b2 : Below w2.heap.size w2 ((w2.alloc (.cells #[.int .u8 140] 5)).alloc (.cells #[.int .u8 136] 5)) := b1.alloc (by simp) _
  have f1 := kC4 _ b0
  have f2 := kC4 _ b1.drew
  have f3 := kC5 _ b1.drew
  have f4 := kC5 _ b2.drew
  have f5 := kB w2.heap.size (w2.alloc (.cells #[.int .u8 140] 5)).drew 140 ⟨#[140]⟩ (heap_alloc_last _ _) (by decide +kernel)
  have f6 := kB (w2.alloc (.cells #[.int .u8 140] 5)).heap.size ((w2.alloc (.cells #[.int .u8 140] 5)).alloc (.cells #[.int .u8 136] 5)).drew 136 ⟨#[136]⟩ (heap_alloc_last _ _) (by decide +kernel)
  rw [World.size_alloc] at f6
  have e140 : ((ByteArray.mk #[140]).toList == (ByteArray.mk #[140]).toList) = true := by decide +kernel
  have e136 : ((ByteArray.mk #[136]).toList == (ByteArray.mk #[136]).toList) = true := by decide +kernel
  have lM := ltHeap hT
  clear hl hT hR h4 h5 hb2 kC4 kC5 kB b0 b1 b2 r4 r5
  go_wp2
  go_region
  go_wp2
  go_ret
  have z := HB2.out.size
  exact ⟨rfl, ((HB2.out.alloc z _).alloc (by simp; omega) _).drew⟩
end Go.Proofs.YtmlpijlcpeoeaaaDoor

/- What the statements' own choice of numbers answers: so many numbers, rising, all below the bound; nothing that was there turns. -/
namespace Go.Proofs.YtmlpijlcpeoeaaaDoor
open Go.RowKit Gf
set_option linter.unusedVariables false
set_option maxRecDepth 20000
/-- marks in memory -/
def bvs (n : Nat) (f : Nat → Bool) : Array Value := ((List.range n).map fun i => Value.bool (f i)).toArray
theorem bvs_size (n : Nat) (f : Nat → Bool) : (bvs n f).size = n := by simp [bvs]
theorem bvs_get {n i : Nat} {f : Nat → Bool} (h : i < n) : (bvs n f)[i]? = some (.bool (f i)) := by simp [bvs, h]
def upB (f : Nat → Bool) (i : Nat) : Nat → Bool := fun j => f j || decide (j = i)
theorem bvs_set {n i : Nat} {f : Nat → Bool} : (bvs n f).setIfInBounds i (.bool true) = bvs n (upB f i) := by
  apply Array.ext_getElem?
  intro j
  simp only [bvs, Array.getElem?_setIfInBounds, List.size_toArray, List.length_map, List.length_range, List.getElem?_toArray, List.getElem?_map, upB]
  by_cases h : i = j
  · subst h; by_cases h2 : i < n <;> simp [h2]
  · rw [if_neg h]
    by_cases h2 : j < n <;> simp [h2, Ne.symm h]
theorem madeB (n : Nat) : madeCells (Value.bool false).cells n = bvs n (fun _ => false) := by
  apply Array.ext_getElem?
  intro i
  by_cases h : i < n <;> simp [madeCells, bvs, Value.cells, h, Nat.mod_one]
/-- how many are marked -/
def cntB (f : Nat → Bool) (n : Nat) : Nat := ((List.range n).filter f).length
theorem cntB_le (f : Nat → Bool) (n : Nat) : cntB f n ≤ n := by have := List.length_filter_le f (List.range n); simpa [cntB] using this
theorem cntB_succ (f : Nat → Bool) (n : Nat) : cntB f (n + 1) = cntB f n + if f n then 1 else 0 := by
  simp only [cntB, List.range_succ, List.filter_append, List.length_append, List.filter_cons, List.filter_nil]
  split <;> rfl
theorem cntB_same {f g : Nat → Bool} : ∀ {n : Nat}, (∀ i, i < n → f i = g i) → cntB f n = cntB g n
  | 0, _ => rfl
  | n + 1, h => by rw [cntB_succ, cntB_succ, cntB_same (n := n) (fun i hi => h i (by omega)), h n (by omega)]
theorem cntB_up {f : Nat → Bool} {i : Nat} (hf : f i = false) : ∀ {n : Nat}, i < n → cntB (upB f i) n = cntB f n + 1
  | 0, h => absurd h (Nat.not_lt_zero _)
  | n + 1, h => by
    rw [cntB_succ, cntB_succ]
    by_cases e : i = n
    · subst e
      rw [cntB_same (f := upB f i) (g := f) (fun j hj => by simp [upB, Nat.ne_of_lt hj]), hf]
      simp [upB]
    · rw [cntB_up hf (n := n) (by omega)]
      have : upB f i n = f n := by simp [upB, Ne.symm e]
      rw [this]; omega
theorem cntB_all {f : Nat → Bool} : ∀ {n : Nat}, (∀ i, i < n → f i = true) → cntB f n = n
  | 0, _ => rfl
  | n + 1, h => by rw [cntB_succ, cntB_all (n := n) (fun i hi => h i (by omega)), h n (by omega)]; rfl
theorem cntB_none (n : Nat) : cntB (fun _ => false) n = 0 := by simp [cntB]
/-- the marked numbers -/
def pickB (f : Nat → Bool) (n : Nat) : List Nat := (List.range n).filter f
theorem pickB_same {f g : Nat → Bool} {n : Nat} (h : ∀ i, i < n → f i = g i) : pickB f n = pickB g n := List.filter_congr fun i hi => h i (by simpa using hi)
theorem pickB_yes {f : Nat → Bool} {n : Nat} (h : f n = true) : pickB f (n + 1) = pickB f n ++ [n] := by simp [pickB, List.range_succ, h]
theorem pickB_no {f : Nat → Bool} {n : Nat} (h : f n = false) : pickB f (n + 1) = pickB f n := by simp [pickB, List.range_succ, h]
theorem pickB_up {f : Nat → Bool} {n : Nat} : pickB (upB f n) n = pickB f n := pickB_same fun i hi => by simp [upB, Nat.ne_of_lt hi]
theorem pickB_sorted (f : Nat → Bool) (n : Nat) : (pickB f n).Pairwise (· < ·) := List.pairwise_lt_range.filter _
theorem pickB_lt {f : Nat → Bool} {n : Nat} : ∀ x ∈ pickB f n, x < n := fun x hx => by simpa using (List.mem_filter.1 hx).1
/-- numbers as values -/
def nvs (L : List Nat) : List Value := L.map fun i => Value.int .i64 ((i : Nat) : Int)
theorem nvs_snoc (L : List Nat) (i : Nat) : nvs L ++ [.int .i64 (i : Int)] = nvs (L ++ [i]) := by simp [nvs]
theorem own_setCell {w : World} {B n g i : Nat} {v x : Value} {e : TypeId} {s : Nat} {xs : List Value} (h : w.ownsRow B e s v n xs) (hg : g < B) : (w.setCell ⟨g, i, none⟩ x).ownsRow B e s v n xs := by
  refine ⟨h.1, h.2.imp id fun ⟨b, cap, cur, h1, h2, h3, h4⟩ => ⟨b, cap, cur, h1, h2, (heap_setCell_other _ _ _ _ (by show b ≠ g; omega)).trans h3, h4⟩⟩
theorem mod_place (x : Int) {n : Nat} (hn : 1 ≤ n) : (-(n : Int) < x.tmod n ∧ x.tmod n < n) ∧ ∃ j : Nat, j < n ∧ x.tmod n % (n : Int) = j := by
  have h1 : -(n : Int) < x.tmod n := by
    rcases Int.le_total 0 x with h | h
    · have := Int.tmod_nonneg n h; omega
    · have h2 := Int.neg_tmod (a := -x) (b := (n : Int))
      have h3 := Int.tmod_lt_of_pos (-x) (show (0 : Int) < n by omega)
      rw [Int.neg_neg] at h2; omega
  have h2 := Int.tmod_lt_of_pos x (show (0 : Int) < n by omega)
  have h3 : 0 ≤ x.tmod n % (n : Int) := Int.emod_nonneg _ (by omega)
  have h4 := Int.emod_lt_of_pos (x.tmod n) (show (0 : Int) < n by omega)
  exact ⟨⟨h1, h2⟩, (x.tmod n % (n : Int)).toNat, by omega, by omega⟩
end Go.Proofs.YtmlpijlcpeoeaaaDoor

/- What Carried of package half answers, at all numbers; nothing that was there turns. -/
namespace Go.Proofs.YtmlpijlcpeoeaaaDoor
open Go.RowKit Gf
set_option linter.unusedVariables false
set_option maxRecDepth 20000
/-- what a parity carries -/
def carL (k g i : Nat) : List Nat := pickB (fun x => decide (carN g x = i)) k
def castL (L : List Nat) : List Int := L.map fun x => ((x : Nat) : Int)
theorem castL_len (L : List Nat) : (castL L).length = L.length := by simp [castL]
theorem nvs_cast (L : List Nat) : nvs L = (castL L).map (Value.int .i64) := by simp [nvs, castL]
theorem ownI_slice {w : World} {B n : Nat} {v : Value} {L : List Nat} (ho : w.ownsRow B 3 1 v n (nvs L)) : ∃ a cap, v = .slice a n cap ∧ RowI w a (castL L) ∧ n = L.length ∧ (a = none → cap = 0) := by
  have hl := ho.1
  rw [nvs, List.length_map] at hl
  rcases ho.2 with ⟨rfl, e⟩ | ⟨g, cap, cur, rfl, h2⟩
  · exact ⟨none, 0, by rw [e], .inl (by rw [List.eq_nil_of_length_eq_zero (l := L) (by omega)]; rfl), by omega, fun _ => rfl⟩
  · rw [nvs_cast] at ho
    exact ⟨_, _, rfl, rowI_own ho, by omega, fun h => by cases h⟩
set_option maxHeartbeats 4000000 in
theorem hcarried_F (k r i : Nat) (w : World) (h1 : 1 ≤ k) (h2 : 2 ≤ r) (h3 : k + r ≤ 16) (hi : i < r) :
    Calls Tryd.prog 26 #[.int .i64 k, .int .i64 r, .int .i64 i] w fun e w' => ∃ a n cap, e = .returned (.tuple #[.slice a n cap, .nilIface]) ∧ n = (carL k (groupN k r) i).length ∧ RowI w' a (castL (carL k (groupN k r) i)) ∧ (a = none → cap = 0) ∧ Below w.heap.size w w' := by
  obtain ⟨g1, _, _, g2⟩ := groupN_least h1 h2 h3
  have HG : Hid _ := fun w => bgroup_ok k r w h1 h2 h3
  generalize groupN k r = g at *
  have HCF : Hid _ := fun j w (hj : j ≤ 1000) => carrier_F g j w g1 (by omega) hj
  obtain ⟨f, hf⟩ : ∃ f : Nat → Bool, f = fun x => decide (carN g x = i) := ⟨_, rfl⟩
  have hcl : carL k g i = pickB f k := by rw [hf]; rfl
  have hft : Hid (∀ x, carN g x = i → f x = true) := fun x h => by rw [hf]; exact decide_eq_true h
  have hff : Hid (∀ x, ¬ carN g x = i → f x = false) := fun x h => by rw [hf]; exact decide_eq_false h
  rw [hcl]
  generalize carN g = car at *
  have i1 : (i : Int) < r := by omega
  have HI : Hid _ := i1
  clear hf hcl i1
  go_enter Tryd.func26, Tryd.ntmps26
  go_wp2_with fail
  refine (HG.out _).mono ?_
  rintro e w1 ⟨rfl, rfl⟩
  go_wp2_with fail
  refine (hthere_yes _ _ _ (by omega) HI.out).mono ?_
  rintro e w1 ⟨rfl, rfl⟩
  go_wp2
  go_loopw [10, 27] (fun v t wr => ∃ j : Nat, j ≤ k ∧ t = .int .i64 j ∧ Below w.heap.size w wr ∧ wr.ownsRow w.heap.size 3 1 v (pickB f j).length (nvs (pickB f j))) (fun _ t _ => k - (intOf t).toNat)
  case atStart => exact ⟨0, by omega, rfl, Below.refl _ _, World.ownsRow_nil _ _ _ _⟩
  case round =>
    obtain ⟨j, hj, rfl, hb, ho⟩ := hrel
    have HB : Hid _ := hb
    have HO : Hid _ := ho
    obtain ⟨av, cv, rfl, hv, hn, hnil⟩ := ownI_slice ho
    have HV : Hid _ := hv
    have HNN : Hid _ := hnil
    have hl : (pickB f j).length ≤ 16 := by have := cntB_le f j; show cntB f j ≤ 16; omega
    clear hb ho hv hn hnil
    by_cases hlt : j < k
    · go_wp2_with fail
      refine (HCF.out j _ (by omega)).mono ?_
      rintro e w2 ⟨rfl, rfl⟩
      by_cases hc : car j = i
      · have hci : (car j : Int) = i := by omega
        have ho := World.ownsRow.alloc HO.out (.cells #[.int .i64 j] 3)
        obtain ⟨g2, cap2, w6, hrun, ho2, hgr, hor, hlt2⟩ := appendI (b := wr.heap.size) (c := 1) (x := (j : Int)) 54 ho (cellAt (heap_alloc_last wr (.cells #[.int .i64 j] 3)) 0 _ rfl) (by omega) (by have := HB.out.size; simp; omega)
        rw [nvs_snoc, ← pickB_yes (hft.out j hc)] at ho2
        have hb6 := below_own (B := w.heap.size) (HB.out.alloc HB.out.size (.cells #[.int .i64 j] 3)) ho hgr (by have := HB.out.size; simp; omega)
        have hlen : (pickB f j).length + 1 = (pickB f (j + 1)).length := by rw [pickB_yes (hft.out j hc)]; simp
        have HRun : Hid _ := hrun
        have HO2 : Hid _ := ho2
        have HB6 : Hid _ := hb6
        have HL : Hid _ := hlen
        clear ho hrun ho2 hb6 hgr hor hlt2 hlen hc
        go_wp2_with (at_builtin; refine wpList_append_run rfl _ _ 54 rfl _ _ _ _ rfl rfl HRun.out ?_)
        have ho9 := HO2.out
        rw [HL.out] at ho9
        rw [HL.out]
        exact ⟨⟨j + 1, by omega, by go_num, HB6.out, ho9⟩, by simp [intOf]; omega⟩
      · have hci : ¬ (car j : Int) = i := by omega
        have hpk := pickB_no (hff.out j hc)
        have HPK : Hid _ := hpk
        clear hc hpk
        go_wp2
        have ho9 := HO.out
        exact ⟨⟨j + 1, by omega, by go_num, HB.out, by rw [HPK.out]; exact ho9⟩, by simp [intOf]; omega⟩
    · obtain rfl : j = k := by omega
      go_wp2
      go_ret2
      exact ⟨av, _, cv, rfl, rfl, HV.out, HNN.out, HB.out⟩
theorem hcarried_bad (k r x : Int) (w : World) (s : Addr) (hs : w.cell? ⟨0, 0, none⟩ = some (errAt s)) (hk0 : -9223372036854775808 ≤ k) (hk1 : k ≤ 9223372036854775807) (hr0 : -9223372036854775808 ≤ r) (hr1 : r ≤ 9223372036854775807) (hL : ¬ LegalP k r) :
    Calls Tryd.prog 26 #[.int .i64 k, .int .i64 r, .int .i64 x] w fun e w' => e = .returned (.tuple #[.slice none 0 0, errAt s]) ∧ w = w' := by
  have HS : Hid _ := hs
  have H : Hid _ := hL
  clear hs hL
  go_enter Tryd.func26, Tryd.ntmps26
  go_wp2_with fail
  refine (bgroup_bad k r _ s HS.out hk0 hk1 hr0 hr1 H.out).mono ?_
  unfold errAt
  rintro e w' ⟨rfl, rfl⟩
  go_wp2
  go_ret2
  exact ⟨rfl, rfl⟩
theorem hcarried_no (k r : Nat) (x : Int) (w : World) (s : Addr) (hs : w.cell? ⟨11, 0, none⟩ = some (errAt s)) (h1 : 1 ≤ k) (h2 : 2 ≤ r) (h3 : k + r ≤ 16) (hx : ¬ (0 ≤ x ∧ x < r)) :
    Calls Tryd.prog 26 #[.int .i64 k, .int .i64 r, .int .i64 x] w fun e w' => e = .returned (.tuple #[.slice none 0 0, errAt s]) ∧ Below w.heap.size w w' := by
  have hlt := World.block_lt_of_cell? w _ hs
  simp at hlt
  have HX : Hid _ := hx
  unfold errAt at *
  clear hx
  go_enter Tryd.func26, Tryd.ntmps26
  go_wp2_with fail
  refine (bgroup_ok _ _ _ h1 h2 h3).mono ?_
  rintro e w' ⟨rfl, rfl⟩
  go_wp2_with fail
  refine (hthere_no _ _ _ HX.out).mono ?_
  rintro e w' ⟨rfl, rfl⟩
  go_wp2
  go_region
  go_wp2
  go_ret2
  exact ⟨rfl, (Below.refl _ _).drew⟩
end Go.Proofs.YtmlpijlcpeoeaaaDoor

/- Plain algebra of stage 7: where the rows of 2k halves have full rank, each unit is a combination of them, and each table of lists is the image of one and only one list of data halves. -/
namespace Go.Proofs.YtmlpijlcpeoeaaaDoor
open Go.RowKit Gf
set_option linter.unusedVariables false
set_option maxRecDepth 20000
/-- the rows of these halves -/
def numM (k : Nat) (car : Nat → Nat) (nl : List Nat) : Mt := fun i => halfF k car (nl.getD i 0)
def unitF (v : Nat) : Nat → F := fun j => if v = j then 1 else 0
theorem var_sol {c n v : Nat} {A : Mt} {x R D : Nat → F} (hv : v < c) (h : ∀ u, u < c → unitF v u = sumF (fun l => gm (A l u) (x l)) n) (hR : ∀ l, l < n → R l = sumF (fun u => gm (A l u) (D u)) c) :
    sumF (fun l => gm (x l) (R l)) n = D v := by
  rw [sumF_congr (fun l hl => by rw [hR l hl, sumF_mul_left]), sumF_swap (fun l u => gm (x l) (gm (A l u) (D u))) c n]
  rw [sumF_congr (g := fun u => gm (unitF v u) (D u)) (fun u hu => by
    rw [h u hu, sumF_mul_right]
    exact sumF_congr fun l _ => by rw [← F.mul_assoc, F.mul_comm (x l)])]
  rw [sumF_pick _ v c hv fun u _ hne => by simp [unitF, Ne.symm hne]]
  simp [unitF]
theorem full_units {A : Mt} {n : Nat} (h : (pivL A n n).length = n) : ∀ v, v < n → Dep (tr A) n n (unitF v) := fun v hv => by
  obtain ⟨R, h1, h2, _⟩ := red_ex A n n
  obtain ⟨e, he⟩ := h2 v hv
  refine ⟨e, fun i hi => ?_⟩
  have hu := h1.full_unit h v hv i hi
  show (if v = i then (1 : F) else 0) = _
  rw [← hu, he i hi]
  exact sumF_congr fun l _ => F.mul_comm _ _
theorem full_solve {A : Mt} {n : Nat} (h : (pivL A n n).length = n) (R : Nat → F) : ∃ D : Nat → F, ∀ i, i < n → R i = sumF (fun u => gm (A i u) (D u)) n := by
  have ht : (pivL (tr A) n n).length = n := by rw [rk_tr, h]
  have hz : ∀ v : Nat, ∃ x : Nat → F, v < n → ∀ i, i < n → unitF v i = sumF (fun l => gm (A i l) (x l)) n := fun v => by
    by_cases hv : v < n
    · obtain ⟨x, hx⟩ := full_units ht v hv
      exact ⟨x, fun _ i hi => hx i hi⟩
    · exact ⟨fun _ => 0, fun h => absurd h hv⟩
  obtain ⟨Z, hZ⟩ := Classical.axiomOfChoice hz
  refine ⟨fun u => sumF (fun v => gm (Z v u) (R v)) n, fun i hi => ?_⟩
  rw [sumF_congr (g := fun u => sumF (fun v => gm (A i u) (gm (Z v u) (R v))) n) (fun u _ => sumF_mul_left _ _ _)]
  rw [sumF_swap (fun u v => gm (A i u) (gm (Z v u) (R v))) n n]
  rw [sumF_congr (g := fun v => gm (unitF v i) (R v)) (fun v hv => by
    rw [hZ v hv i hi, sumF_mul_right]
    exact sumF_congr fun u _ => (F.mul_assoc _ _ _).symm)]
  rw [sumF_pick _ i n hi fun v _ hne => by simp [unitF, hne]]
  simp [unitF]
/-- the data halves of a table of lists -/
theorem full_table {A : Mt} {n : Nat} (h : (pivL A n n).length = n) (R : Nat → Nat → F) : ∃ D : Nat → Nat → F, ∀ i, i < n → ∀ b, R i b = sumF (fun u => gm (A i u) (D u b)) n := by
  obtain ⟨Y, hY⟩ := Classical.axiomOfChoice fun b : Nat => full_solve h fun i => R i b
  exact ⟨fun u b => Y b u, fun i hi b => hY b i hi⟩
theorem full_one {A : Mt} {n : Nat} (h : (pivL A n n).length = n) {R D E : Nat → F} (hD : ∀ i, i < n → R i = sumF (fun u => gm (A i u) (D u)) n) (hE : ∀ i, i < n → R i = sumF (fun u => gm (A i u) (E u)) n) : ∀ v, v < n → D v = E v := fun v hv => by
  obtain ⟨x, hx⟩ := full_units h v hv
  have h1 : ∀ u, u < n → unitF v u = sumF (fun l => gm (A l u) (x l)) n := fun u hu => hx u hu
  have e1 := var_sol (A := A) (x := x) (R := R) (D := D) hv h1 hD
  have e2 := var_sol (A := A) (x := x) (R := R) (D := E) hv h1 hE
  exact e1.symm.trans e2
/-- the rows of both halves of k shards have full rank -/
theorem num_rank {S : List Nat} {k n : Nat} {car : Nat → Nat} (hS : S.Nodup) (hl : S.length = k) (hn : ∀ x ∈ S, x < n) (hb : n ≤ 256) : (pivL (numM k car (bothH S)) (2 * k) (2 * k)).length = 2 * k :=
  half_rank hS hl hn hb
end Go.Proofs.YtmlpijlcpeoeaaaDoor

/- Two numbers, two lists behind a list of one's own; shards in memory: a number and two halves each. -/
namespace Go.Proofs.YtmlpijlcpeoeaaaDoor
open Go.RowKit Gf
set_option linter.unusedVariables false
set_option maxRecDepth 20000
theorem news_two {w : World} {b : Nat} {x y : Value} (hx : w.cell? ⟨b, 0, none⟩ = some x) (hy : w.cell? ⟨b, 1, none⟩ = some y) : ∀ j u, [x, y][j]? = some u → w.cell? ((⟨b, 0, none⟩ : Addr).add j) = some u := by
  intro j u h
  match j, h with
  | 0, h => obtain rfl := Option.some.inj h; simpa [Addr.add] using hx
  | 1, h => obtain rfl := Option.some.inj h; simpa [Addr.add] using hy
theorem appendS2 {w : World} {B n b c : Nat} {v x y : Value} {xs : List Value} (ty : TypeId) (ho : w.ownsRow B 22 1 v n xs) (hx : w.cell? ⟨b, 0, none⟩ = some x) (hy : w.cell? ⟨b, 1, none⟩ = some y) (h1 : x.oneCell' = true) (h2 : y.oneCell' = true) (hn : n ≤ 4096) (hB : B ≤ w.heap.size) :
    ∃ g cap w', (Builtin.append_ #[25, 25] ty #[v, .slice (some ⟨b, 0, none⟩) 2 c]).run Tryd.prog w = .ok (.slice (some ⟨g, 0, none⟩) (n + 2) cap) w' ∧
      w'.ownsRow B 22 1 (.slice (some ⟨g, 0, none⟩) (n + 2) cap) (n + 2) (xs ++ [x, y]) ∧ w.grownBy w' v.ownBlock ∧ (v.ownBlock = some g ∨ g = w.heap.size) ∧ g < w'.heap.size := by
  obtain ⟨i, hi, h2', h3, h4⟩ := infoS
  exact run_append_lies (P := Tryd.prog) w 25 ty B 22 i _ 1 24 Tryd.underlying25 hi h4 h2' h3 rfl (by decide) v n xs ho ⟨b, 0, none⟩ 2 c [x, y] rfl (news_two hx hy) (by simp [h1, h2]) (by decide) (by simp only [maxLen]; omega) (by omega) hB _ rfl
theorem appendI2 {w : World} {B n b c : Nat} {v : Value} {x y : Int} {xs : List Value} (ty : TypeId) (ho : w.ownsRow B 3 1 v n xs) (hx : w.cell? ⟨b, 0, none⟩ = some (.int .i64 x)) (hy : w.cell? ⟨b, 1, none⟩ = some (.int .i64 y)) (hn : n ≤ 1000000) (hB : B ≤ w.heap.size) :
    ∃ g cap w', (Builtin.append_ #[54, 54] ty #[v, .slice (some ⟨b, 0, none⟩) 2 c]).run Tryd.prog w = .ok (.slice (some ⟨g, 0, none⟩) (n + 2) cap) w' ∧
      w'.ownsRow B 3 1 (.slice (some ⟨g, 0, none⟩) (n + 2) cap) (n + 2) (xs ++ [.int .i64 x, .int .i64 y]) ∧ w.grownBy w' v.ownBlock ∧ (v.ownBlock = some g ∨ g = w.heap.size) ∧ g < w'.heap.size := by
  obtain ⟨i, hi, h2, h3, h4⟩ := infoI
  exact run_append_lies (P := Tryd.prog) w 54 ty B 3 i _ 1 8 Tryd.underlying54 hi h4 h2 h3 rfl (by decide) v n xs ho ⟨b, 0, none⟩ 2 c [.int .i64 x, .int .i64 y] rfl (news_two hx hy) (by simp [Value.oneCell']) (by decide) (by simp only [maxLen]; omega) (by omega) hB _ rfl
/-- shards in memory: the number and the two halves of each -/
def Sh8 (w : World) (a : Option Addr) (S : List (Int × List F × List F)) : Prop :=
  S = [] ∨ ∃ b off, a = some ⟨b, off, none⟩ ∧ ∀ j n xs ys, S[j]? = some (n, xs, ys) → ∃ a1 c1 a2 c2, w.cell? ⟨b, off + j * 3, none⟩ = some (.int .i64 n) ∧
    w.cell? ⟨b, off + j * 3 + 1, none⟩ = some (.slice a1 xs.length c1) ∧ w.cell? ⟨b, off + j * 3 + 2, none⟩ = some (.slice a2 ys.length c2) ∧ Row8 w a1 xs ∧ Row8 w a2 ys
theorem sh8_below {w w' : World} {a : Option Addr} {S : List (Int × List F × List F)} (h : Sh8 w a S) (hb : Below w.heap.size w w') : Sh8 w' a S := by
  rcases h with rfl | ⟨b, off, rfl, h⟩
  · exact .inl rfl
  · refine .inr ⟨b, off, rfl, fun j n xs ys hj => ?_⟩
    obtain ⟨a1, c1, a2, c2, h1, h2, h3, h4, h5⟩ := h j n xs ys hj
    exact ⟨a1, c1, a2, c2, cell_later hb h1, cell_later hb h2, cell_later hb h3, row8_below h4 hb, row8_below h5 hb⟩
end Go.Proofs.YtmlpijlcpeoeaaaDoor

/- Shards' halves in their order; lists of one's own, two places on. -/
namespace Go.Proofs.YtmlpijlcpeoeaaaDoor
open Go.RowKit Gf
set_option linter.unusedVariables false
set_option maxRecDepth 20000
/-- the halves of shards, in their order -/
def rowsS (S : List (Int × List F × List F)) : List (List F) := S.flatMap fun s => [s.2.1, s.2.2]
theorem rowsS_len : ∀ S, (rowsS S).length = 2 * S.length
  | [] => rfl
  | s :: S => by
    have := rowsS_len S
    simp only [rowsS, List.flatMap_cons, List.length_append, List.length_cons, List.length_nil] at this ⊢
    omega
theorem rowsS_snoc {S : List (Int × List F × List F)} {j : Nat} {s : Int × List F × List F} (h : S[j]? = some s) : rowsS (S.take (j + 1)) = rowsS (S.take j) ++ [s.2.1, s.2.2] := by
  rw [List.take_add_one, h]
  simp [rowsS]
theorem bothH_next {L : List Nat} {j s : Nat} (h : L[j]? = some s) : bothH (L.take (j + 1)) = bothH (L.take j) ++ [2 * s, 2 * s + 1] := by
  rw [List.take_add_one, h]
  simp [bothH]
theorem pairs_snoc {P : List F → Value → Prop} {L : List (List F)} {vs : List Value} {xs ys : List F} {x y : Value} (hl : vs.length = L.length) (h : ∀ (i : Nat) (zs : List F), L[i]? = some zs → ∃ v, vs[i]? = some v ∧ P zs v) (hx : P xs x) (hy : P ys y) :
    ∀ (i : Nat) (zs : List F), (L ++ [xs, ys])[i]? = some zs → ∃ v, (vs ++ [x, y])[i]? = some v ∧ P zs v := fun i zs hi => by
  by_cases hlt : i < L.length
  · rw [List.getElem?_append_left hlt] at hi
    rw [List.getElem?_append_left (by omega)]
    exact h i zs hi
  · rw [List.getElem?_append_right (by omega)] at hi
    rw [List.getElem?_append_right (by omega), hl]
    generalize i - L.length = q at hi
    match q, hi with
    | 0, hi => obtain rfl := Option.some.inj hi; exact ⟨x, rfl, hx⟩
    | 1, hi => obtain rfl := Option.some.inj hi; exact ⟨y, rfl, hy⟩
theorem own_kind7 {w w' : World} {B B' s s' n n' : Nat} {v v' : Value} {e e' : TypeId} {xs xs' : List Value} (ho : w.ownsRow B e s v n xs) (h : w.grownBy w' v.ownBlock) (hq : w.ownsRow B' e' s' v' n' xs') (hne : e' ≠ e) : w'.ownsRow B' e' s' v' n' xs' :=
  ⟨hq.1, hq.2.imp id fun ⟨g, cap, cur, h1, h2, h3, h4⟩ => ⟨g, cap, cur, h1, h2, own_other ho h h3 hne, h4⟩⟩
theorem castL_two (L : List Nat) (a b : Nat) : (castL (L ++ [a, b])).map (Value.int .i64) = (castL L).map (Value.int .i64) ++ [.int .i64 (a : Int), .int .i64 (b : Int)] := by simp [castL]
end Go.Proofs.YtmlpijlcpeoeaaaDoor

/- What slices.Contains of numbers, and haveSize, halvesOf, numbersOf of package code answer, of all numbers and shards. -/
namespace Go.Proofs.YtmlpijlcpeoeaaaDoor
open Go.RowKit Gf
set_option linter.unusedVariables false
set_option maxRecDepth 20000
/-- the first place of a number -/
def idxI (ns : List Int) (x : Int) : Int := if x ∈ ns then ((ns.idxOf x : Nat) : Int) else -1
set_option maxHeartbeats 1000000 in
theorem index_F (l cap : Nat) (a : Option Addr) (ns : List Int) (x : Int) (w : World) (hl : l = ns.length) (hl9 : l ≤ 1000000) (hX : RowI w a ns) :
    Calls Tryd.prog 82 #[.slice a l cap, .int .i64 x] w fun e w' => ∃ y : Int, e = .returned (.int .i64 y) ∧ (0 ≤ y ↔ x ∈ ns) ∧ w = w' := by
  have HL : Hid (l = ns.length) := hl
  have HX : Hid (RowI w a ns) := hX
  clear hl hX
  go_enter Tryd.func82, Tryd.ntmps82
  go_wp2
  go_loopw [8] (fun i wr => ∃ j : Nat, j ≤ l ∧ i = .int .i64 j ∧ wr = w ∧ (∀ q, q < j → ns[q]? ≠ some x)) (fun i _ => l - (intOf i).toNat)
  case atStart => exact ⟨0, by omega, rfl, rfl, fun q h => by omega⟩
  case round =>
    obtain ⟨j, hj, rfl, rfl, hq⟩ := hrel
    have HQ : Hid (∀ q, q < j → ns[q]? ≠ some x) := hq
    clear hq
    by_cases hlt : j < l
    · obtain ⟨b, off, rfl, hb, hc⟩ := rowI_cell HX.out (show j < ns.length by rw [← HL.out]; exact hlt)
      have c1 := hc j (by rw [← HL.out]; exact hlt)
      obtain ⟨y, hy⟩ : ∃ y, y = ns.getD j 0 := ⟨_, rfl⟩
      rw [← hy] at c1
      have HY : Hid (ns[j]? = some y) := by
        show _ = _
        rw [hy, List.getD_eq_getElem?_getD, List.getElem?_eq_getElem (by rw [← HL.out]; exact hlt)]; rfl
      clear hc hy
      by_cases he : x = y
      · have he' : (x == y) = true := by simp [he]
        have HE : Hid (x = y) := he
        clear he
        go_wp2
        go_ret
        exact ⟨j, rfl, ⟨fun _ => by rw [HE.out]; exact List.mem_of_getElem? HY.out, fun _ => by omega⟩, rfl⟩
      · have he' : (x == y) = false := by simp [he]
        have HE : Hid (¬ x = y) := he
        clear he
        go_wp2
        refine ⟨⟨j + 1, by omega, by go_num, by first | rfl | trivial, fun q hq => ?_⟩, by simp [intOf]; omega⟩
        by_cases hqj : q < j
        · exact HQ.out q hqj
        · obtain rfl : q = j := by omega
          rw [HY.out]
          exact fun h => HE.out (Option.some.inj h).symm
    · obtain rfl : j = l := by omega
      go_wp2
      go_ret
      refine ⟨-1, rfl, ⟨fun h => by omega, fun h => ?_⟩, rfl⟩
      obtain ⟨q, hq⟩ := List.mem_iff_getElem?.1 h
      exact absurd hq (HQ.out q (by have := (List.getElem?_eq_some_iff.1 hq).1; rw [HL.out]; exact this))
theorem contains_F (l cap : Nat) (a : Option Addr) (ns : List Int) (x : Int) (w : World) (hl : l = ns.length) (hl9 : l ≤ 1000000) (hX : RowI w a ns) :
    Calls Tryd.prog 58 #[.slice a l cap, .int .i64 x] w fun e w' => e = .returned (.bool (decide (x ∈ ns))) ∧ w = w' := by
  have HI : Hid _ := index_F l cap a ns x w hl hl9 hX
  clear hl hX
  go_enter Tryd.func58, Tryd.ntmps58
  go_wp2_with fail
  refine Calls.mono HI.out ?_
  rintro e w1 ⟨y, rfl, hy, rfl⟩
  have hd : decide (0 ≤ y) = decide (x ∈ ns) := by simp only [hy]
  have HD : Hid _ := hd
  clear hy hd
  go_wp2
  go_ret
  exact ⟨by rw [← HD.out]; rfl, rfl⟩
set_option maxHeartbeats 1000000 in
theorem haveSize_F (h l cap : Nat) (a : Option Addr) (L : List (List F)) (w : World) (hl : l = L.length) (hl9 : l ≤ 140737488355328) (hX : Rows8 w a L) :
    Calls Tryd.prog 35 #[.int .i64 h, .slice a l cap] w fun e w' => e = .returned (.bool (decide (∀ xs ∈ L, xs.length = h))) ∧ w = w' := by
  have HL : Hid (l = L.length) := hl
  have HX : Hid (Rows8 w a L) := hX
  clear hl hX
  go_enter Tryd.func35, Tryd.ntmps35
  go_wp2
  go_loopw [9] (fun i wr => ∃ j : Nat, j ≤ l ∧ i = .int .i64 j ∧ wr = w ∧ (∀ (q : Nat) (zs : List F), q < j → L[q]? = some zs → zs.length = h)) (fun i _ => l - (intOf i).toNat)
  case atStart => exact ⟨0, by omega, rfl, rfl, fun q _ h => by omega⟩
  case round =>
    obtain ⟨j, hj, rfl, rfl, hq⟩ := hrel
    have HQ : Hid (∀ (q : Nat) (zs : List F), q < j → L[q]? = some zs → zs.length = h) := hq
    clear hq
    by_cases hlt : j < l
    · obtain ⟨zs, hzs⟩ : ∃ zs, L[j]? = some zs := ⟨_, List.getElem?_eq_getElem (by rw [← HL.out]; exact hlt)⟩
      obtain ⟨bR, oR, rfl, hbR, hcR⟩ := rows8_at HX.out (List.getElem?_eq_some_iff.1 hzs).1
      obtain ⟨a', c', e1, _⟩ := hcR j zs hzs
      have HZS : Hid (L[j]? = some zs) := hzs
      clear hzs hcR
      by_cases hz : zs.length = h
      · have hz' : ((zs.length : Int) != (h : Int)) = false := by simp [hz]
        have HZ : Hid (zs.length = h) := hz
        clear hz
        go_wp2
        refine ⟨⟨j + 1, by omega, by go_num, by first | rfl | trivial, fun q ws hq hws => ?_⟩, by simp [intOf]; omega⟩
        by_cases hqi : q < j
        · exact HQ.out q ws hqi hws
        · obtain rfl : q = j := by omega
          rw [HZS.out] at hws
          obtain rfl := Option.some.inj hws
          exact HZ.out
      · have hz' : ((zs.length : Int) != (h : Int)) = true := by simp only [bne_iff_ne, ne_eq]; omega
        have HZ : Hid (¬ zs.length = h) := hz
        clear hz
        go_wp2
        go_ret
        have e9 : decide (∀ xs ∈ L, xs.length = h) = false := decide_eq_false fun h9 => HZ.out (h9 zs (List.mem_of_getElem? HZS.out))
        exact ⟨by rw [e9]; rfl, rfl⟩
    · obtain rfl : j = l := by omega
      go_wp2
      go_ret
      have e9 : decide (∀ xs ∈ L, xs.length = h) = true := decide_eq_true fun xs hx => by
        obtain ⟨q, hq⟩ := List.mem_iff_getElem?.1 hx
        exact HQ.out q xs (by have := (List.getElem?_eq_some_iff.1 hq).1; rw [HL.out]; exact this) hq
      exact ⟨by rw [e9]; rfl, rfl⟩
set_option maxHeartbeats 4000000 in
theorem halvesOf_F (l cap : Nat) (a : Option Addr) (S : List (Int × List F × List F)) (w : World) (hl : l = S.length) (hl9 : l ≤ 16) (h0 : 1 ≤ l) (hS : Sh8 w a S) :
    Calls Tryd.prog 34 #[.slice a l cap] w fun e w' => ∃ a9 c9 l9, e = .returned (.slice a9 l9 c9) ∧ l9 = 2 * l ∧ Rows8 w' a9 (rowsS S) ∧ Below w.heap.size w w' := by
  have HL : Hid (l = S.length) := hl
  have HS : Hid (Sh8 w a S) := hS
  clear hl hS
  go_enter Tryd.func34, Tryd.ntmps34
  go_wp2
  go_loopw [3, 8] (fun q i wr => ∃ j : Nat, ∃ vs : List Value, j ≤ l ∧ i = .int .i64 j ∧ Below w.heap.size w wr ∧ wr.ownsRow w.heap.size 22 1 q (2 * j) vs ∧
    ∀ (i : Nat) (zs : List F), (rowsS (S.take j))[i]? = some zs → ∃ v, vs[i]? = some v ∧ ∃ a' c', v = .slice a' zs.length c' ∧ Row8 w a' zs) (fun _ i _ => l - (intOf i).toNat)
  case atStart => exact ⟨0, [], by omega, rfl, Below.refl _ _, ⟨rfl, .inl ⟨rfl, rfl⟩⟩, fun i zs h => by simp [rowsS] at h⟩
  case round =>
    obtain ⟨j, vs, hj, rfl, hbw, hq, hvs⟩ := hrel
    have HBW : Hid (Below w.heap.size w wr) := hbw
    have HQ : Hid (wr.ownsRow w.heap.size 22 1 u3 (2 * j) vs) := hq
    have HVS : Hid (∀ (i : Nat) (zs : List F), (rowsS (S.take j))[i]? = some zs → ∃ v, vs[i]? = some v ∧ ∃ a' c', v = .slice a' zs.length c' ∧ Row8 w a' zs) := hvs
    clear hbw hq hvs
    by_cases hlt : j < l
    · have hjS : j < S.length := by rw [← HL.out]; exact hlt
      obtain ⟨⟨m, xs, ys⟩, hs⟩ : ∃ s, S[j]? = some s := ⟨_, List.getElem?_eq_getElem hjS⟩
      have HSJ : Hid (rowsS (S.take (j + 1)) = rowsS (S.take j) ++ [xs, ys]) := rowsS_snoc hs
      rcases HS.out with e0 | ⟨bS, oS, eS, hcS⟩
      · rw [e0] at hjS; simp at hjS
      subst eS
      obtain ⟨a1, l1, a2, l2, e1, e2, e3, r1, r2⟩ := hcS j m xs ys hs
      have c1 := cell_later HBW.out e1
      have c2 := cell_later HBW.out e2
      have c3 := cell_later HBW.out e3
      have R1 : Hid (Row8 w a1 xs) := r1
      have R2 : Hid (Row8 w a2 ys) := r2
      have c4 : Hid ((wr.alloc (.cells #[.int .i64 m, .slice a1 xs.length l1, .slice a2 ys.length l2] 38)).heap[wr.heap.size]? = some (.cells #[.int .i64 m, .slice a1 xs.length l1, .slice a2 ys.length l2] 38 (0, 0))) := heap_alloc_last _ _
      have B7 : Hid (Below w.heap.size w (wr.alloc (.cells #[.int .i64 m, .slice a1 xs.length l1, .slice a2 ys.length l2] 38))) := HBW.out.alloc HBW.out.size _
      have Q8 : Hid ((wr.alloc (.cells #[.int .i64 m, .slice a1 xs.length l1, .slice a2 ys.length l2] 38)).ownsRow w.heap.size 22 1 u3 (2 * j) vs) := World.ownsRow.alloc HQ.out _
      clear hs hcS e1 e2 e3 r1 r2
      go_upto_region 5 with fail
      clear c1 c2 c3
      generalize (wr.alloc (.cells #[.int .i64 m, .slice a1 xs.length l1, .slice a2 ys.length l2] 38)) = W7 at *
      generalize wr.heap.size = N at *
      have d1 := cellAt c4.out 1 _ rfl
      have d2 := cellAt c4.out 2 _ rfl
      have hq9 := World.ownsRow.alloc Q8.out (.cells #[.slice a1 xs.length l1, .slice a2 ys.length l2] 22)
      have zz := B7.out.size
      obtain ⟨gQ, capQ, wQ, hrunQ, hqQ, hgrQ, horQ, hltQ⟩ := appendS2 (b := W7.heap.size) (c := 2) (x := .slice a1 xs.length l1) (y := .slice a2 ys.length l2) 25 hq9 (cellAt (heap_alloc_last W7 _) 0 _ rfl) (cellAt (heap_alloc_last W7 _) 1 _ rfl) rfl rfl (by omega) (by simp; omega)
      have hbQ := below_own (B := w.heap.size) (B7.out.alloc B7.out.size (.cells #[.slice a1 xs.length l1, .slice a2 ys.length l2] 22)) hq9 hgrQ (by simp; omega)
      have HRQ : Hid _ := hrunQ
      have HBQ : Hid (Below w.heap.size w wQ) := hbQ
      have HQQ : Hid (wQ.ownsRow w.heap.size 22 1 (.slice (some ⟨gQ, 0, none⟩) (2 * j + 2) capQ) (2 * j + 2) (vs ++ [.slice a1 xs.length l1, .slice a2 ys.length l2])) := hqQ
      have hvl : vs.length = (rowsS (S.take j)).length := by
        have h1 := HQ.out.1
        rw [rowsS_len, List.length_take]; omega
      have HV2 : Hid (∀ (i : Nat) (zs : List F), (rowsS (S.take (j + 1)))[i]? = some zs → ∃ v, (vs ++ [.slice a1 xs.length l1, .slice a2 ys.length l2])[i]? = some v ∧ ∃ a' c', v = .slice a' zs.length c' ∧ Row8 w a' zs) := by
        show ∀ (i : Nat) (zs : List F), _
        rw [HSJ.out]
        exact pairs_snoc (P := fun zs v => ∃ a' c', v = .slice a' zs.length c' ∧ Row8 w a' zs) hvl HVS.out ⟨a1, l1, rfl, R1.out⟩ ⟨a2, l2, rfl, R2.out⟩
      clear hq9 zz hrunQ hqQ hgrQ horQ hltQ hbQ hvl
      go_wp2_with (at_builtin; refine wpList_append_run rfl _ _ 25 rfl _ _ _ _ rfl rfl HRQ.out ?_)
      exact ⟨⟨j + 1, _, by omega, by go_num, HBQ.out, HQQ.out, HV2.out⟩, by simp [intOf]; omega⟩
    · obtain rfl : j = l := by omega
      have hR : ∃ a9 c9, u3 = .slice a9 (2 * j) c9 ∧ Rows8 wr a9 (rowsS S) := by
        have hvs := HVS.out
        rw [List.take_of_length_le (by rw [← HL.out]; exact Nat.le_refl _)] at hvs
        rcases HQ.out.2 with ⟨e, e0⟩ | ⟨g, cap, cur, e, hg⟩
        · omega
        · refine ⟨some ⟨g, 0, none⟩, cap, e, .inr ⟨g, 0, rfl, fun i zs hi => ?_⟩⟩
          obtain ⟨v, hv, a', c', rfl, hr⟩ := hvs i zs hi
          have hil : i < 2 * j := by
            have := (List.getElem?_eq_some_iff.1 hi).1
            rw [rowsS_len, ← HL.out] at this; exact this
          have hoe := HQ.out
          rw [e] at hoe
          refine ⟨a', c', ?_, row8_below hr HBW.out⟩
          rw [Nat.zero_add, hoe.cellAt i (by rw [Nat.mul_one]; exact hil)]
          exact hv
      obtain ⟨a9, c9, rfl, hR9⟩ := hR
      have HR9 : Hid (Rows8 wr a9 (rowsS S)) := hR9
      clear HQ HVS hR9
      go_wp2
      go_ret
      exact ⟨a9, c9, _, rfl, rfl, HR9.out, HBW.out⟩
end Go.Proofs.YtmlpijlcpeoeaaaDoor

/- What Fits of package code answers, of all numbers and lists of halves; nothing that was there turns. -/
namespace Go.Proofs.YtmlpijlcpeoeaaaDoor
open Go.RowKit Gf
set_option linter.unusedVariables false
set_option maxRecDepth 20000
set_option maxHeartbeats 2000000 in
theorem equalFunc_F (l c1 c2 : Nat) (a1 a2 : Option Addr) (L1 L2 : List (List F)) (w : World) (hl1 : l = L1.length) (hl2 : l = L2.length) (hl9 : l ≤ 64) (h1 : Rows8 w a1 L1) (h2 : Rows8 w a2 L2) :
    Calls Tryd.prog 41 #[.slice a1 l c1, .slice a2 l c2, .func (.func 42) #[] #[]] w fun e w' => e = .returned (.bool (decide (L1 = L2))) ∧ w = w' := by
  have HL1 : Hid (l = L1.length) := hl1
  have HL2 : Hid (l = L2.length) := hl2
  have HR1 : Hid (Rows8 w a1 L1) := h1
  have HR2 : Hid (Rows8 w a2 L2) := h2
  clear hl1 hl2 h1 h2
  go_enter Tryd.func41, Tryd.ntmps41
  go_wp2
  go_loopw [17] (fun t wr => ∃ j : Nat, j ≤ l ∧ t = .int .i64 j ∧ wr = w ∧ (∀ q, q < j → L1[q]? = L2[q]?)) (fun t _ => l - (intOf t).toNat)
  case atStart => exact ⟨0, by omega, rfl, rfl, fun q h => by omega⟩
  case round =>
    obtain ⟨j, hj, rfl, rfl, hq⟩ := hrel
    have HQ : Hid (∀ q, q < j → L1[q]? = L2[q]?) := hq
    clear hq
    by_cases hlt : j < l
    · obtain ⟨xs, hxs⟩ : ∃ xs, L1[j]? = some xs := ⟨_, List.getElem?_eq_getElem (by rw [← HL1.out]; exact hlt)⟩
      obtain ⟨ys, hys⟩ : ∃ ys, L2[j]? = some ys := ⟨_, List.getElem?_eq_getElem (by rw [← HL2.out]; exact hlt)⟩
      obtain ⟨b1, o1, rfl, _, hc1⟩ := rows8_at HR1.out (List.getElem?_eq_some_iff.1 hxs).1
      obtain ⟨b2, o2, rfl, _, hc2⟩ := rows8_at HR2.out (List.getElem?_eq_some_iff.1 hys).1
      obtain ⟨p1, d1, e1, r1⟩ := hc1 j xs hxs
      obtain ⟨p2, d2, e2, r2⟩ := hc2 j ys hys
      have HXS : Hid (L1[j]? = some xs) := hxs
      have HYS : Hid (L2[j]? = some ys) := hys
      have R1 : Hid _ := r1
      have R2 : Hid _ := r2
      clear hxs hys hc1 hc2 r1 r2
      go_wp2_with fail
      refine Calls.mono (equal_F p1 p2 xs.length d1 ys.length d2 xs ys _ rfl rfl R1.out R2.out) ?_
      rintro e w2 ⟨rfl, rfl⟩
      by_cases hxy : xs = ys
      · have ex : eqB xs ys = true := by rw [hxy]; exact eqB_true _
        rw [ex]
        have HXY : Hid (xs = ys) := hxy
        clear hxy ex
        go_wp2
        refine ⟨⟨j + 1, by omega, by go_num, by first | rfl | trivial, fun q hq => ?_⟩, by simp [intOf]; omega⟩
        by_cases hqj : q < j
        · exact HQ.out q hqj
        · obtain rfl : q = j := by omega
          rw [HXS.out, HYS.out, HXY.out]
      · have ex : eqB xs ys = false := decide_eq_false hxy
        rw [ex]
        have e9 : decide (L1 = L2) = false := decide_eq_false fun h => hxy (by have := HXS.out; rw [h, HYS.out] at this; exact (Option.some.inj this).symm)
        have HE9 : Hid (decide (L1 = L2) = false) := e9
        clear hxy ex e9
        go_wp2
        go_ret
        exact ⟨by rw [HE9.out]; rfl, rfl⟩
    · obtain rfl : j = l := by omega
      have e9 : decide (L1 = L2) = true := decide_eq_true (List.ext_getElem? fun q => by
        by_cases hq : q < j
        · exact HQ.out q hq
        · rw [List.getElem?_eq_none (by rw [← HL1.out]; omega), List.getElem?_eq_none (by rw [← HL2.out]; omega)])
      have HE9 : Hid (decide (L1 = L2) = true) := e9
      clear e9
      go_wp2
      go_ret
      exact ⟨by rw [HE9.out]; rfl, rfl⟩
/-- lists of one size that a stripe's halves can have -/
def OneSize (L : List (List F)) (H : Nat) : Prop := 1 ≤ H ∧ H ≤ 64 ∧ ∀ xs ∈ L, xs.length = H
instance (L : List (List F)) (H : Nat) : Decidable (OneSize L H) := inferInstanceAs (Decidable (_ ∧ _))
set_option maxHeartbeats 2000000 in
theorem ofStripe_F (l cap : Nat) (a : Option Addr) (L : List (List F)) (w : World) (hl : l = L.length) (hl9 : l ≤ 64) (h0 : 1 ≤ l) (h : Rows8 w a L) (hb : (L.getD 0 []).length ≤ 140737488355328) :
    Calls Tryd.prog 40 #[.slice a l cap] w fun e w' => e = .returned (.bool (decide (OneSize L (L.getD 0 []).length))) ∧ w = w' := by
  have HS : Hid _ := fun h' => haveSize_F h' l cap a L w hl (by omega) h
  obtain ⟨xs, hxs⟩ : ∃ xs, L[0]? = some xs := ⟨_, List.getElem?_eq_getElem (by omega)⟩
  have e1 : L.getD 0 [] = xs := by rw [List.getD_eq_getElem?_getD, hxs]; rfl
  rw [e1] at hb ⊢
  obtain ⟨b1, o1, rfl, _, hc1⟩ := rows8_at h (show 0 < L.length by omega)
  obtain ⟨p1, d1, e2, _⟩ := hc1 0 xs hxs
  rw [Nat.add_zero] at e2
  clear hc1 hxs e1 h hl
  go_enter Tryd.func40, Tryd.ntmps40
  by_cases h1 : 1 ≤ xs.length
  · by_cases h2 : xs.length ≤ 64
    · go_wp2_with fail
      refine Calls.mono (HS.out xs.length) ?_
      rintro e w2 ⟨rfl, rfl⟩
      have e9 : decide (∀ ys ∈ L, ys.length = xs.length) = decide (OneSize L xs.length) := by
        rw [decide_eq_decide]; exact ⟨fun h => ⟨h1, h2, h⟩, fun h => h.2.2⟩
      rw [e9]
      clear e9
      go_wp2
      go_ret
      exact ⟨rfl, rfl⟩
    · have e9 : decide (OneSize L xs.length) = false := decide_eq_false fun h => h2 h.2.1
      rw [e9]
      clear e9
      go_wp2
      go_ret
      exact ⟨rfl, rfl⟩
  · have e9 : decide (OneSize L xs.length) = false := decide_eq_false fun h => h1 h.1
    rw [e9]
    clear e9
    go_wp2
    go_ret
    exact ⟨rfl, rfl⟩
theorem rows8_take {w : World} {a : Option Addr} {L : List (List F)} (h : Rows8 w a L) (c : Nat) : Rows8 w a (L.take c) := by
  rcases h with rfl | ⟨b, off, rfl, h⟩
  · exact .inl (by simp)
  · exact .inr ⟨b, off, rfl, fun j xs hj => h j xs (by
      rw [List.getElem?_take] at hj
      split at hj
      · exact hj
      · cases hj)⟩
theorem bytesD_take {L : List (List F)} {c v b : Nat} (h : v < c) : bytesD (L.take c) v b = bytesD L v b := by
  unfold bytesD
  rw [List.getD_eq_getElem?_getD, List.getD_eq_getElem?_getD, List.getElem?_take, if_pos h]
/-- halves that Fits takes -/
def FitsIn (k r l : Nat) (L : List (List F)) (H : Nat) : Prop := l = 2 * (k + r) ∧ OneSize L H
/-- the halves that the data halves among them make -/
def madeL (k r H : Nat) (L : List (List F)) : List (List F) := (List.range (2 * (k + r))).map (imgL k (carN (groupN k r)) H (bytesD L))
theorem made_rows {w : World} {B M k r H c2 cR : Nat} {L : List (List F)} {gs : List (Nat × Nat)} (hc2 : c2 = 2 * k) (hcR : cR = 2 * (k + r)) (hrs : RowsP w B gs (combL c2 H (halfM k r) (L.take c2))) (hgs : gs.length = cR)
    (hT : w.heap[M]? = some (.cells (slW (rowsP H gs) cR) 22 (0, 0))) : Rows8 w (some ⟨M, 0, none⟩) (madeL k r H L) := by
  have hr2 := rowsP_congr (g := imgL k (carN (groupN k r)) H (bytesD L)) hrs fun i hi => by
    rw [hc2, comb_half (by rw [← hcR, ← hgs]; exact hi)]
    exact img_congr fun v b hv hb => bytesD_take hv
  have := rowsP_rows hr2 hgs (fun i => imgL_len _ _ _ _ _) hT
  unfold madeL
  rw [← hcR]; exact this
set_option maxHeartbeats 8000000 in
theorem fits_G (k r l cap H : Nat) (a : Option Addr) (L : List (List F)) (w : World) (E : Nat → Addr) (hE : ErrsF w E) (hE4 : w.cell? ⟨1, 0, none⟩ = some (errAt (E 4))) (h1 : 1 ≤ k) (h2 : 2 ≤ r) (h3 : k + r ≤ 16) (hl : l = L.length) (hl9 : l ≤ 140737488355328) (hcap : l ≤ cap) (hX : Rows8 w a L) (hb9 : ∀ xs ∈ L, xs.length ≤ 140737488355328) (hHL : H = (L.getD 0 []).length) :
    Calls Tryd.prog 21 #[.int .i64 k, .int .i64 r, .slice a l cap] w fun e w' =>
      (¬ FitsIn k r l L H ∧ e = .returned (.tuple #[.bool false, errAt (E 4)]) ∧ Below w.heap.size w w') ∨
      (FitsIn k r l L H ∧ e = .returned (.tuple #[.bool (decide (madeL k r H L = L)), .nilIface]) ∧ Below w.heap.size w w') := by
  have HE : Hid (ErrsF w E) := hE
  have HE4 : Hid _ := hE4
  have hlt4 := World.block_lt_of_cell? w _ hE4
  simp at hlt4
  have HX : Hid (Rows8 w a L) := hX
  have HL : Hid (l = L.length) := hl
  have HB9 : Hid (∀ xs ∈ L, xs.length ≤ 140737488355328) := hb9
  obtain ⟨c2, hc2⟩ : ∃ c2, c2 = 2 * k := ⟨_, rfl⟩
  obtain ⟨cR, hcR⟩ : ∃ cR, cR = 2 * (k + r) := ⟨_, rfl⟩
  have HC2 : Hid (c2 = 2 * k) := hc2
  have HCR : Hid (cR = 2 * (k + r)) := hcR
  have HR : Hid _ := fun w s h => hrows_F k r w s h h1 h2 h3
  rw [← hc2, ← hcR] at HR
  have hcl : c2 ≤ 28 := by omega
  have hcl1 : 1 ≤ c2 := by omega
  have hRl : cR ≤ 32 := by omega
  have hR6 : 6 ≤ cR := by omega
  have hcc : c2 ≤ cR := by omega
  have HHH : Hid (H = (L.getD 0 []).length) := hHL
  clear hE hX hl hc2 hcR hb9 hE4 hHL
  unfold errAt at *
  go_enter Tryd.func21, Tryd.ntmps21
  go_wp2_with fail
  refine Calls.mono (HR.out _ (E 1) HE.out.2) ?_
  rintro e w1 ⟨g1, m1, rfl, hm1, hg1, hh1, hb1⟩
  have HA1 : Hid _ := holds_new (holds_cons (holds_nil w1) hh1) #[.int .i64 cR, .int .i64 c2, .slice (some ⟨g1, 0, none⟩) m1 m1] 65
  have HB1 : Hid (Below w.heap.size w (w1.alloc (.cells #[.int .i64 cR, .int .i64 c2, .slice (some ⟨g1, 0, none⟩) m1 m1] 65))) := hb1.alloc hb1.size _
  have HM1 : Hid (m1 = cR * c2) := hm1
  clear hm1 hg1 hh1 hb1
  by_cases hlc : l = cR
  · subst hlc
    have hlc' : ((l : Int) != (l : Int)) = false := by simp
    have hl64 : l ≤ 64 := by omega
    have hl1 : 1 ≤ l := by omega
    have HD0 : Hid ((L.getD 0 []).length ≤ 140737488355328) := by
      show _ ≤ _
      rw [List.getD_eq_getElem?_getD, List.getElem?_eq_getElem (show 0 < L.length by have := HL.out; omega)]
      exact HB9.out _ (List.getElem_mem _)
    go_wp2_with fail
    refine Calls.mono (ofStripe_F l cap a L _ HL.out hl64 hl1 (rows8_below HX.out HB1.out) HD0.out) ?_
    rintro e w2 ⟨rfl, rfl⟩
    by_cases hos : OneSize L (L.getD 0 []).length
    · rw [decide_eq_true hos]
      have HOS : Hid (OneSize L H) := by
        show OneSize L H
        rw [HHH.out]; exact hos
      have hH64 : H ≤ 64 := HOS.out.2.1
      clear hos HD0
      go_wp2
      have kA : ∀ u, Below (w1.alloc (.cells #[.int .i64 l, .int .i64 c2, .slice (some ⟨g1, 0, none⟩) m1 m1] 65)).heap.size (w1.alloc (.cells #[.int .i64 l, .int .i64 c2, .slice (some ⟨g1, 0, none⟩) m1 m1] 65)) u → Holds u [(w1.heap.size, .cells #[.int .i64 l, .int .i64 c2, .slice (some ⟨g1, 0, none⟩) m1 m1] 65 (0, 0)), (g1, .cells (vfs (halfM k r)) 5 (0, 0))] := fun u hu => holds_later HA1.out hu
      generalize (w1.alloc (.cells #[.int .i64 l, .int .i64 c2, .slice (some ⟨g1, 0, none⟩) m1 m1] 65)) = W2 at *
      generalize w1.heap.size = P at *
      have HKA : Hid _ := kA
      have C0 : ∀ u, Below W2.heap.size W2 u → u.cell? ⟨P, 0, none⟩ = some (.int .i64 l) := fun u hu => cellAt (holds_at (HKA.out u hu) 0 rfl) 0 _ rfl
      have C1 : ∀ u, Below W2.heap.size W2 u → u.cell? ⟨P, 1, none⟩ = some (.int .i64 c2) := fun u hu => cellAt (holds_at (HKA.out u hu) 0 rfl) 1 _ rfl
      have C2 : ∀ u, Below W2.heap.size W2 u → u.cell? ⟨P, 2, none⟩ = some (.slice (some ⟨g1, 0, none⟩) m1 m1) := fun u hu => cellAt (holds_at (HKA.out u hu) 0 rfl) 2 _ rfl
      have hcle : c2 ≤ cap := by omega
      clear kA
      have hR2 : Below W2.heap.size W2 W2.drew := (Below.refl _ _).drew
      go_region_held3 (fun u => Below W2.heap.size W2 u) (first | assumption | (refine Below.drew ?_; assumption)) (first | (go_at_call 30; refine Calls.mono (ccomb_F l c2 H m1 m1 c2 cap (some ⟨g1, 0, none⟩) a (halfM k r) (L.take c2) _ (by omega) hcl1 (by omega) hH64 HM1.out (by rw [halfM_len, HCR.out, HC2.out]) (Nat.le_refl _) (holds_row (HKA.out _ ‹Below W2.heap.size W2 _›) 1 rfl) rfl (by rw [List.length_take]; have := HL.out; omega) (fun ys hy => HOS.out.2.2 ys (List.mem_of_mem_take hy)) (rows8_take (rows8_below HX.out (HB1.out.trans (Below.mono ‹Below W2.heap.size W2 _› HB1.out.size))) _)) ?_; rintro e wi ⟨M, gs, rfl, hM, hgs, hT, hrs, hb⟩; have hTi : Below W2.heap.size W2 wi := Below.trans ‹Below W2.heap.size W2 _› (Below.mono hb (below_size ‹Below W2.heap.size W2 _›)); have HMD : Hid (Rows8 wi (some ⟨M, 0, none⟩) (madeL k r H L)) := made_rows HC2.out HCR.out hrs hgs hT; clear hM hgs hT hrs hb))
      have HB3 : Hid (Below w.heap.size w wi) := HB1.out.trans (hTi.mono HB1.out.size)
      clear hTi hR2 C0 C1 C2
      go_wp2_with fail
      refine Calls.mono (equalFunc_F l l cap (some ⟨M, 0, none⟩) a (madeL k r H L) L _ (by simp [madeL, HCR.out]) HL.out (by omega) HMD.out (rows8_below HX.out HB3.out)) ?_
      rintro e w4 ⟨rfl, rfl⟩
      go_wp2
      go_ret2
      exact .inr ⟨⟨HCR.out, HOS.out⟩, rfl, HB3.out⟩
    · rw [decide_eq_false hos]
      have HOS : Hid (¬ OneSize L (L.getD 0 []).length) := hos
      have hc9 : (w1.alloc (.cells #[.int .i64 l, .int .i64 c2, .slice (some ⟨g1, 0, none⟩) m1 m1] 65)).cell? ⟨1, 0, none⟩ = some (errAt (E 4)) := (HB1.out.cell (p := ⟨1, 0, none⟩) hlt4).trans HE4.out
      unfold errAt at hc9
      clear hos
      go_wp2
      go_region
      go_wp2
      go_ret2
      exact .inl ⟨fun h => HOS.out (by rw [← HHH.out]; exact h.2), rfl, HB1.out.drew⟩
  · have hlc' : ((l : Int) != (cR : Int)) = true := by simp only [bne_iff_ne, ne_eq]; omega
    have HLC : Hid (¬ l = cR) := hlc
    have hc9 : (w1.alloc (.cells #[.int .i64 cR, .int .i64 c2, .slice (some ⟨g1, 0, none⟩) m1 m1] 65)).cell? ⟨1, 0, none⟩ = some (errAt (E 4)) := (HB1.out.cell (p := ⟨1, 0, none⟩) hlt4).trans HE4.out
    unfold errAt at hc9
    clear hlc
    go_wp2
    go_region
    go_wp2
    go_ret2
    exact .inl ⟨fun h => HLC.out (by rw [HCR.out]; exact h.1), rfl, HB1.out.drew⟩
set_option maxHeartbeats 2000000 in
theorem fits_illegal (k r : Int) (l cap : Nat) (a : Option Addr) (w : World) (E : Nat → Addr) (hE : ErrsF w E) (hk0 : -9223372036854775808 ≤ k) (hk1 : k ≤ 9223372036854775807) (hr0 : -9223372036854775808 ≤ r) (hr1 : r ≤ 9223372036854775807) (hL : ¬ LegalP k r) :
    Calls Tryd.prog 21 #[.int .i64 k, .int .i64 r, .slice a l cap] w fun e w' => e = .returned (.tuple #[.bool false, errAt (E 0)]) ∧ Below w.heap.size w w' := by
  have HR : Hid _ := fun u hu => hrows_bad k r u (E 0) hu hk0 hk1 hr0 hr1 hL
  have HE : Hid (ErrsF w E) := hE
  clear hE hL
  unfold errAt at HR ⊢
  go_enter Tryd.func21, Tryd.ntmps21
  go_wp2_with fail
  refine Calls.mono (HR.out _ HE.out.1.1) ?_
  rintro e w1 ⟨rfl, hb1⟩
  have HB1 : Hid (Below w.heap.size w w1) := hb1
  clear hb1
  go_wp2_with fail
  go_ret2
  exact ⟨rfl, HB1.out.alloc HB1.out.size _⟩
end Go.Proofs.YtmlpijlcpeoeaaaDoor
/- What the document's own Split answers, and SameLists of two lists that are the same; nothing that was there turns. -/
namespace Go.Proofs.YtmlpijlcpeoeaaaDoor
open Go.RowKit Gf
set_option linter.unusedVariables false
set_option maxRecDepth 20000
/-- half v, made as far as byte i -/
def hfP (H : Nat) (xs : List F) (v i : Nat) : List F := rowF H (fun j => if j < i then at8 xs (v * H + j) else 0)
theorem hfP_len (H : Nat) (xs : List F) (v i : Nat) : (hfP H xs v i).length = H := rowF_len _ _
theorem hfP_zero (H : Nat) (xs : List F) (v : Nat) : zeros H = hfP H xs v 0 := rowF_eq (zeros_len H) fun j hj => by rw [at8_zeros, if_neg (by omega)]
theorem hfP_done (H : Nat) (xs : List F) (v : Nat) : hfP H xs v H = hf H xs v := rowF_congr fun j hj => by rw [if_pos hj]
theorem hfP_step {H : Nat} {xs : List F} {v i : Nat} (hi : i < H) : (hfP H xs v i).set i (at8 xs (v * H + i)) = hfP H xs v (i + 1) := by
  refine rowF_eq (by rw [List.length_set, hfP_len]) fun j hj => ?_
  by_cases h : j = i
  · subst h
    rw [if_pos (by omega)]
    simp [at8, hfP_len, hj]
  · have e : at8 ((hfP H xs v i).set i (at8 xs (v * H + i))) j = at8 (hfP H xs v i) j := by simp [at8, Ne.symm h]
    rw [e, hfP, at8_rowF hj]
    by_cases h2 : j < i
    · rw [if_pos h2, if_pos (by omega)]
    · rw [if_neg h2, if_neg (by omega)]
theorem hfP_over {H : Nat} {xs : List F} {v i : Nat} (h : xs.length ≤ v * H + i) : hfP H xs v i = hfP H xs v (i + 1) := rowF_congr fun j hj => by
  by_cases h1 : j < i
  · rw [if_pos h1, if_pos (by omega)]
  · rw [if_neg h1]
    by_cases h2 : j < i + 1
    · rw [if_pos h2, at8_over (by omega)]
    · rw [if_neg h2]
/-- lists as values: whole blocks -/
def slsV (H : Nat) (gs : List Nat) : List Value := gs.map fun g => .slice (some ⟨g, 0, none⟩) H H
theorem slsV_snoc (H : Nat) (gs : List Nat) (g : Nat) : slsV H gs ++ [.slice (some ⟨g, 0, none⟩) H H] = slsV H (gs ++ [g]) := by simp [slsV]
theorem rsplit_bad (k : Int) (a : Option Addr) (la ca : Nat) (w : World) (h : halfE k la ≠ 0) :
    Calls Tryd.prog 31 #[.int .i64 k, .slice a la ca] w fun e w' => e = .returned (.tuple #[.slice none 0 0, .int .i64 (halfE k la)]) ∧ w = w' := by
  have HF : Hid _ := fun w => rhalf_F k la w
  rw [halfV_no h] at HF
  have h' : ¬ ((halfE k la : Nat) : Int) = 0 := by omega
  generalize halfE k la = x at *
  clear h
  go_enter Tryd.func31, Tryd.ntmps31
  go_wp2_with fail
  refine Calls.mono (HF.out _) ?_
  rintro e w1 ⟨rfl, rfl⟩
  go_wp2_with fail
  go_ret2
  exact ⟨rfl, rfl⟩
set_option maxHeartbeats 2000000 in
theorem rsplit_ok (k n ca : Nat) (a : Option Addr) (xs : List F) (w : World) (h1 : 1 ≤ k) (h2 : k ≤ 14) (h3 : 1 ≤ n) (h4 : n ≤ 128 * k) (hn : n = xs.length) (hx : Row8 w a xs) :
    Calls Tryd.prog 31 #[.int .i64 k, .slice a n ca] w fun e w' => ∃ b c cap H, e = .returned (.tuple #[.slice b c cap, .int .i64 0]) ∧ c = 2 * k ∧ H = cntN (2 * k) n ∧ Rows8 w' b ((List.range c).map (hf H xs)) ∧ Below w.heap.size w w' := by
  have HF : Hid _ := fun w => rhalf_F k n w
  rw [halfV_ok h1 h2 h3 h4, halfE_ok h1 h2 h3 h4] at HF
  obtain ⟨k1, k2, k3, k4⟩ := cnt_half h1 h2 h3 h4
  obtain ⟨c, hc⟩ : ∃ c, c = 2 * k := ⟨_, rfl⟩
  rw [← hc] at HF k1 k2 k3 k4
  generalize hH : cntN c n = H at *
  have HCC : Hid _ := hc
  have HHH : Hid _ := hH
  have HKC : Hid ((2 : Int) * k = c) := by show _ = _; omega
  have hc28 : c ≤ 28 := by omega
  have HXL : Hid _ := hn
  have HX : Hid _ := hx
  have H8 : Hid _ := fun w => run_make8 H (by omega) w
  clear k3 k4 h3 h4 hc hH hn hx
  go_enter Tryd.func31, Tryd.ntmps31
  go_wp2_with fail
  refine Calls.mono (HF.out _) ?_
  rintro e w1 ⟨rfl, rfl⟩
  go_wp2
  have hown : (w.alloc (.cells #[] 22)).ownsRow w.heap.size 22 1 (.slice (some ⟨w.heap.size, 0, none⟩) 0 0) 0 (slsV H []) := ⟨rfl, .inr ⟨w.heap.size, 0, #[], rfl, Nat.le_refl _, heap_alloc_last _ _, by simp, by simp [maxLen], rfl, rfl⟩⟩
  go_loopw [8, 9] (fun s t wr => ∃ v : Nat, ∃ gs : List Nat, v ≤ c ∧ t = .int .i64 v ∧ gs.length = v ∧ Below w.heap.size w wr ∧ wr.ownsRow w.heap.size 22 1 s v (slsV H gs) ∧ ∀ (j g : Nat), gs[j]? = some g → wr.heap[g]? = some (.cells (vfs (hf H xs j)) 5 (0, 0))) (fun _ t _ => c - (intOf t).toNat)
  case atStart => exact ⟨0, [], by omega, rfl, rfl, (Below.refl _ _).alloc (Nat.le_refl _) _, hown, fun j g h => by simp at h⟩
  case round =>
    obtain ⟨v, gs, hv, rfl, hgs, hb, ho, hrows⟩ := hrel
    have HGS : Hid _ := hgs
    have HB : Hid _ := hb
    have HO : Hid _ := ho
    have HRO : Hid _ := hrows
    have hkc := HKC.out
    clear hgs hb hrows hown
    by_cases hlt : v < c
    · have m1 := H8.out wr
      have B1 : Hid _ := heap_alloc_last wr (.cells (vfs (zeros H)) 5)
      have HBW : Hid (Below wr.heap.size wr (wr.alloc (.cells (vfs (zeros H)) 5))) := (Below.refl _ _).alloc (Nat.le_refl _) _
      obtain ⟨p, hp⟩ : ∃ p, p = v * H := ⟨_, rfl⟩
      have hpm : p ≤ 1792 := by
        rw [hp]; exact Nat.le_trans (Nat.mul_le_mul (show v ≤ 28 by omega) k2) (by decide)
      have m4 : (v : Int) * (H : Int) = (p : Int) := by rw [hp]; simp
      have HP : Hid _ := hp
      have HM4 : Hid _ := m4
      clear ho hp m4
      go_wp2
      clear m1
      generalize hN : wr.heap.size = N at *
      generalize (wr.alloc (.cells (vfs (zeros H)) 5)) = W3 at *
      have HN : Hid _ := hN
      clear hN hkc
      generalize wr = wo at *
      go_loopw [11] (fun t wr => ∃ i : Nat, i ≤ H ∧ t = .int .i64 i ∧ W3.grownBy wr (some N) ∧ wr.heap[N]? = some (.cells (vfs (hfP H xs v i)) 5 (0, 0))) (fun t _ => H - (intOf t).toNat)
      case atStart => exact ⟨0, by omega, rfl, World.grownBy.refl _ _, by rw [← hfP_zero]; exact B1.out⟩
      case round =>
        obtain ⟨i, hi, rfl, hgb, hs⟩ := hrel
        have HG : Hid _ := hgb
        have HS : Hid _ := hs
        have hBWx : Below wo.heap.size wo W3 := by rw [HN.out]; exact HBW.out
        have HBR : Hid (Below N wo wr) := by
          show Below N wo wr
          have := below_grown hBWx hgb (by rw [HN.out]; exact Nat.le_refl _)
          rwa [HN.out] at this
        have hBw : Below w.heap.size w wr := HB.out.trans (HBR.out.mono (by rw [← HN.out]; exact HB.out.size))
        have HBw : Hid _ := hBw
        by_cases hlti : i < H
        · have hm4 := HM4.out
          obtain ⟨q, hq⟩ : ∃ q, q = p + i := ⟨_, rfl⟩
          have hq' : (p : Int) + (i : Int) = (q : Int) := by omega
          have HQ : Hid (q = v * H + i) := by show _ = _; rw [hq, HP.out]
          have hqm : q ≤ 4096 := by omega
          clear hq
          by_cases hqn : q < n
          · obtain ⟨b', off, rfl, hbl, hcl⟩ := row8_cell HX.out (show q < xs.length by rw [← HXL.out]; exact hqn)
            have c1 := cell_later hBw (hcl q (by rw [← HXL.out]; exact hqn))
            have c2 : wr.cell? ⟨N, i, none⟩ = some (.int .u8 ((at8 (hfP H xs v i) i).toNat : Int)) := cellAt hs i _ (vfs_get _ _ (by rw [hfP_len]; exact hlti))
            have c3 : wr.frozen? ⟨N, i, none⟩ = false := frozen_of_row _ _ _ _ _ hs
            have HT : Hid ((wr.setCell ⟨N, i, none⟩ (.int .u8 ((at8 xs q).toNat : Int))).heap[N]? = some (.cells (vfs (hfP H xs v (i + 1))) 5 (0, 0))) := by
              show _ = _
              rw [heap_setCell_same _ _ _ _ _ _ hs, vfs_set, HQ.out, hfP_step hlti]
            clear hgb hs hBw hcl
            go_wp2
            exact ⟨⟨i + 1, by omega, by go_num, grownBy_setCell HG.out _, HT.out⟩, by simp [intOf]; omega⟩
          · have ho9 : hfP H xs v i = hfP H xs v (i + 1) := hfP_over (by rw [← HQ.out, ← HXL.out]; omega)
            rw [ho9] at HS
            clear hgb hs hBw ho9
            go_wp2
            exact ⟨⟨i + 1, by omega, by go_num, HG.out, HS.out⟩, by simp [intOf]; omega⟩
        · obtain rfl : i = H := by omega
          have ho4 := World.ownsRow.alloc (own_below HO.out (by rw [HN.out]; exact HBR.out)) (.cells #[.slice (some ⟨N, 0, none⟩) i i] 22)
          obtain ⟨g2, cap2, w2, hrun, ho2, hgr, hor, hlt2⟩ := appendS (b := wr.heap.size) (c := 1) (x := .slice (some ⟨N, 0, none⟩) i i) 25 ho4 (cellAt (heap_alloc_last wr (.cells #[.slice (some ⟨N, 0, none⟩) i i] 22)) 0 _ rfl) rfl (by omega) (by have := hBw.size; simp; omega)
          rw [slsV_snoc] at ho2
          have hb6 := below_own (B := w.heap.size) (hBw.alloc hBw.size (.cells #[.slice (some ⟨N, 0, none⟩) i i] 22)) ho4 hgr (by have := hBw.size; simp; omega)
          have hkeep : ∀ (g : Nat) (ys : List F), wr.heap[g]? = some (.cells (vfs ys) 5 (0, 0)) → w2.heap[g]? = some (.cells (vfs ys) 5 (0, 0)) := fun g ys h =>
            own_other ho4 hgr ((Below.heap_alloc _ _ _ (ltHeap h)).trans h) (by decide)
          have HROW : Hid (∀ (j g : Nat), (gs ++ [N])[j]? = some g → w2.heap[g]? = some (.cells (vfs (hf i xs j)) 5 (0, 0))) := fun j g hj => by
            by_cases hjv : j < v
            · rw [List.getElem?_append_left (by rw [HGS.out]; exact hjv)] at hj
              exact hkeep g _ (heap_later (HRO.out j g hj) (by rw [HN.out]; exact HBR.out))
            · have hj2 : j = v := by
                have := (List.getElem?_eq_some_iff.1 hj).1
                rw [List.length_append, HGS.out, List.length_singleton] at this
                omega
              subst hj2
              rw [List.getElem?_append_right (by rw [HGS.out]; exact Nat.le_refl _), HGS.out, Nat.sub_self] at hj
              obtain rfl := Option.some.inj hj
              exact hkeep _ _ (by rw [← hfP_done]; exact hs)
          have HLEN : Hid ((gs ++ [N]).length = v + 1) := by show _ = _; rw [List.length_append, HGS.out]; rfl
          have HRun : Hid _ := hrun
          have HO2 : Hid _ := ho2
          have HB6 : Hid _ := hb6
          clear hgb hs hBw ho4 hrun ho2 hb6 hgr hor hlt2 hkeep
          go_wp2_with (at_builtin; refine wpList_append_run rfl _ _ 25 rfl _ _ _ _ rfl rfl HRun.out ?_)
          exact ⟨⟨v + 1, gs ++ [N], by omega, by go_num, HLEN.out, HB6.out, HO2.out, HROW.out⟩, by simp [intOf]; omega⟩
    · obtain rfl : v = c := by omega
      have hfin : ∃ b cap, u8 = .slice b v cap ∧ Rows8 wr b ((List.range v).map (hf H xs)) := by
        rcases ho.2 with ⟨_, h0⟩ | ⟨g, cap, cur, e, hg⟩
        · omega
        · refine ⟨some ⟨g, 0, none⟩, cap, e, .inr ⟨g, 0, rfl, fun j ys hj => ?_⟩⟩
          have hjv : j < v := by have := (List.getElem?_eq_some_iff.1 hj).1; simpa using this
          rw [List.getElem?_map, List.getElem?_range hjv] at hj
          obtain rfl := Option.some.inj hj
          obtain ⟨g', hg'⟩ : ∃ g', gs[j]? = some g' := ⟨_, List.getElem?_eq_getElem (by rw [HGS.out]; exact hjv)⟩
          have hrow := HRO.out j g' hg'
          have hoe := ho
          rw [e] at hoe
          refine ⟨some ⟨g', 0, none⟩, H, ?_, row8_own hrow⟩
          rw [Nat.zero_add, hoe.cellAt j (by rw [Nat.mul_one]; exact hjv), hf_len]
          simp [slsV, hg']
      obtain ⟨b9, cap9, rfl, hr9⟩ := hfin
      have HR9 : Hid _ := hr9
      clear hr9 ho
      go_wp2
      go_ret2
      exact ⟨b9, v, cap9, H, rfl, HCC.out, by rw [← HCC.out]; exact HHH.out.symm, HR9.out, HB.out⟩
end Go.Proofs.YtmlpijlcpeoeaaaDoor

/- What the document's own Encode answers, of all numbers and lists of bytes; nothing that was there turns. -/
namespace Go.Proofs.YtmlpijlcpeoeaaaDoor
open Go.RowKit Gf
set_option linter.unusedVariables false
set_option maxRecDepth 20000
theorem rimage_F (k r h H l cap : Nat) (a : Option Addr) (L : List (List F)) (w : World) (h1 : 1 ≤ k) (h2 : 2 ≤ r) (h3 : k + r ≤ 16) (hh : h < 2 * (k + r)) (hH : H ≤ 64) (hl : 2 * k ≤ L.length) (hll : l = L.length) (hl9 : l ≤ 140737488355328) (hL : ∀ xs ∈ L, xs.length = H) (hR : Rows8 w a L) :
    Calls Tryd.prog 23 #[.int .i64 k, .int .i64 r, .int .i64 h, .slice a l cap, .int .i64 H] w fun e w' => ∃ g, e = .returned (.slice (some ⟨g, 0, none⟩) H H) ∧ w.heap.size ≤ g ∧
      w'.heap[g]? = some (.cells (vfs (imgL k (carN (groupN k r)) H (bytesD L) h)) 5 (0, 0)) ∧ Below w.heap.size w w' := by
  by_cases hk : h < 2 * k
  · have e : imgL k (carN (groupN k r)) H (bytesD L) h = rowF H (bytesD L h) := rowF_congr fun b _ => img_data hk b
    rw [e]
    exact rimage_data k r h H l cap a L w (by omega) hk hH hl hll hL hR
  · obtain ⟨i, p, hi, hp, e⟩ : ∃ i p, i < r ∧ p < 2 ∧ h = 2 * (k + i) + p := ⟨h / 2 - k, h % 2, by omega, by omega, by omega⟩
    rw [e]
    exact rimage_par k r i p H l cap a L w h1 h2 h3 hi hp hH hl hll hl9 hL hR
theorem rencode_illegal (k r : Int) (a : Option Addr) (la ca : Nat) (w : World) (hk0 : -9223372036854775808 ≤ k) (hk1 : k ≤ 9223372036854775807) (hr0 : -9223372036854775808 ≤ r) (hr1 : r ≤ 9223372036854775807) (h : ¬ LegalP k r) :
    Calls Tryd.prog 13 #[.int .i64 k, .int .i64 r, .slice a la ca] w fun e w' => e = .returned (.tuple #[.slice none 0 0, .int .i64 1]) ∧ w = w' := by
  have H : Hid _ := h
  clear h
  go_enter Tryd.func13, Tryd.ntmps13
  go_wp2_with fail
  refine Calls.mono (legal_no k r _ hk0 hk1 hr0 hr1 H.out) ?_
  rintro e w1 ⟨rfl, rfl⟩
  go_wp2_with fail
  go_ret2
  exact ⟨rfl, rfl⟩
theorem rencode_bad (k r : Nat) (a : Option Addr) (la ca : Nat) (w : World) (h1 : 1 ≤ k) (h2 : 2 ≤ r) (h3 : k + r ≤ 16) (h : halfE k la ≠ 0) :
    Calls Tryd.prog 13 #[.int .i64 k, .int .i64 r, .slice a la ca] w fun e w' => e = .returned (.tuple #[.slice none 0 0, .int .i64 (halfE k la)]) ∧ w = w' := by
  have HS : Hid _ := fun u => rsplit_bad k a la ca u h
  have h' : ((halfE k la : Int) != 0) = true := by simp only [bne_iff_ne, ne_eq]; omega
  generalize halfE k la = x at *
  clear h
  go_enter Tryd.func13, Tryd.ntmps13
  go_wp2_with fail
  refine Calls.mono (legal_yes k r _ h1 h2 h3) ?_
  rintro e w1 ⟨rfl, rfl⟩
  go_wp2_with fail
  refine Calls.mono (HS.out _) ?_
  rintro e w1 ⟨rfl, rfl⟩
  go_wp2_with fail
  go_ret2
  exact ⟨rfl, rfl⟩
set_option maxHeartbeats 4000000 in
theorem rencode_ok (k r n ca : Nat) (a : Option Addr) (xs : List F) (w : World) (h1 : 1 ≤ k) (h2 : 2 ≤ r) (h3 : k + r ≤ 16) (h4 : 1 ≤ n) (h5 : n ≤ 128 * k) (hn : n = xs.length) (hx : Row8 w a xs) :
    Calls Tryd.prog 13 #[.int .i64 k, .int .i64 r, .slice a n ca] w fun e w' => ∃ b c cap H, e = .returned (.tuple #[.slice b c cap, .int .i64 0]) ∧ c = 2 * (k + r) ∧ H = cntN (2 * k) n ∧ Rows8 w' b (encL k r H xs) ∧ Below w.heap.size w w' := by
  have HS : Hid _ := rsplit_ok k n ca a xs w h1 (by omega) h4 h5 hn hx
  obtain ⟨k1, k2, _, _⟩ := cnt_half h1 (show k ≤ 14 by omega) h4 h5
  obtain ⟨c, hc⟩ : ∃ c, c = 2 * (k + r) := ⟨_, rfl⟩
  have HKC : Hid ((2 : Int) * ((k : Int) + r) = c) := by show _ = _; omega
  have HCC : Hid _ := hc
  have hc32 : c ≤ 32 := by omega
  clear hn hx hc h5
  go_enter Tryd.func13, Tryd.ntmps13
  go_wp2_with fail
  refine Calls.mono (legal_yes k r _ h1 h2 h3) ?_
  rintro e w1 ⟨rfl, rfl⟩
  go_wp2_with fail
  refine Calls.mono HS.out ?_
  rintro e w2 ⟨b2, c2, cap2, H, rfl, hc2, hH, hr2, hb⟩
  have HC2 : Hid _ := hc2
  have HHH : Hid _ := hH
  have HB2 : Hid _ := hb
  have HR2 : Hid _ := hr2
  have kH : H ≤ 64 := by rw [hH]; exact k2
  have hc20 : 0 < c2 := by omega
  have HIM : Hid (∀ (h : Nat) (u : World), h < c → Below w2.heap.size w2 u → Calls Tryd.prog 23 #[.int .i64 k, .int .i64 r, .int .i64 h, .slice b2 c2 cap2, .int .i64 H] u fun e w' => ∃ g, e = .returned (.slice (some ⟨g, 0, none⟩) H H) ∧ u.heap.size ≤ g ∧
      w'.heap[g]? = some (.cells (vfs (imgL k (carN (groupN k r)) H (strD H xs) h)) 5 (0, 0)) ∧ Below u.heap.size u w') := fun h u hh hu => by
    have := rimage_F k r h H c2 cap2 b2 ((List.range c2).map (hf H xs)) u h1 h2 h3 (by rw [← HCC.out]; exact hh) kH (by simp; omega) (by simp) (by omega) (fun ys hy => by obtain ⟨v, _, rfl⟩ := List.mem_map.1 hy; exact hf_len _ _ _) (rows8_below hr2 hu)
    rwa [img_stripe (by omega)] at this
  obtain ⟨bL, off, rfl, hbL, hcl⟩ := rows8_at hr2 (show 0 < ((List.range c2).map (hf H xs)).length by simp; omega)
  obtain ⟨a0, cap0, e0, _⟩ := hcl 0 (hf H xs 0) (by rw [List.getElem?_map, List.getElem?_range hc20]; rfl)
  rw [hf_len, Nat.add_zero] at e0
  have HE0 : Hid _ := e0
  clear hc2 hH hb hr2 hcl e0
  go_wp2
  have hown : (w2.alloc (.cells #[] 22)).ownsRow w2.heap.size 22 1 (.slice (some ⟨w2.heap.size, 0, none⟩) 0 0) 0 (slsV H []) := ⟨rfl, .inr ⟨w2.heap.size, 0, #[], rfl, Nat.le_refl _, heap_alloc_last _ _, by simp, by simp [maxLen], rfl, rfl⟩⟩
  go_loopw [10, 11] (fun s t wr => ∃ v : Nat, ∃ gs : List Nat, v ≤ c ∧ t = .int .i64 v ∧ gs.length = v ∧ Below w2.heap.size w2 wr ∧ wr.ownsRow w2.heap.size 22 1 s v (slsV H gs) ∧ ∀ (j g : Nat), gs[j]? = some g → wr.heap[g]? = some (.cells (vfs (imgL k (carN (groupN k r)) H (strD H xs) j)) 5 (0, 0))) (fun _ t _ => c - (intOf t).toNat)
  case atStart => exact ⟨0, [], by omega, rfl, rfl, (Below.refl _ _).alloc (Nat.le_refl _) _, hown, fun j g h => by simp at h⟩
  case round =>
    obtain ⟨v, gs, hv, rfl, hgs, hb2, ho, hrows⟩ := hrel
    have HGS : Hid _ := hgs
    have HBR : Hid _ := hb2
    have HO : Hid _ := ho
    have HRO : Hid _ := hrows
    have hkc := HKC.out
    have c1 := cell_later hb2 HE0.out
    clear hgs hb2 hrows hown
    by_cases hlt : v < c
    · clear ho
      go_wp2_with fail
      refine Calls.mono (HIM.out v _ hlt HBR.out) ?_
      rintro e w3 ⟨N, rfl, hN, hh3, hb3⟩
      have hbR : Below w2.heap.size w2 w3 := HBR.out.trans (hb3.mono HBR.out.size)
      have ho4 := World.ownsRow.alloc (own_below HO.out hb3) (.cells #[.slice (some ⟨N, 0, none⟩) H H] 22)
      obtain ⟨g2, capG, w4, hrun, ho2, hgr, hor, hlt2⟩ := appendS (b := w3.heap.size) (c := 1) (x := .slice (some ⟨N, 0, none⟩) H H) 25 ho4 (cellAt (heap_alloc_last w3 (.cells #[.slice (some ⟨N, 0, none⟩) H H] 22)) 0 _ rfl) rfl (by omega) (by have := hbR.size; simp; omega)
      rw [slsV_snoc] at ho2
      have hb6 := below_own (B := w2.heap.size) (hbR.alloc hbR.size (.cells #[.slice (some ⟨N, 0, none⟩) H H] 22)) ho4 hgr (by have := hbR.size; simp; omega)
      have hkeep : ∀ (g : Nat) (ys : List F), w3.heap[g]? = some (.cells (vfs ys) 5 (0, 0)) → w4.heap[g]? = some (.cells (vfs ys) 5 (0, 0)) := fun g ys h =>
        own_other ho4 hgr ((Below.heap_alloc _ _ _ (ltHeap h)).trans h) (by decide)
      have HROW : Hid (∀ (j g : Nat), (gs ++ [N])[j]? = some g → w4.heap[g]? = some (.cells (vfs (imgL k (carN (groupN k r)) H (strD H xs) j)) 5 (0, 0))) := fun j g hj => by
        by_cases hjv : j < v
        · rw [List.getElem?_append_left (by rw [HGS.out]; exact hjv)] at hj
          exact hkeep g _ (heap_later (HRO.out j g hj) hb3)
        · have hj2 : j = v := by
            have := (List.getElem?_eq_some_iff.1 hj).1
            rw [List.length_append, HGS.out, List.length_singleton] at this
            omega
          subst hj2
          rw [List.getElem?_append_right (by rw [HGS.out]; exact Nat.le_refl _), HGS.out, Nat.sub_self] at hj
          obtain rfl := Option.some.inj hj
          exact hkeep _ _ hh3
      have HLEN : Hid ((gs ++ [N]).length = v + 1) := by show _ = _; rw [List.length_append, HGS.out]; rfl
      have HRun : Hid _ := hrun
      have HO2 : Hid _ := ho2
      have HB6 : Hid _ := hb6
      clear hbR ho4 hrun ho2 hb6 hgr hor hlt2 hkeep hb3 hh3 c1
      go_wp2_with (at_builtin; refine wpList_append_run rfl _ _ 25 rfl _ _ _ _ rfl rfl HRun.out ?_)
      exact ⟨⟨v + 1, gs ++ [N], by omega, by go_num, HLEN.out, HB6.out, HO2.out, HROW.out⟩, by simp [intOf]; omega⟩
    · obtain rfl : v = c := by omega
      have hfin : ∃ b cap, u10 = .slice b v cap ∧ Rows8 wr b (encL k r H xs) := by
        rcases ho.2 with ⟨_, h0⟩ | ⟨g, cap, cur, e, hg⟩
        · have := HCC.out; omega
        · refine ⟨some ⟨g, 0, none⟩, cap, e, .inr ⟨g, 0, rfl, fun j ys hj => ?_⟩⟩
          have hjv : j < v := by have := (List.getElem?_eq_some_iff.1 hj).1; rw [encL_len] at this; rw [HCC.out]; exact this
          rw [encL_at (by rw [← HCC.out]; exact hjv)] at hj
          obtain rfl := Option.some.inj hj
          obtain ⟨g', hg'⟩ : ∃ g', gs[j]? = some g' := ⟨_, List.getElem?_eq_getElem (by rw [HGS.out]; exact hjv)⟩
          have hrow := HRO.out j g' hg'
          have hoe := ho
          rw [e] at hoe
          refine ⟨some ⟨g', 0, none⟩, H, ?_, row8_own hrow⟩
          rw [Nat.zero_add, hoe.cellAt j (by rw [Nat.mul_one]; exact hjv), imgL_len]
          simp [slsV, hg']
      obtain ⟨b9, cap9, rfl, hr9⟩ := hfin
      have HR9 : Hid _ := hr9
      clear hr9 ho c1
      go_wp2
      go_ret2
      exact ⟨b9, v, cap9, H, rfl, HCC.out, HHH.out, HR9.out, HB2.out.trans (HBR.out.mono HB2.out.size)⟩
end Go.Proofs.YtmlpijlcpeoeaaaDoor

/- The walk of CodeFits: at all numbers and lists of halves. -/
namespace Go.Proofs.YtmlpijlcpeoeaaaDoor
open Go.RowKit Gf
set_option linter.unusedVariables false
set_option maxRecDepth 20000
set_option maxHeartbeats 4000000 in
theorem fitslaw_illegal (k r : Int) (l cap : Nat) (a : Option Addr) (w : World) (E : Nat → Addr) (hE : ErrsF w E) (hk0 : -9223372036854775808 ≤ k) (hk1 : k ≤ 9223372036854775807) (hr0 : -9223372036854775808 ≤ r) (hr1 : r ≤ 9223372036854775807) (hL : ¬ LegalP k r) :
    Calls Tryd.prog 5 #[.int .i64 k, .int .i64 r, .slice a l cap] w fun e w' => e = .returned (.bool true) ∧ Below w.heap.size w w' := by
  have HE : Hid (ErrsF w E) := hE
  have HF : Hid _ := fun u (hu : Below w.heap.size w u) => fits_illegal k r l cap a u E (errsF_below hE hu) hk0 hk1 hr0 hr1 hL
  have HG : Hid _ := fun u => legal_no k r u hk0 hk1 hr0 hr1 hL
  have HCP : Hid (∀ u, Below w.heap.size w u → u.cell? ⟨0, 0, none⟩ = some (errAt (E 0))) := fun u hu => (errsF_below HE.out hu).1.1
  clear hE hL
  unfold errAt at HF HCP
  go_enter Tryd.func5, Tryd.ntmps5
  go_wp2_with fail
  refine Calls.mono (alive7_ok _ E HE.out) ?_
  rintro e w1 ⟨rfl, hb⟩
  have HB1 : Hid (Below w.heap.size w w1) := hb
  clear hb
  go_wp2_with fail
  refine Calls.mono (HF.out _ HB1.out) ?_
  rintro e w2 ⟨rfl, hb⟩
  have HB2 : Hid (Below w.heap.size w w2) := HB1.out.trans (hb.mono HB1.out.size)
  clear hb
  go_wp2_with fail
  refine Calls.mono (HG.out _) ?_
  rintro e w3 ⟨rfl, rfl⟩
  have c9 := HCP.out _ HB2.out
  have eqs := fun u : World => eq_same u (E 0)
  go_wp2
  go_ret
  exact ⟨rfl, HB2.out⟩
set_option maxHeartbeats 4000000 in
theorem fitslaw_no (k r l cap H : Nat) (a : Option Addr) (L : List (List F)) (w : World) (E : Nat → Addr) (hE : ErrsF w E) (hE4 : w.cell? ⟨1, 0, none⟩ = some (errAt (E 4))) (h1 : 1 ≤ k) (h2 : 2 ≤ r) (h3 : k + r ≤ 16) (hl : l = L.length) (hl9 : l ≤ 140737488355328) (hcap : l ≤ cap) (hX : Rows8 w a L) (hb9 : ∀ xs ∈ L, xs.length ≤ 140737488355328) (hHL : H = (L.getD 0 []).length) (hno : ¬ FitsIn k r l L H) :
    Calls Tryd.prog 5 #[.int .i64 k, .int .i64 r, .slice a l cap] w fun e w' => e = .returned (.bool true) ∧ Below w.heap.size w w' := by
  have hlt4 := World.block_lt_of_cell? w _ hE4
  simp at hlt4
  have HE : Hid (ErrsF w E) := hE
  have HF : Hid _ := fun u (hu : Below w.heap.size w u) => fits_G k r l cap H a L u E (errsF_below hE hu) ((hu.cell (p := ⟨1, 0, none⟩) hlt4).trans hE4) h1 h2 h3 hl hl9 hcap (rows8_below hX hu) hb9 hHL
  have HG : Hid _ := fun u => legal_yes k r u h1 h2 h3
  have HCP : Hid (∀ u, Below w.heap.size w u → u.cell? ⟨1, 0, none⟩ = some (errAt (E 4))) := fun u hu => (hu.cell (p := ⟨1, 0, none⟩) hlt4).trans hE4
  have HL : Hid (l = L.length) := hl
  have HX : Hid (Rows8 w a L) := hX
  have HH : Hid (H = (L.getD 0 []).length) := hHL
  have HNO : Hid (¬ FitsIn k r l L H) := hno
  obtain ⟨cR, hcR⟩ : ∃ cR, cR = 2 * (k + r) := ⟨_, rfl⟩
  have t2 : (2 : Int) * ((k : Int) + (r : Int)) = (cR : Int) := by omega
  have HCR : Hid (cR = 2 * (k + r)) := hcR
  have hR6 : 6 ≤ cR := by omega
  have hR32 : cR ≤ 32 := by omega
  have HB9 : Hid (∀ xs ∈ L, xs.length ≤ 140737488355328) := hb9
  clear hE hX hl hHL hno hcR hE4 hb9
  unfold errAt at HF HCP
  go_enter Tryd.func5, Tryd.ntmps5
  go_wp2_with fail
  refine Calls.mono (alive7_ok _ E HE.out) ?_
  rintro e w1 ⟨rfl, hb⟩
  have HB1 : Hid (Below w.heap.size w w1) := hb
  clear hb
  go_wp2_with fail
  refine Calls.mono (HF.out _ HB1.out) ?_
  rintro e w2 (⟨_, rfl, hb⟩ | ⟨hyes, _⟩)
  · have HB2 : Hid (Below w.heap.size w w2) := HB1.out.trans (hb.mono HB1.out.size)
    clear hb
    go_wp2_with fail
    refine Calls.mono (HG.out _) ?_
    rintro e w3 ⟨rfl, rfl⟩
    have hbb : ∃ bb : Bool, ((l : Int) != (cR : Int)) = bb ∧ (bb = false → l = cR) := ⟨_, rfl, fun h => by simp only [bne_eq_false_iff_eq] at h; omega⟩
    obtain ⟨bb, hb1, hb2⟩ := hbb
    have HBB : Hid (bb = false → l = cR) := hb2
    clear hb2
    go_wp2
    go_loopw [9, 43] (fun s t wr => ∃ (j : Nat) (b : Bool), j ≤ l ∧ t = .int .i64 j ∧ s = .bool b ∧ wr = w2 ∧ (b = false → l = cR ∧ ∀ (q : Nat) (zs : List F), q < j → L[q]? = some zs → zs.length = H ∧ 1 ≤ zs.length ∧ zs.length ≤ 64)) (fun _ t _ => l - (intOf t).toNat)
    case atStart => exact ⟨0, bb, by omega, rfl, rfl, rfl, fun h => ⟨HBB.out h, fun q _ h => by omega⟩⟩
    case round =>
      obtain ⟨j, b, hj, rfl, rfl, rfl, hok⟩ := hrel
      have HOK : Hid (b = false → l = cR ∧ ∀ (q : Nat) (zs : List F), q < j → L[q]? = some zs → zs.length = H ∧ 1 ≤ zs.length ∧ zs.length ≤ 64) := hok
      clear hok hb1
      by_cases hlt : j < l
      · obtain ⟨zs, hzs⟩ : ∃ zs, L[j]? = some zs := ⟨_, List.getElem?_eq_getElem (by rw [← HL.out]; exact hlt)⟩
        obtain ⟨ys, hys⟩ : ∃ ys, L[0]? = some ys := ⟨_, List.getElem?_eq_getElem (by rw [← HL.out]; omega)⟩
        have hyl : ys.length = H := by rw [HH.out, List.getD_eq_getElem?_getD, hys]; rfl
        obtain ⟨bR, oR, rfl, _, hcR⟩ := rows8_at (rows8_below HX.out HB2.out) (List.getElem?_eq_some_iff.1 hzs).1
        obtain ⟨a0, c0, e0, _⟩ := hcR 0 ys hys
        obtain ⟨a1, c1, e1, _⟩ := hcR j zs hzs
        rw [hyl, Nat.add_zero] at e0
        have hzl := HB9.out zs (List.mem_of_getElem? hzs)
        have HZS : Hid (L[j]? = some zs) := hzs
        have hl0 : 0 < l := by omega
        have hHl : H ≤ 140737488355328 := by rw [← hyl]; exact HB9.out ys (List.mem_of_getElem? hys)
        clear hzs hys hyl hcR
        have hstep : zs.length = H → 1 ≤ zs.length → zs.length ≤ 64 → (b = false → l = cR ∧ ∀ (q : Nat) (zs : List F), q < j + 1 → L[q]? = some zs → zs.length = H ∧ 1 ≤ zs.length ∧ zs.length ≤ 64) := fun q1 q2 q3 h => ⟨(HOK.out h).1, fun q ws hq hws => by
          by_cases hqj : q < j
          · exact (HOK.out h).2 q ws hqj hws
          · obtain rfl : q = j := by omega
            rw [HZS.out] at hws
            obtain rfl := Option.some.inj hws
            exact ⟨q1, q2, q3⟩⟩
        have HST : Hid _ := hstep
        clear hstep
        cases b with
        | true =>
          go_wp2
          exact ⟨⟨j + 1, true, by omega, by go_num, by first | rfl | (simp; omega), by first | rfl | trivial, fun h => by cases h⟩, by simp [intOf]; omega⟩
        | false =>
          by_cases q1 : zs.length = H
          · have q1' : ((zs.length : Int) != (H : Int)) = false := by simp [q1]
            have Q1 : Hid (zs.length = H) := q1
            clear q1
            by_cases q2 : 1 ≤ zs.length
            · by_cases q3 : zs.length ≤ 64
              · go_wp2
                exact ⟨⟨j + 1, false, by omega, by go_num, by first | rfl | (simp; omega), by first | rfl | trivial, HST.out Q1.out q2 q3⟩, by simp [intOf]; omega⟩
              · go_wp2
                exact ⟨⟨j + 1, true, by omega, by go_num, by first | rfl | (simp; omega), by first | rfl | trivial, fun h => by cases h⟩, by simp [intOf]; omega⟩
            · go_wp2
              exact ⟨⟨j + 1, true, by omega, by go_num, by first | rfl | (simp; omega), by first | rfl | trivial, fun h => by cases h⟩, by simp [intOf]; omega⟩
          · have q1' : ((zs.length : Int) != (H : Int)) = true := by simp only [bne_iff_ne, ne_eq]; omega
            clear q1
            go_wp2
            exact ⟨⟨j + 1, true, by omega, by go_num, by first | rfl | (simp; omega), by first | rfl | trivial, fun h => by cases h⟩, by simp [intOf]; omega⟩
      · obtain rfl : j = l := by omega
        have hbt : b = true := by
          cases b with
          | true => rfl
          | false =>
            obtain ⟨e1, e2⟩ := HOK.out rfl
            refine absurd ⟨by rw [e1, HCR.out], ?_⟩ HNO.out
            obtain ⟨ys, hys⟩ : ∃ ys, L[0]? = some ys := ⟨_, List.getElem?_eq_getElem (by rw [← HL.out]; omega)⟩
            obtain ⟨_, p2, p3⟩ := e2 0 ys (by omega) hys
            have hyl : ys.length = H := by rw [HH.out, List.getD_eq_getElem?_getD, hys]; rfl
            refine ⟨by omega, by omega, fun xs hx => ?_⟩
            obtain ⟨q, hq⟩ := List.mem_iff_getElem?.1 hx
            exact (e2 q xs (by have := (List.getElem?_eq_some_iff.1 hq).1; rw [HL.out]; exact this) hq).1
        subst hbt
        have c9 := HCP.out _ HB2.out
        have eqs := fun u : World => eq_same u (E 4)
        go_wp2
        go_ret
        exact ⟨rfl, HB2.out⟩
  · exact absurd hyes HNO.out
set_option maxHeartbeats 4000000 in
theorem fitslaw_yes (k r l cap H : Nat) (a : Option Addr) (L : List (List F)) (w : World) (E : Nat → Addr) (hE : ErrsF w E) (hE4 : w.cell? ⟨1, 0, none⟩ = some (errAt (E 4))) (h1 : 1 ≤ k) (h2 : 2 ≤ r) (h3 : k + r ≤ 16) (hl : l = L.length) (hl9 : l ≤ 140737488355328) (hcap : l ≤ cap) (hX : Rows8 w a L) (hb9 : ∀ xs ∈ L, xs.length ≤ 140737488355328) (hHL : H = (L.getD 0 []).length) (hyes : FitsIn k r l L H) :
    Calls Tryd.prog 5 #[.int .i64 k, .int .i64 r, .slice a l cap] w fun e w' => e = .returned (.bool true) ∧ Below w.heap.size w w' := by
  have hlt4 := World.block_lt_of_cell? w _ hE4
  simp at hlt4
  have HE : Hid (ErrsF w E) := hE
  have HF : Hid _ := fun u (hu : Below w.heap.size w u) => fits_G k r l cap H a L u E (errsF_below hE hu) ((hu.cell (p := ⟨1, 0, none⟩) hlt4).trans hE4) h1 h2 h3 hl hl9 hcap (rows8_below hX hu) hb9 hHL
  have HG : Hid _ := fun u => legal_yes k r u h1 h2 h3
  have hYES : FitsIn k r l L H := hyes
  obtain ⟨hlR, hO1, hO2, hO3⟩ := hyes
  have HY : Hid (FitsIn k r l L H) := hYES
  have HIM : Hid _ := fun u (q : Nat) (hq : q < 2 * (k + r)) (hu : Rows8 u a L) => rimage_F k r q H l cap a L u h1 h2 h3 hq hO2 (by omega) hl hl9 hO3 hu
  have HL : Hid (l = L.length) := hl
  have HX : Hid (Rows8 w a L) := hX
  have HO3 : Hid (∀ xs ∈ L, xs.length = H) := hO3
  have t2 : (2 : Int) * ((k : Int) + (r : Int)) = (l : Int) := by omega
  have HCR : Hid (l = 2 * (k + r)) := hlR
  have hR6 : 6 ≤ l := by omega
  have hR32 : l ≤ 32 := by omega
  clear hE hX hl hHL hYES hlR hE4 hb9 hO3 hl9
  go_enter Tryd.func5, Tryd.ntmps5
  go_wp2_with fail
  refine Calls.mono (alive7_ok _ E HE.out) ?_
  rintro e w1 ⟨rfl, hb⟩
  have HB1 : Hid (Below w.heap.size w w1) := hb
  clear hb
  go_wp2_with fail
  refine Calls.mono (HF.out _ HB1.out) ?_
  rintro e w2 (⟨hno, _⟩ | ⟨_, rfl, hb⟩)
  · exact absurd HY.out hno
  · have HB2 : Hid (Below w.heap.size w w2) := HB1.out.trans (hb.mono HB1.out.size)
    obtain ⟨okb, hokb⟩ : ∃ b, b = decide (madeL k r H L = L) := ⟨_, rfl⟩
    rw [← hokb]
    have HOKB : Hid (okb = decide (madeL k r H L = L)) := hokb
    clear hb hokb
    go_wp2_with fail
    refine Calls.mono (HG.out _) ?_
    rintro e w3 ⟨rfl, rfl⟩
    have hbn : ((l : Int) != (l : Int)) = false := by simp
    go_wp2
    go_loopw [9, 43] (fun s t wr => ∃ (j : Nat), j ≤ l ∧ t = .int .i64 j ∧ s = .bool false ∧ wr = w2) (fun _ t _ => l - (intOf t).toNat)
    case atStart => exact ⟨0, by omega, rfl, rfl, rfl⟩
    case round =>
      obtain ⟨j, hj, rfl, rfl, rfl⟩ := hrel
      by_cases hlt : j < l
      · obtain ⟨zs, hzs⟩ : ∃ zs, L[j]? = some zs := ⟨_, List.getElem?_eq_getElem (by rw [← HL.out]; exact hlt)⟩
        obtain ⟨ys, hys⟩ : ∃ ys, L[0]? = some ys := ⟨_, List.getElem?_eq_getElem (by rw [← HL.out]; omega)⟩
        have hyl : ys.length = H := HO3.out ys (List.mem_of_getElem? hys)
        have hzl : zs.length = H := HO3.out zs (List.mem_of_getElem? hzs)
        obtain ⟨bR, oR, rfl, _, hcR⟩ := rows8_at (rows8_below HX.out HB2.out) (List.getElem?_eq_some_iff.1 hzs).1
        obtain ⟨a0, c0, e0, _⟩ := hcR 0 ys hys
        obtain ⟨a1, c1, e1, _⟩ := hcR j zs hzs
        rw [hyl, Nat.add_zero] at e0
        rw [hzl] at e1
        have hl0 : 0 < l := by omega
        have hHn : ((H : Int) != (H : Int)) = false := by simp
        clear hzs hys hyl hcR hzl
        go_wp2
        exact ⟨⟨j + 1, by omega, by go_num, by first | rfl | (simp; omega), by first | rfl | trivial⟩, by simp [intOf]; omega⟩
      · obtain rfl : l = j := by omega
        go_wp2
        generalize hwo : wr = wo at *
        clear hwo
        go_loopw [12, 78] (fun s t wr => ∃ (j : Nat) (b : Bool), j ≤ l ∧ t = .int .i64 j ∧ s = .bool b ∧ Below wo.heap.size wo wr ∧ (b = true ↔ ∀ q, q < j → L[q]? = some (imgL k (carN (groupN k r)) H (bytesD L) q))) (fun _ t _ => l - (intOf t).toNat)
        case atStart => exact ⟨0, true, by omega, rfl, rfl, Below.refl _ _, ⟨fun _ q h => by omega, fun _ => rfl⟩⟩
        case round =>
          obtain ⟨j, b, hj, rfl, rfl, hbw, hiff⟩ := hrel
          have HBW : Hid (Below wo.heap.size wo wr) := hbw
          have HIF : Hid (b = true ↔ ∀ q, q < j → L[q]? = some (imgL k (carN (groupN k r)) H (bytesD L) q)) := hiff
          clear hbw hiff
          by_cases hlt2 : j < l
          · obtain ⟨zs, hzs⟩ : ∃ zs, L[j]? = some zs := ⟨_, List.getElem?_eq_getElem (by rw [← HL.out]; exact hlt2)⟩
            have HZS : Hid (L[j]? = some zs) := hzs
            cases b with
            | false =>
              clear hzs
              go_upto_region 18 with fail
              have hR2 : Below wr.heap.size wr wr.drew := (Below.refl _ _).drew
              refine wp_region_noPanic ?_
              refine wp_region_held_drew (S := fun u => Below wr.heap.size wr u) (by kernel_rfl) ?_ (fun hHeld => ?_)
              · exact hR2
              refine wpAnyH_take (i := 0) (oi := { dst := some 81, op := Op.move (Operand.tmp 12), type := 4, pos := "law.go:102", after := #[], guard := none }) (v := ?_) rfl (by kernel_rfl) (by kernel_rfl) (by kernel_rfl) (fun _ _ _ h => h) (Or.inl ⟨by rfl, ?_⟩) hHeld ?_
              rotate_left
              · intro u hSw
                go_simp
                try with_reducible rfl
              try simp only [Act.put, List.setIfInBounds_toArray, List.set_cons_zero, List.set_cons_succ]
              refine wpAnyH_take (i := 1) (oi := { dst := some 82, op := Op.move (Operand.tmp 81), type := 4, pos := "law.go:102", after := #[{ on := 0, ground := Ground.data }], guard := none }) (v := ?_) rfl (by kernel_rfl) (by kernel_rfl) (by kernel_rfl) (fun _ _ _ h => h) (Or.inl ⟨by rfl, ?_⟩) hHeld ?_
              rotate_left
              · intro u hSw
                go_simp
                try with_reducible rfl
              try simp only [Act.put, List.setIfInBounds_toArray, List.set_cons_zero, List.set_cons_succ]
              refine wpAnyH_take (i := 2) (oi := { dst := some 83, op := Op.move (Operand.tmp 2), type := 25, pos := "law.go:102", after := #[{ on := 1, ground := Ground.guard }], guard := some (1, true) }) (v := undef) rfl (by kernel_rfl) (by kernel_rfl) (by kernel_rfl) (fun _ _ _ h => h) (Or.inr ⟨by rfl, rfl⟩) hHeld ?_
              try simp only [Act.put, List.setIfInBounds_toArray, List.set_cons_zero, List.set_cons_succ]
              refine wpAnyH_take (i := 3) (oi := { dst := some 84, op := Op.move (Operand.tmp 13), type := 3, pos := "law.go:102", after := #[{ on := 1, ground := Ground.guard }], guard := some (1, true) }) (v := undef) rfl (by kernel_rfl) (by kernel_rfl) (by kernel_rfl) (fun _ _ _ h => h) (Or.inr ⟨by rfl, rfl⟩) hHeld ?_
              try simp only [Act.put, List.setIfInBounds_toArray, List.set_cons_zero, List.set_cons_succ]
              refine wpAnyH_take (i := 4) (oi := { dst := some 85, op := Op.indexAddr 25 (Operand.tmp 83) (Operand.tmp 84), type := 0, pos := "law.go:102", after := #[{ on := 2, ground := Ground.data }, { on := 3, ground := Ground.data }, { on := 1, ground := Ground.guard }], guard := some (1, true) }) (v := undef) rfl (by kernel_rfl) (by kernel_rfl) (by kernel_rfl) (fun _ _ _ h => h) (Or.inr ⟨by rfl, rfl⟩) hHeld ?_
              try simp only [Act.put, List.setIfInBounds_toArray, List.set_cons_zero, List.set_cons_succ]
              refine wpAnyH_take (i := 5) (oi := { dst := some 86, op := Op.load 22 (Operand.tmp 85), type := 22, pos := "law.go:102", after := #[{ on := 4, ground := Ground.data }, { on := 1, ground := Ground.guard }], guard := some (1, true) }) (v := undef) rfl (by kernel_rfl) (by kernel_rfl) (by kernel_rfl) (fun _ _ _ h => h) (Or.inr ⟨by rfl, rfl⟩) hHeld ?_
              try simp only [Act.put, List.setIfInBounds_toArray, List.set_cons_zero, List.set_cons_succ]
              refine wpAnyH_take (i := 6) (oi := { dst := some 87, op := Op.convert 22 9 (Operand.tmp 86), type := 9, pos := "law.go:102", after := #[{ on := 5, ground := Ground.data }, { on := 1, ground := Ground.guard }], guard := some (1, true) }) (v := undef) rfl (by kernel_rfl) (by kernel_rfl) (by kernel_rfl) (fun _ _ _ h => h) (Or.inr ⟨by rfl, rfl⟩) hHeld ?_
              try simp only [Act.put, List.setIfInBounds_toArray, List.set_cons_zero, List.set_cons_succ]
              refine wpAnyH_take (i := 7) (oi := { dst := some 88, op := Op.move (Operand.tmp 0), type := 3, pos := "law.go:102", after := #[{ on := 1, ground := Ground.guard }], guard := some (1, true) }) (v := undef) rfl (by kernel_rfl) (by kernel_rfl) (by kernel_rfl) (fun _ _ _ h => h) (Or.inr ⟨by rfl, rfl⟩) hHeld ?_
              try simp only [Act.put, List.setIfInBounds_toArray, List.set_cons_zero, List.set_cons_succ]
              refine wpAnyH_take (i := 8) (oi := { dst := some 89, op := Op.move (Operand.tmp 1), type := 3, pos := "law.go:102", after := #[{ on := 1, ground := Ground.guard }], guard := some (1, true) }) (v := undef) rfl (by kernel_rfl) (by kernel_rfl) (by kernel_rfl) (fun _ _ _ h => h) (Or.inr ⟨by rfl, rfl⟩) hHeld ?_
              try simp only [Act.put, List.setIfInBounds_toArray, List.set_cons_zero, List.set_cons_succ]
              refine wpAnyH_take (i := 9) (oi := { dst := some 90, op := Op.move (Operand.tmp 13), type := 3, pos := "law.go:102", after := #[{ on := 1, ground := Ground.guard }], guard := some (1, true) }) (v := undef) rfl (by kernel_rfl) (by kernel_rfl) (by kernel_rfl) (fun _ _ _ h => h) (Or.inr ⟨by rfl, rfl⟩) hHeld ?_
              try simp only [Act.put, List.setIfInBounds_toArray, List.set_cons_zero, List.set_cons_succ]
              refine wpAnyH_take (i := 10) (oi := { dst := some 91, op := Op.move (Operand.tmp 2), type := 25, pos := "law.go:102", after := #[{ on := 1, ground := Ground.guard }], guard := some (1, true) }) (v := undef) rfl (by kernel_rfl) (by kernel_rfl) (by kernel_rfl) (fun _ _ _ h => h) (Or.inr ⟨by rfl, rfl⟩) hHeld ?_
              try simp only [Act.put, List.setIfInBounds_toArray, List.set_cons_zero, List.set_cons_succ]
              refine wpAnyH_take (i := 11) (oi := { dst := some 92, op := Op.move (Operand.tmp 2), type := 25, pos := "law.go:102", after := #[{ on := 1, ground := Ground.guard }], guard := some (1, true) }) (v := undef) rfl (by kernel_rfl) (by kernel_rfl) (by kernel_rfl) (fun _ _ _ h => h) (Or.inr ⟨by rfl, rfl⟩) hHeld ?_
              try simp only [Act.put, List.setIfInBounds_toArray, List.set_cons_zero, List.set_cons_succ]
              refine wpAnyH_take (i := 12) (oi := { dst := some 93, op := Op.indexAddr 25 (Operand.tmp 92) (Operand.const (Value.int IntKind.i64 0)), type := 0, pos := "law.go:102", after := #[{ on := 11, ground := Ground.data }, { on := 1, ground := Ground.guard }], guard := some (1, true) }) (v := undef) rfl (by kernel_rfl) (by kernel_rfl) (by kernel_rfl) (fun _ _ _ h => h) (Or.inr ⟨by rfl, rfl⟩) hHeld ?_
              try simp only [Act.put, List.setIfInBounds_toArray, List.set_cons_zero, List.set_cons_succ]
              refine wpAnyH_take (i := 13) (oi := { dst := some 94, op := Op.load 22 (Operand.tmp 93), type := 22, pos := "law.go:102", after := #[{ on := 12, ground := Ground.data }, { on := 1, ground := Ground.guard }], guard := some (1, true) }) (v := undef) rfl (by kernel_rfl) (by kernel_rfl) (by kernel_rfl) (fun _ _ _ h => h) (Or.inr ⟨by rfl, rfl⟩) hHeld ?_
              try simp only [Act.put, List.setIfInBounds_toArray, List.set_cons_zero, List.set_cons_succ]
              refine wpAnyH_take (i := 14) (oi := { dst := some 95, op := Op.call { callee := Callee.builtin Builtin.len, args := #[Operand.tmp 94], argTypes := #[22] }, type := 3, pos := "law.go:102", after := #[{ on := 13, ground := Ground.data }, { on := 1, ground := Ground.guard }], guard := some (1, true) }) (v := undef) rfl (by kernel_rfl) (by kernel_rfl) (by kernel_rfl) (fun _ _ _ h => h) (Or.inr ⟨by rfl, rfl⟩) hHeld ?_
              try simp only [Act.put, List.setIfInBounds_toArray, List.set_cons_zero, List.set_cons_succ]
              refine wpAnyH_take (i := 15) (oi := { dst := some 96, op := Op.call { callee := Callee.value (Operand.func 23), args := #[Operand.tmp 88, Operand.tmp 89, Operand.tmp 90, Operand.tmp 91, Operand.tmp 95], argTypes := #[3, 3, 3, 25, 3] }, type := 22, pos := "law.go:102", after := #[{ on := 7, ground := Ground.data }, { on := 8, ground := Ground.data }, { on := 9, ground := Ground.data }, { on := 10, ground := Ground.data }, { on := 14, ground := Ground.data }, { on := 1, ground := Ground.chain }, { on := 1, ground := Ground.guard }], guard := some (1, true) }) (v := undef) rfl (by kernel_rfl) (by kernel_rfl) (by kernel_rfl) (fun _ _ _ h => h) (Or.inr ⟨by rfl, rfl⟩) hHeld ?_
              try simp only [Act.put, List.setIfInBounds_toArray, List.set_cons_zero, List.set_cons_succ]
              refine wpAnyH_take (i := 16) (oi := { dst := some 97, op := Op.convert 22 9 (Operand.tmp 96), type := 9, pos := "law.go:102", after := #[{ on := 15, ground := Ground.data }, { on := 1, ground := Ground.guard }], guard := some (1, true) }) (v := undef) rfl (by kernel_rfl) (by kernel_rfl) (by kernel_rfl) (fun _ _ _ h => h) (Or.inr ⟨by rfl, rfl⟩) hHeld ?_
              try simp only [Act.put, List.setIfInBounds_toArray, List.set_cons_zero, List.set_cons_succ]
              refine wpAnyH_take (i := 17) (oi := { dst := some 98, op := Op.binOp BinOp.eql 9 (Operand.tmp 87) (Operand.tmp 97) 9, type := 4, pos := "law.go:102", after := #[{ on := 6, ground := Ground.data }, { on := 16, ground := Ground.data }, { on := 1, ground := Ground.guard }], guard := some (1, true) }) (v := undef) rfl (by kernel_rfl) (by kernel_rfl) (by kernel_rfl) (fun _ _ _ h => h) (Or.inr ⟨by rfl, rfl⟩) hHeld ?_
              try simp only [Act.put, List.setIfInBounds_toArray, List.set_cons_zero, List.set_cons_succ]
              refine wpAnyH_take (i := 18) (oi := { dst := some 99, op := Op.pick (Operand.tmp 82) (Operand.tmp 98) (Operand.const (Value.bool false)), type := 4, pos := "law.go:102", after := #[{ on := 1, ground := Ground.data }, { on := 17, ground := Ground.data }], guard := none }) (v := ?_) rfl (by kernel_rfl) (by kernel_rfl) (by kernel_rfl) (fun _ _ _ h => h) (Or.inl ⟨by rfl, ?_⟩) hHeld ?_
              rotate_left
              · intro u hSw
                go_simp
                try with_reducible rfl
              try simp only [Act.put, List.setIfInBounds_toArray, List.set_cons_zero, List.set_cons_succ]
              refine wpAnyH_take (i := 19) (oi := { dst := some 12, op := Op.assign (Operand.tmp 99), type := 4, pos := "law.go:102", after := #[{ on := 18, ground := Ground.data }, { on := 15, ground := Ground.chain }, { on := 0, ground := Ground.phase }, { on := 1, ground := Ground.phase }, { on := 2, ground := Ground.phase }, { on := 3, ground := Ground.phase }, { on := 4, ground := Ground.phase }, { on := 5, ground := Ground.phase }, { on := 6, ground := Ground.phase }, { on := 7, ground := Ground.phase }, { on := 8, ground := Ground.phase }, { on := 9, ground := Ground.phase }, { on := 10, ground := Ground.phase }, { on := 11, ground := Ground.phase }, { on := 12, ground := Ground.phase }, { on := 13, ground := Ground.phase }, { on := 14, ground := Ground.phase }, { on := 15, ground := Ground.phase }, { on := 16, ground := Ground.phase }, { on := 17, ground := Ground.phase }, { on := 18, ground := Ground.phase }], guard := none }) (v := ?_) rfl (by kernel_rfl) (by kernel_rfl) (by kernel_rfl) (fun _ _ _ h => h) (Or.inl ⟨by rfl, ?_⟩) hHeld ?_
              rotate_left
              · intro u hSw
                go_simp
                try with_reducible rfl
              try simp only [Act.put, List.setIfInBounds_toArray, List.set_cons_zero, List.set_cons_succ]
              refine wpAnyH_done (by kernel_rfl) ?_ _
              refine NoPanic.normal ?_
              go_wp2
              exact ⟨⟨j + 1, false, by omega, by go_num, rfl, HBW.out.trans (hR2.mono HBW.out.size), ⟨fun h => (by cases h), fun h => HIF.out.2 fun q hq => h q (by omega)⟩⟩, by simp [intOf]; omega⟩
            | true =>
              obtain ⟨ys, hys⟩ : ∃ ys, L[0]? = some ys := ⟨_, List.getElem?_eq_getElem (by rw [← HL.out]; omega)⟩
              have hyl : ys.length = H := HO3.out ys (List.mem_of_getElem? hys)
              have hzl : zs.length = H := HO3.out zs (List.mem_of_getElem? hzs)
              have HBT : Hid (Below w.heap.size w wr) := HB2.out.trans (HBW.out.mono HB2.out.size)
              have hXr := rows8_below HX.out HBT.out
              have HXr : Hid (∀ u, Below wr.heap.size wr u → Rows8 u a L) := fun u hu => rows8_below hXr hu
              obtain ⟨bR, oR, rfl, _, hcR⟩ := rows8_at hXr (List.getElem?_eq_some_iff.1 hzs).1
              obtain ⟨a0, c0, e0, _⟩ := hcR 0 ys hys
              obtain ⟨a1, c1, e1, r1⟩ := hcR j zs hzs
              rw [hyl, Nat.add_zero] at e0
              rw [hzl] at e1
              have C0 : ∀ u, Below wr.heap.size wr u → u.cell? ⟨bR, oR, none⟩ = some (.slice a0 H c0) := fun u hu => cell_later hu e0
              have C1 : ∀ u, Below wr.heap.size wr u → u.cell? ⟨bR, oR + j, none⟩ = some (.slice a1 H c1) := fun u hu => cell_later hu e1
              have kA : ∀ u, Below wr.heap.size wr u → (convert 22 9 (.slice a1 H c1)).run Tryd.prog u = .ok (.string (str8 zs)) u := fun u hu => conv8 hzl.symm (row8_below r1 hu)
              have hl0 : 0 < l := by omega
              have hjR : j < 2 * (k + r) := by rw [← HCR.out]; exact hlt2
              clear hzs hys hyl hcR hzl r1 hXr e0 e1
              go_upto_region 18 with fail
              have hR2 : Below wr.heap.size wr wr.drew := (Below.refl _ _).drew
              refine wp_region_noPanic ?_
              refine wp_region_held_drew (S := fun u => Below wr.heap.size wr u) (by kernel_rfl) ?_ (fun hHeld => ?_)
              · exact hR2
              refine wpAnyH_take (i := 0) (oi := { dst := some 81, op := Op.move (Operand.tmp 12), type := 4, pos := "law.go:102", after := #[], guard := none }) (v := ?_) rfl (by kernel_rfl) (by kernel_rfl) (by kernel_rfl) (fun _ _ _ h => h) (Or.inl ⟨by rfl, ?_⟩) hHeld ?_
              rotate_left
              · intro u hSw
                go_simp
                try with_reducible rfl
              try simp only [Act.put, List.setIfInBounds_toArray, List.set_cons_zero, List.set_cons_succ]
              refine wpAnyH_take (i := 1) (oi := { dst := some 82, op := Op.move (Operand.tmp 81), type := 4, pos := "law.go:102", after := #[{ on := 0, ground := Ground.data }], guard := none }) (v := ?_) rfl (by kernel_rfl) (by kernel_rfl) (by kernel_rfl) (fun _ _ _ h => h) (Or.inl ⟨by rfl, ?_⟩) hHeld ?_
              rotate_left
              · intro u hSw
                go_simp
                try with_reducible rfl
              try simp only [Act.put, List.setIfInBounds_toArray, List.set_cons_zero, List.set_cons_succ]
              refine wpAnyH_take (i := 2) (oi := { dst := some 83, op := Op.move (Operand.tmp 2), type := 25, pos := "law.go:102", after := #[{ on := 1, ground := Ground.guard }], guard := some (1, true) }) (v := ?_) rfl (by kernel_rfl) (by kernel_rfl) (by kernel_rfl) (fun _ _ _ h => h) (Or.inl ⟨by rfl, ?_⟩) hHeld ?_
              rotate_left
              · intro u hSw
                go_simp
                try with_reducible rfl
              try simp only [Act.put, List.setIfInBounds_toArray, List.set_cons_zero, List.set_cons_succ]
              refine wpAnyH_take (i := 3) (oi := { dst := some 84, op := Op.move (Operand.tmp 13), type := 3, pos := "law.go:102", after := #[{ on := 1, ground := Ground.guard }], guard := some (1, true) }) (v := ?_) rfl (by kernel_rfl) (by kernel_rfl) (by kernel_rfl) (fun _ _ _ h => h) (Or.inl ⟨by rfl, ?_⟩) hHeld ?_
              rotate_left
              · intro u hSw
                go_simp
                try with_reducible rfl
              try simp only [Act.put, List.setIfInBounds_toArray, List.set_cons_zero, List.set_cons_succ]
              refine wpAnyH_take (i := 4) (oi := { dst := some 85, op := Op.indexAddr 25 (Operand.tmp 83) (Operand.tmp 84), type := 0, pos := "law.go:102", after := #[{ on := 2, ground := Ground.data }, { on := 3, ground := Ground.data }, { on := 1, ground := Ground.guard }], guard := some (1, true) }) (v := ?_) rfl (by kernel_rfl) (by kernel_rfl) (by kernel_rfl) (fun _ _ _ h => h) (Or.inl ⟨by rfl, ?_⟩) hHeld ?_
              rotate_left
              · intro u hSw
                go_simp
                try with_reducible rfl
              try simp only [Act.put, List.setIfInBounds_toArray, List.set_cons_zero, List.set_cons_succ]
              refine wpAnyH_take (i := 5) (oi := { dst := some 86, op := Op.load 22 (Operand.tmp 85), type := 22, pos := "law.go:102", after := #[{ on := 4, ground := Ground.data }, { on := 1, ground := Ground.guard }], guard := some (1, true) }) (v := ?_) rfl (by kernel_rfl) (by kernel_rfl) (by kernel_rfl) (fun _ _ _ h => h) (Or.inl ⟨by rfl, ?_⟩) hHeld ?_
              rotate_left
              · intro u hSw
                go_simp
                try with_reducible rfl
              try simp only [Act.put, List.setIfInBounds_toArray, List.set_cons_zero, List.set_cons_succ]
              refine wpAnyH_take (i := 6) (oi := { dst := some 87, op := Op.convert 22 9 (Operand.tmp 86), type := 9, pos := "law.go:102", after := #[{ on := 5, ground := Ground.data }, { on := 1, ground := Ground.guard }], guard := some (1, true) }) (v := ?_) rfl (by kernel_rfl) (by kernel_rfl) (by kernel_rfl) (fun _ _ _ h => h) (Or.inl ⟨by rfl, ?_⟩) hHeld ?_
              rotate_left
              · intro u hSw
                go_simp
                try with_reducible rfl
              try simp only [Act.put, List.setIfInBounds_toArray, List.set_cons_zero, List.set_cons_succ]
              refine wpAnyH_take (i := 7) (oi := { dst := some 88, op := Op.move (Operand.tmp 0), type := 3, pos := "law.go:102", after := #[{ on := 1, ground := Ground.guard }], guard := some (1, true) }) (v := ?_) rfl (by kernel_rfl) (by kernel_rfl) (by kernel_rfl) (fun _ _ _ h => h) (Or.inl ⟨by rfl, ?_⟩) hHeld ?_
              rotate_left
              · intro u hSw
                go_simp
                try with_reducible rfl
              try simp only [Act.put, List.setIfInBounds_toArray, List.set_cons_zero, List.set_cons_succ]
              refine wpAnyH_take (i := 8) (oi := { dst := some 89, op := Op.move (Operand.tmp 1), type := 3, pos := "law.go:102", after := #[{ on := 1, ground := Ground.guard }], guard := some (1, true) }) (v := ?_) rfl (by kernel_rfl) (by kernel_rfl) (by kernel_rfl) (fun _ _ _ h => h) (Or.inl ⟨by rfl, ?_⟩) hHeld ?_
              rotate_left
              · intro u hSw
                go_simp
                try with_reducible rfl
              try simp only [Act.put, List.setIfInBounds_toArray, List.set_cons_zero, List.set_cons_succ]
              refine wpAnyH_take (i := 9) (oi := { dst := some 90, op := Op.move (Operand.tmp 13), type := 3, pos := "law.go:102", after := #[{ on := 1, ground := Ground.guard }], guard := some (1, true) }) (v := ?_) rfl (by kernel_rfl) (by kernel_rfl) (by kernel_rfl) (fun _ _ _ h => h) (Or.inl ⟨by rfl, ?_⟩) hHeld ?_
              rotate_left
              · intro u hSw
                go_simp
                try with_reducible rfl
              try simp only [Act.put, List.setIfInBounds_toArray, List.set_cons_zero, List.set_cons_succ]
              refine wpAnyH_take (i := 10) (oi := { dst := some 91, op := Op.move (Operand.tmp 2), type := 25, pos := "law.go:102", after := #[{ on := 1, ground := Ground.guard }], guard := some (1, true) }) (v := ?_) rfl (by kernel_rfl) (by kernel_rfl) (by kernel_rfl) (fun _ _ _ h => h) (Or.inl ⟨by rfl, ?_⟩) hHeld ?_
              rotate_left
              · intro u hSw
                go_simp
                try with_reducible rfl
              try simp only [Act.put, List.setIfInBounds_toArray, List.set_cons_zero, List.set_cons_succ]
              refine wpAnyH_take (i := 11) (oi := { dst := some 92, op := Op.move (Operand.tmp 2), type := 25, pos := "law.go:102", after := #[{ on := 1, ground := Ground.guard }], guard := some (1, true) }) (v := ?_) rfl (by kernel_rfl) (by kernel_rfl) (by kernel_rfl) (fun _ _ _ h => h) (Or.inl ⟨by rfl, ?_⟩) hHeld ?_
              rotate_left
              · intro u hSw
                go_simp
                try with_reducible rfl
              try simp only [Act.put, List.setIfInBounds_toArray, List.set_cons_zero, List.set_cons_succ]
              refine wpAnyH_take (i := 12) (oi := { dst := some 93, op := Op.indexAddr 25 (Operand.tmp 92) (Operand.const (Value.int IntKind.i64 0)), type := 0, pos := "law.go:102", after := #[{ on := 11, ground := Ground.data }, { on := 1, ground := Ground.guard }], guard := some (1, true) }) (v := ?_) rfl (by kernel_rfl) (by kernel_rfl) (by kernel_rfl) (fun _ _ _ h => h) (Or.inl ⟨by rfl, ?_⟩) hHeld ?_
              rotate_left
              · intro u hSw
                go_simp
                try with_reducible rfl
              try simp only [Act.put, List.setIfInBounds_toArray, List.set_cons_zero, List.set_cons_succ]
              refine wpAnyH_take (i := 13) (oi := { dst := some 94, op := Op.load 22 (Operand.tmp 93), type := 22, pos := "law.go:102", after := #[{ on := 12, ground := Ground.data }, { on := 1, ground := Ground.guard }], guard := some (1, true) }) (v := ?_) rfl (by kernel_rfl) (by kernel_rfl) (by kernel_rfl) (fun _ _ _ h => h) (Or.inl ⟨by rfl, ?_⟩) hHeld ?_
              rotate_left
              · intro u hSw
                go_simp
                try with_reducible rfl
              try simp only [Act.put, List.setIfInBounds_toArray, List.set_cons_zero, List.set_cons_succ]
              refine wpAnyH_take (i := 14) (oi := { dst := some 95, op := Op.call { callee := Callee.builtin Builtin.len, args := #[Operand.tmp 94], argTypes := #[22] }, type := 3, pos := "law.go:102", after := #[{ on := 13, ground := Ground.data }, { on := 1, ground := Ground.guard }], guard := some (1, true) }) (v := ?_) rfl (by kernel_rfl) (by kernel_rfl) (by kernel_rfl) (fun _ _ _ h => h) (Or.inl ⟨by rfl, ?_⟩) hHeld ?_
              rotate_left
              · intro u hSw
                go_simp
                try with_reducible rfl
              try simp only [Act.put, List.setIfInBounds_toArray, List.set_cons_zero, List.set_cons_succ]
              refine wpAnyH_ready (rs := [15]) (by kernel_rfl) (by simp) ?_
              refine AllReadyH.cons (o := { dst := some 96, op := Op.call { callee := Callee.value (Operand.func 23), args := #[Operand.tmp 88, Operand.tmp 89, Operand.tmp 90, Operand.tmp 91, Operand.tmp 95], argTypes := #[3, 3, 3, 25, 3] }, type := 22, pos := "law.go:102", after := #[{ on := 7, ground := Ground.data }, { on := 8, ground := Ground.data }, { on := 9, ground := Ground.data }, { on := 10, ground := Ground.data }, { on := 14, ground := Ground.data }, { on := 1, ground := Ground.chain }, { on := 1, ground := Ground.guard }], guard := some (1, true) }) rfl (fun K hK => ?_) AllReadyH.nil
              go_simp
              refine Calls.mono (HIM.out _ j hjR (HXr.out _ hHeld)) ?_
              rintro e wi ⟨gI, rfl, hgI, hhI, hbI⟩
              have hTi : Below wr.heap.size wr wi := hHeld.trans (hbI.mono (below_size hHeld))
              have kI : ∀ u, Below wi.heap.size wi u → (convert 22 9 (.slice (some ⟨gI, 0, none⟩) H H)).run Tryd.prog u = .ok (.string (str8 (imgL k (carN (groupN k r)) H (bytesD L) j))) u := fun u hu => conv8 (imgL_len _ _ _ _ _).symm (row8_below (row8_own hhI) hu)
              have ex := str8_eqB zs (imgL k (carN (groupN k r)) H (bytesD L) j)
              clear hgI hhI hbI
              go_wp2_with fail
              refine hK.out _ _ ?_ (fun hHeld => ?_)
              · exact hTi
              clear hK K
              try simp only [Act.put, List.setIfInBounds_toArray, List.set_cons_zero, List.set_cons_succ]
              refine wpAnyH_here hHeld ?_
              clear hHeld
              have hHeld : Below wi.heap.size wi wi := Below.refl _ _
              refine wpAnyH_take (i := 16) (oi := { dst := some 97, op := Op.convert 22 9 (Operand.tmp 96), type := 9, pos := "law.go:102", after := #[{ on := 15, ground := Ground.data }, { on := 1, ground := Ground.guard }], guard := some (1, true) }) (v := ?_) rfl (by kernel_rfl) (by kernel_rfl) (by kernel_rfl) (fun _ _ _ h => h) (Or.inl ⟨by rfl, ?_⟩) hHeld ?_
              rotate_left
              · intro u hSw
                go_simp
                try with_reducible rfl
              try simp only [Act.put, List.setIfInBounds_toArray, List.set_cons_zero, List.set_cons_succ]
              refine wpAnyH_take (i := 17) (oi := { dst := some 98, op := Op.binOp BinOp.eql 9 (Operand.tmp 87) (Operand.tmp 97) 9, type := 4, pos := "law.go:102", after := #[{ on := 6, ground := Ground.data }, { on := 16, ground := Ground.data }, { on := 1, ground := Ground.guard }], guard := some (1, true) }) (v := ?_) rfl (by kernel_rfl) (by kernel_rfl) (by kernel_rfl) (fun _ _ _ h => h) (Or.inl ⟨by rfl, ?_⟩) hHeld ?_
              rotate_left
              · intro u hSw
                go_simp
                try with_reducible rfl
              try simp only [Act.put, List.setIfInBounds_toArray, List.set_cons_zero, List.set_cons_succ]
              refine wpAnyH_take (i := 18) (oi := { dst := some 99, op := Op.pick (Operand.tmp 82) (Operand.tmp 98) (Operand.const (Value.bool false)), type := 4, pos := "law.go:102", after := #[{ on := 1, ground := Ground.data }, { on := 17, ground := Ground.data }], guard := none }) (v := ?_) rfl (by kernel_rfl) (by kernel_rfl) (by kernel_rfl) (fun _ _ _ h => h) (Or.inl ⟨by rfl, ?_⟩) hHeld ?_
              rotate_left
              · intro u hSw
                go_simp
                try with_reducible rfl
              try simp only [Act.put, List.setIfInBounds_toArray, List.set_cons_zero, List.set_cons_succ]
              refine wpAnyH_take (i := 19) (oi := { dst := some 12, op := Op.assign (Operand.tmp 99), type := 4, pos := "law.go:102", after := #[{ on := 18, ground := Ground.data }, { on := 15, ground := Ground.chain }, { on := 0, ground := Ground.phase }, { on := 1, ground := Ground.phase }, { on := 2, ground := Ground.phase }, { on := 3, ground := Ground.phase }, { on := 4, ground := Ground.phase }, { on := 5, ground := Ground.phase }, { on := 6, ground := Ground.phase }, { on := 7, ground := Ground.phase }, { on := 8, ground := Ground.phase }, { on := 9, ground := Ground.phase }, { on := 10, ground := Ground.phase }, { on := 11, ground := Ground.phase }, { on := 12, ground := Ground.phase }, { on := 13, ground := Ground.phase }, { on := 14, ground := Ground.phase }, { on := 15, ground := Ground.phase }, { on := 16, ground := Ground.phase }, { on := 17, ground := Ground.phase }, { on := 18, ground := Ground.phase }], guard := none }) (v := ?_) rfl (by kernel_rfl) (by kernel_rfl) (by kernel_rfl) (fun _ _ _ h => h) (Or.inl ⟨by rfl, ?_⟩) hHeld ?_
              rotate_left
              · intro u hSw
                go_simp
                try with_reducible rfl
              try simp only [Act.put, List.setIfInBounds_toArray, List.set_cons_zero, List.set_cons_succ]
              refine wpAnyH_done (by kernel_rfl) ?_ _
              refine NoPanic.normal ?_
              have HT : Hid (Below wo.heap.size wo wi) := HBW.out.trans (hTi.mono HBW.out.size)
              have HEQ : Hid (eqB zs (imgL k (carN (groupN k r)) H (bytesD L) j) = true ↔ L[j]? = some (imgL k (carN (groupN k r)) H (bytesD L) j)) := by
                show _ ↔ _
                rw [HZS.out, eqB, decide_eq_true_iff, Option.some.injEq]
              generalize eqB zs (imgL k (carN (groupN k r)) H (bytesD L) j) = b9 at *
              clear C0 C1 kA hTi hHeld kI ex
              go_wp2
              refine ⟨⟨j + 1, b9, by omega, by go_num, rfl, HT.out, ⟨fun h q hq => ?_, fun h => HEQ.out.2 (h j (by omega))⟩⟩, by simp [intOf]; omega⟩
              by_cases hqj : q < j
              · exact HIF.out.1 (by first | rfl | trivial) q hqj
              · obtain rfl : q = j := by omega
                exact HEQ.out.1 h
          · obtain rfl : l = j := by omega
            have hbe : b = okb := by
              rw [HOKB.out, Bool.eq_iff_iff, HIF.out, decide_eq_true_iff]
              refine ⟨fun h => List.ext_getElem? fun q => ?_, fun h q hq => ?_⟩
              · by_cases hq : q < l
                · rw [h q hq, madeL, List.getElem?_map, List.getElem?_range (by rw [← HCR.out]; exact hq)]; rfl
                · rw [List.getElem?_eq_none (by simp [madeL, ← HCR.out]; omega), List.getElem?_eq_none (by rw [← HL.out]; omega)]
              · rw [← h, madeL, List.getElem?_map, List.getElem?_range (by rw [← HCR.out]; exact hq)]; rw [show (List.range (2 * (k + r))).map (imgL k (carN (groupN k r)) H (bytesD L)) = L from h]; rfl
            have hbb : (okb == b) = true := by rw [hbe]; simp
            have HT : Hid (Below w.heap.size w wr) := HB2.out.trans (HBW.out.mono HB2.out.size)
            clear hbe
            go_wp2
            go_ret
            exact ⟨rfl, HT.out⟩
theorem fitslaw_all (k r : Int) (l cap : Nat) (a : Option Addr) (L : List (List F)) (w : World) (E : Nat → Addr) (hE : ErrsF w E) (hE4 : w.cell? ⟨1, 0, none⟩ = some (errAt (E 4))) (hk0 : -9223372036854775808 ≤ k) (hk1 : k ≤ 9223372036854775807) (hr0 : -9223372036854775808 ≤ r) (hr1 : r ≤ 9223372036854775807) (hl : l = L.length) (hl9 : l ≤ 5864062014634) (hcap : l ≤ cap) (hX : RowsB w a L) :
    Calls Tryd.prog 5 #[.int .i64 k, .int .i64 r, .slice a l cap] w fun e w' => e = .returned (.bool true) ∧ Below w.heap.size w w' := by
  by_cases hL : LegalP k r
  · obtain ⟨p, q, rfl, rfl, h1, h2, h3⟩ := legal_nat hL
    have hb9 : ∀ xs ∈ L, xs.length ≤ 140737488355328 := fun xs hx => by
      rcases hX with rfl | ⟨b, off, _, h⟩
      · cases hx
      · obtain ⟨j, hj⟩ := List.mem_iff_getElem?.1 hx
        obtain ⟨_, _, _, _, h3, h4, _⟩ := h j xs hj
        omega
    by_cases hf : FitsIn p q l L (L.getD 0 []).length
    · exact fitslaw_yes p q l cap _ a L w E hE hE4 h1 h2 h3 hl (by omega) hcap (rowsB_rows hX) hb9 rfl hf
    · exact fitslaw_no p q l cap _ a L w E hE hE4 h1 h2 h3 hl (by omega) hcap (rowsB_rows hX) hb9 rfl hf
  · exact fitslaw_illegal k r l cap a w E hE hk0 hk1 hr0 hr1 hL
end Go.Proofs.YtmlpijlcpeoeaaaDoor

/- The law CodeFits holds where what comes in is of bulk at most 1048576: Fits of package code answers as the chapter says, at all numbers and lists of halves; no other condition but what the card ties. -/
namespace Go.Proofs.YtmlpijlcpeoeaaaDoor.codeFits
open Go.ChangeShapes Go.WideShapes Go.ChangeAt Go.RowKit
open Go.ChangeMaps (open_string shut_string)
open Gf
set_option linter.unusedVariables false
theorem errs {W : World} (h : laidMetH Tryd.prog Rows.codeFitsUptoRow.laid W) : ∃ es, ErrsAt W gsFits es :=
  errs_of_laid h (by kernel_rfl) (by kernel_rfl) (fun g hg => by
    have hall : (gsFits.all fun g => decide ((Tryd.prog.globals[g]?).map (·.type) = some 27)) = true := by kernel_rfl
    simpa using List.all_eq_true.1 hall g hg) (fun x hx => by
    simp only [Rows.codeFitsUptoRow, List.mem_cons, List.not_mem_nil, or_false] at hx
    rcases hx with rfl | rfl | rfl | rfl | rfl <;> exact ⟨_, rfl⟩)
theorem reads (os : Os) {H : Type} (enc : TypeId × Value → H) : ∃ places, DataW.whole enc Tryd.prog ((World.laidAll Tryd.prog os Rows.codeFitsUptoRow.laid).forCall (fun _ _ => 0) ⟨#[], #[.int .i64 0, .int .i64 0, .slice none 0 0], []⟩).memory Tryd.f5.params.toList Rows.codeFitsSpec.vars false (#[.int .i64 0, .int .i64 0, .slice none 0 0] : Array Value).toList 8 = some ([.lit (.int .i64 0), .lit (.int .i64 0), .nil], [], places) :=
  ⟨[], by kernel_rfl⟩
set_option maxRecDepth 100000 in
theorem lifted (os : Os) (started : os.Started) (H : Type) (enc : TypeId × Value → H) (F : Stop.Interp) :
    ReturnsInHanded {} Tryd.checked os 5 .any ((Rows.OpenSpec.upto Rows.codeFitsSpec).preRow enc Tryd.prog Tryd.f5 Rows.codeFitsUptoRow.domain false Rows.codeFitsUptoRow.laid) (((Rows.OpenSpec.upto Rows.codeFitsSpec).at F).post enc Tryd.prog Tryd.f5 false true false false) := by
  obtain ⟨places, hx⟩ := reads os enc
  have hok : Input.okWideB Tryd.prog ((World.laidAll Tryd.prog os Rows.codeFitsUptoRow.laid).forCall (fun _ _ => 0) ⟨#[], #[.int .i64 0, .int .i64 0, .slice none 0 0], []⟩) 5 ⟨#[], #[.int .i64 0, .int .i64 0, .slice none 0 0], []⟩ = true := by kernel_rfl
  refine returnsInHanded_of_row (C := Tryd.checked) (s := (Rows.OpenSpec.upto Rows.codeFitsSpec)) own started (by kernel_rfl) Tryd.func5
    ⟨World.laidAll Tryd.prog os Rows.codeFitsUptoRow.laid, fun _ _ => 0, ⟨#[], #[.int .i64 0, .int .i64 0, .slice none 0 0], []⟩, World.laidAll_os _ _ _, World.shaped_of_ZipB (by kernel_rfl) (by kernel_rfl), (Input.okWide_of_okWideB (base := 0) hok).1, (Input.okWide_of_okWideB hok).2,
      OpenSpec.preRow_of_cond 8 hx (by kernel_rfl) (fun k hk => by cases hk; kernel_rfl) (by kernel_rfl) (by rw [MakeChecks.laidMetH_plain _ _ _ (by kernel_rfl)]; exact laidMet_laidAll _ (by kernel_rfl) (by kernel_rfl)), by
      simp only [Assume.holds]
      exact ⟨by simp, by simp, by simp, by simp, by simp⟩⟩ ?_
  intro W base args ds gs before hval0 hW _ hcond hsz0 hL _ _
  have hval : ∀ (j : Nat) t v, Tryd.f5.params[j]? = some t → args[j]? = some v → Value.okWide Tryd.prog W .any base t v := hval0
  have hsz : (DataW.weightsEach Tryd.prog (Tryd.f5.params.toList ++ (Rows.OpenSpec.upto Rows.codeFitsSpec).bare.plain.varTypes Tryd.prog) (ds ++ gs)).all (· ≤ reachBytes) = true := hsz0
  have hW' := hW
  obtain ⟨p, q, hA0, hV, rfl, hfz, hnd⟩ := hW
  have hA : DataW.TrodAll enc Tryd.prog W 0 (fun _ => true) true Tryd.f5.params.toList args.toList ds p := hA0
  rw [Tryd.params5] at hA hval hsz
  obtain ⟨v0, vs0, d0, ds0, p0, q0, hargs, rfl, rfl, h0, r0⟩ := trodAll_cons hA
  obtain ⟨v1, vs1, d1, ds1, p1, q1, rfl, rfl, rfl, h1, r1⟩ := trodAll_cons r0
  obtain ⟨v2, vs2, d2, ds2, p2, q2, rfl, rfl, rfl, h2, r2⟩ := trodAll_cons r1
  obtain ⟨rfl, rfl, rfl⟩ := trodAll_nil r2
  obtain rfl : args = #[v0, v1, v2] := by cases args; simp_all
  obtain ⟨rfl, rfl⟩ := trodVars_none hV
  obtain ⟨es, hes⟩ := errs hL
  have k0 := h0
  have lt0 : ∀ x ∈ p0, x.block < W.heap.size := by obtain ⟨m, hm⟩ := k0; exact DataW.trod_lt m _ _ _ hm
  have k1 := h1
  have lt1 : ∀ x ∈ p1, x.block < W.heap.size := by obtain ⟨m, hm⟩ := k1; exact DataW.trod_lt m _ _ _ hm
  have k2 := h2
  have lt2 : ∀ x ∈ p2, x.block < W.heap.size := by obtain ⟨m, hm⟩ := k2; exact DataW.trod_lt m _ _ _ hm
  obtain ⟨x, rfl, rfl, rfl, wx⟩ := open_int Tryd.underlying3 (hval 0 3 v0 rfl rfl) h0
  obtain ⟨y, rfl, rfl, rfl, wy⟩ := open_int Tryd.underlying3 (hval 1 3 v1 rfl rfl) h1
  obtain ⟨av, lv, cv, xv, rfl, lxv, rxv, blv, klv⟩ := openRowsC (j := 2) (hval 2 25 v2 rfl rfl) h2 hsz rfl rfl
  have bk := of_decide_eq_true (hcond _ rfl)

  clear hA0 hval0 hcond bk
  refine (fitslaw_all x y lv cv av xv W (ofFits es) (errsF_fits hes).1 (errsF_fits hes).2 (bounds_i64 wx).1 (bounds_i64 wx).2 (bounds_i64 wy).1 (bounds_i64 wy).2 lxv blv klv rxv).mono fun e W' ⟨he, bel⟩ => ?_
  subst he
  exact ⟨_, rfl, _, _, _, [], _, [], hW', trodAll_mk1 (shut_bool Tryd.underlying4 _), (trodAll_cons_mk (Below.trod laidOut (by kernel_rfl) (of_decide_eq_true (by kernel_rfl)) k0 bel lt0) (trodAll_cons_mk (Below.trod laidOut (by kernel_rfl) (of_decide_eq_true (by kernel_rfl)) k1 bel lt1) (trodAll_cons_mk (Below.trod laidOut (by kernel_rfl) (of_decide_eq_true (by kernel_rfl)) k2 bel lt2) trodAll_mk0))), rfl, bel.frame _, fun h => by cases h⟩

theorem over : Rows.codeFitsUptoRow.holds Tryd.pinned (Rows.OpenSpec.upto Rows.codeFitsSpec) :=
  OpenClaim.holds_of_cond 5 Tryd.f5 rfl rfl rfl rfl rfl rfl rfl ⟨rfl, rfl, rfl, rfl, rfl⟩ rfl rfl rfl rfl rfl (by kernel_rfl) Tryd.func5 (by kernel_rfl)
    (of_decide_eq_true (by kernel_rfl)) (by unfold Func.isWrapper; first | (rw [if_pos (by decide +kernel)]; kernel_rfl) | (rw [if_neg (by decide +kernel)]; exact ⟨rfl, rfl⟩))
    (fun os started H enc _ F => by rw [OpenClaim.pre_eq_preRow]; exact lifted os started H enc F)

theorem proved : Rows.CodeFitsUptoCardSaid :=
  Claim7.holds_tied_plain_at .later [] [.sentinel, .sentinel, .sentinel, .sentinel, .sentinel] true (true, "a9798cfc6535d9d22302b931f8e93845d3d74155823dd8adc4abfcefcaebbe76") true over (fun _ h => by cases h) (by kernel_rfl) (fun _ h => by cases h) codeFitsUpto_row_tie rfl ⟨rfl, rfl⟩ (by kernel_rfl) rfl
    (fun f fn hf hfn => by
      obtain rfl : f = 5 := Option.some.inj ((show Tryd.prog.funcNamed "tessera/tesseralaw07.CodeFits" = some 5 by kernel_rfl).symm.trans hf) |>.symm
      obtain rfl : fn = Tryd.f5 := (Option.some.inj (Tryd.func5.symm.trans hfn)).symm
      exact ⟨by kernel_rfl, fun j t ht => by
        rw [Tryd.params5] at ht
        have hm : t ∈ [3, 3, 25] := by simpa using Array.mem_of_getElem? ht
        have hall : ([3, 3, 25].all fun u => !Tryd.prog.wantsStandIn u) = true := by kernel_rfl
        exact (show Tryd.prog.wantsStandIn t = false by simpa using List.all_eq_true.1 hall t hm)⟩)
    (by kernel_rfl)
#print axioms proved
end Go.Proofs.YtmlpijlcpeoeaaaDoor.codeFits
