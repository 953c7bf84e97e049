/- One bit of a byte, chosen by a number; nothing of the program is proved here. -/
import Derived.Test.YtmlpijlcpeoeaaaDoorGfDot
import Derived.ProofKit
import Derived.OpenShut
import Derived.SizedLaws
import Derived.Lib.SmallJoins
import Derived.Test.YtmlpijlcpeoeaaaDoorMatO
import Derived.Test.YtmlpijlcpeoeaaaDoorOwn
import Derived.Deep.Matrix
import Derived.Test.YtmlpijlcpeoeaaaDoorHalfL
import Derived.Test.YtmlpijlcpeoeaaaDoorMatA
import Derived.LaidLaws
import Derived.MakeChecks
import Derived.LaidEql
import Derived.Test.YtmlpijlcpeoeaaaDoorNumKept
import Derived.Lib.SlBytesConst
import Derived.Test.YtmlpijlcpeoeaaaDoorNumBytes
import Derived.Test.YtmlpijlcpeoeaaaDoorHalfW
import Derived.Test.YtmlpijlcpeoeaaaDoorMatTake
import Derived.Test.YtmlpijlcpeoeaaaDoorJCodeLinear3
import Derived.Test.YtmlpijlcpeoeaaaDoorPlacesK
import Derived.Test.YtmlpijlcpeoeaaaDoorHalfF
import Derived.Lib.ItoaNum
import Derived.Lib.ItoaWalk
import Derived.Test.YtmlpijlcpeoeaaaDoorNumApart
import Derived.Test.YtmlpijlcpeoeaaaDoorHolds
import Derived.Deep.DeepCutAuto
import Derived.BigRegion
import Derived.Test.YtmlpijlcpeoeaaaDoorMatS
import Derived.Deep.RegionHeld3
/- How a list of bytes that came in is read: facts for the frames of the laws; nothing of the program is proved here. -/
namespace Go.Proofs.YtmlpijlcpeoeaaaDoor
open Go.ChangeShapes Go.WideShapes Go.ChangeAt Go.RowKit Gf
set_option maxRecDepth 20000
theorem own : ownKnob Tryd.prog.godebug = none := by kernel_rfl
theorem laidOut : laidOutB Tryd.prog = true := by kernel_rfl
theorem bytes8 : Tryd.prog.bytesOf 5 = 1 := by kernel_rfl
theorem getD_get {α : Type} (l : List α) (j : Nat) (d : α) (h : j < l.length) : l.getD j d = l[j] := by simp [List.getD, h]
theorem open8_cells {H : Type} {enc : TypeId × Value → H} {W : World} {cs : List Value} {x : DataW H × List MemPlace} {fuel : Nat}
    (h : DataW.trod enc Tryd.prog W 0 (fun _ => true) true fuel 22 cs = some x) :
    ∃ a len cap xs, cs = [.slice a len cap] ∧ len = xs.length ∧ len ≤ cap ∧ Row8 W a xs ∧ (x.1 = .nil ∧ a = none ∧ cap = 0 ∨ ∃ es sp, x.1 = .slice es sp ∧ es.length + sp.length = cap) ∧ (a = none → cap = 0) := by
  rcases open_ints Tryd.underlying22 Tryd.underlying5 (by kernel_rfl) h with ⟨hcs, hx⟩ | ⟨ad, l, c, zs, hcs, _, hl, hm, hz, hx, hcell, hwz⟩
  · exact ⟨none, 0, 0, [], hcs, rfl, Nat.le_refl _, .inl rfl, .inl ⟨by rw [hx], rfl, rfl⟩, fun _ => rfl⟩
  · have hz' : zs.length = c := by simpa using hz
    refine ⟨some ad, l, c, (zs.take l).map toF, hcs, by simp; omega, hl, ?_, .inr ⟨_, _, by rw [hx], by simp [lits]; omega⟩, fun e => by cases e⟩
    by_cases h0 : l = 0
    · left; simp [h0]
    · right
      have hc := hcell 0 (by omega)
      obtain ⟨b, off, spot⟩ := ad
      have hspot : spot = none := by simpa [Addr.add] using World.cell?_spot hc
      subst hspot
      refine ⟨b, off, rfl, fun j hj => ?_⟩
      have hj' : j < l := by simp at hj; omega
      have hcj := hcell j (by omega)
      have hw := hwz (zs.getD j 0) (by
        rw [getD_get _ _ _ (by omega)]; exact List.getElem_mem _)
      have hb := bounds_u8 hw
      have e : ((at8 ((zs.take l).map toF) j).toNat : Int) = zs.getD j 0 := by
        unfold at8
        rw [getD_get _ _ _ (by simp; omega)]
        simp only [List.getElem_map, List.getElem_take]
        rw [getD_get _ _ _ (by omega)] at hb ⊢
        exact val_toF hb.1 hb.2
      rw [e, ← hcj]
      by_cases hj0 : j = 0
      · subst hj0; rfl
      · simp [Addr.add, hj0]
theorem open8 {H : Type} {enc : TypeId × Value → H} {W : World} {v : Value} {d : DataW H} {p : List MemPlace} {base : Nat}
    (hv : Value.okWide Tryd.prog W .any base 22 v) (h : DataW.Trod enc Tryd.prog W 0 (fun _ => true) true 22 v d p) :
    ∃ a len cap xs, v = .slice a len cap ∧ len = xs.length ∧ len ≤ cap ∧ Row8 W a xs ∧ (d = .nil ∧ a = none ∧ cap = 0 ∨ ∃ es sp, d = .slice es sp ∧ es.length + sp.length = cap) ∧ (a = none → cap = 0) := by
  obtain ⟨fuel, hf⟩ := h
  obtain ⟨a, len, cap, xs, hcs, h1, h2, h3, h4, h5⟩ := open8_cells hf
  obtain ⟨a', len', cap', rfl⟩ := okWide_slice Tryd.underlying22 hv
  simp [Value.cells] at hcs
  obtain ⟨rfl, rfl, rfl⟩ := hcs
  exact ⟨_, _, _, xs, rfl, h1, h2, h3, h4, h5⟩
end Go.Proofs.YtmlpijlcpeoeaaaDoor

/- How a matrix, and two numbers, come in: facts for the frames of the laws; nothing of the program is proved here. -/
namespace Go.Proofs.YtmlpijlcpeoeaaaDoor
open Go.ChangeShapes Go.WideShapes Go.ChangeAt Go.RowKit Gf Go.Joins
set_option linter.unusedVariables false
set_option maxRecDepth 20000
theorem cellsMat : Tryd.prog.cellsOf 65 = 3 := by kernel_rfl
theorem cellsInt : Tryd.prog.cellsOf 3 = 1 := by kernel_rfl
/-- a list's datum, and its room -/
def Room2 {H : Type} (d : DataW H) (cap : Nat) : Prop := d = .nil ∧ cap = 0 ∨ ∃ es sp, d = .slice es sp ∧ es.length + sp.length = cap
theorem room2_le {H : Type} {d : DataW H} {cap : Nat} (h : Room2 d cap) (hw : ∀ n ∈ DataW.weights Tryd.prog 22 d, n ≤ reachBytes) : cap ≤ 140737488351232 := by
  rcases h with ⟨_, rfl⟩ | ⟨es, sp, rfl, rfl⟩
  · omega
  · have := hw ((es.length + sp.length) * Tryd.prog.bytesOf 5) (by simp [DataW.weights, Tryd.underlying22])
    rw [bytes8] at this
    simp only [reachBytes] at this
    omega
theorem openMat {H : Type} {enc : TypeId × Value → H} {W : World} {v : Value} {d : DataW H} {p : List MemPlace} {base : Nat} {ts : List TypeId} {ds : List (DataW H)} {j : Nat}
    (hv : Value.okWide Tryd.prog W .any base 65 v) (h : DataW.Trod enc Tryd.prog W 0 (fun _ => true) true 65 v d p)
    (hsz : (DataW.weightsEach Tryd.prog ts ds).all (· ≤ reachBytes) = true) (ht : ts[j]? = some 65) (hd : ds[j]? = some d) :
    ∃ (r c : Int) (a : Option Addr) (l cap : Nat) (xs : List F), v = .agg #[.int .i64 r, .int .i64 c, .slice a l cap] ∧ l = xs.length ∧ Row8 W a xs ∧ l ≤ cap ∧ cap ≤ 140737488351232 ∧ (a = none → cap = 0) ∧
      -9223372036854775808 ≤ r ∧ r ≤ 9223372036854775807 ∧ -9223372036854775808 ≤ c ∧ c ≤ 9223372036854775807 := by
  obtain ⟨v0, v1, v2, y0, y1, y2, n, rfl, rfl, _, e0, e1, e2⟩ := open_agg3 Tryd.underlying65 (by kernel_rfl) cellsMat hv h
  obtain ⟨r, s0, _, w0⟩ := DataW.trod_int Tryd.underlying3 e0
  obtain ⟨c, s1, _, w1⟩ := DataW.trod_int Tryd.underlying3 e1
  obtain ⟨a, la, ca, xs, s2, e, ka, ra, da, na⟩ := open8_cells e2
  simp only [List.cons.injEq, and_true] at s0 s1 s2
  subst s0 s1 s2
  have hw : ∀ n ∈ DataW.weights Tryd.prog 65 (.agg [y0.1, y1.1, y2.1]), n ≤ reachBytes := fun n hn => by
    simpa using List.all_eq_true.1 hsz _ (DataW.weights_mem_each ht hd n hn)
  simp only [DataW.weights, Tryd.underlying65] at hw
  have r2 : Room2 y2.1 ca := da.imp (fun h => ⟨h.1, h.2.2⟩) id
  refine ⟨r, c, a, la, ca, xs, rfl, e, ra, ka, room2_le r2 ?_, na, (bounds_i64 w0).1, (bounds_i64 w0).2, (bounds_i64 w1).1, (bounds_i64 w1).2⟩
  exact fun n hn => hw n (by simp [DataW.weightsEach, hn])
end Go.Proofs.YtmlpijlcpeoeaaaDoor

/- How a list of lists of bytes, and a list of numbers, come in: facts for the frames of the laws; nothing of the program is proved here. -/
namespace Go.Proofs.YtmlpijlcpeoeaaaDoor
open Go.ChangeShapes Go.WideShapes Go.ChangeAt Go.RowKit Gf Go.Joins
set_option linter.unusedVariables false
set_option maxRecDepth 20000
theorem addr_off {w : World} {ad : Addr} {v : Value} (h : w.cell? (ad.add 0) = some v) : ∃ b off, ad = ⟨b, off, none⟩ := by
  obtain ⟨b, off, spot⟩ := ad
  have hspot : spot = none := by simpa [Addr.add] using World.cell?_spot h
  subst hspot
  exact ⟨b, off, rfl⟩
theorem add_off (b off j : Nat) : (⟨b, off, none⟩ : Addr).add j = ⟨b, off + j, none⟩ := by unfold Addr.add; split <;> simp_all
theorem cellsSl : Tryd.prog.cellsOf 22 = 1 := by kernel_rfl
theorem cellsU8 : Tryd.prog.cellsOf 5 = 1 := by kernel_rfl
theorem openRows {H : Type} {enc : TypeId × Value → H} {W : World} {v : Value} {d : DataW H} {p : List MemPlace} {base : Nat}
    (hv : Value.okWide Tryd.prog W .any base 25 v) (h : DataW.Trod enc Tryd.prog W 0 (fun _ => true) true 25 v d p) :
    ∃ a l cap L, v = .slice a l cap ∧ l = List.length L ∧ Rows8 W a L ∧
      ∀ b off, a = some ⟨b, off, none⟩ → ∀ j n a' cap', W.cell? ⟨b, off + j, none⟩ = some (.slice a' n cap') → j < L.length → a' = none → cap' = 0 := by
  obtain ⟨fuel, hf⟩ := h
  obtain ⟨a0, l0, c0, rfl⟩ := okWide_slice Tryd.underlying25 hv
  rcases Deep.open_int_rows Tryd.underlying25 Tryd.underlying22 Tryd.underlying5 cellsSl cellsU8 hf with ⟨hcs, hx⟩ | ⟨ad, len, cap, A, L, C, Z, hcs, _, hl, hm, hx, hr⟩
  · simp [Value.cells] at hcs
    obtain ⟨rfl, rfl, rfl⟩ := hcs
    exact ⟨none, 0, 0, [], rfl, rfl, .inl rfl, fun b off e => by cases e⟩
  · simp [Value.cells] at hcs
    obtain ⟨rfl, rfl, rfl⟩ := hcs
    refine ⟨some ad, l0, c0, (List.range l0).map fun r => ((Z r).take (L r)).map toF, rfl, by simp, ?_, ?_⟩
    · by_cases h0 : l0 = 0
      · left; simp [h0]
      · right
        obtain ⟨b, off, rfl⟩ := addr_off (hr 0 (by omega)).1
        refine ⟨b, off, rfl, fun j xs hj => ?_⟩
        have hjl : j < l0 := by have := (List.getElem?_eq_some_iff.1 hj).1; simpa using this
        rw [List.getElem?_map, List.getElem?_range hjl] at hj
        obtain rfl := Option.some.inj hj
        obtain ⟨h1, h2, h3, h4, h5, h6, h7⟩ := hr j (by omega)
        rw [add_off] at h1
        have hlen : (((Z j).take (L j)).map toF).length = L j := by rw [List.length_map, List.length_take]; omega
        refine ⟨A j, C j, by rw [hlen]; exact h1, ?_⟩
        by_cases hL0 : L j = 0
        · left; simp [hL0]
        · right
          cases hA : A j with
          | none => have := h6 hA; omega
          | some ad' =>
            obtain ⟨_, h8⟩ := h7 ad' hA
            obtain ⟨b', off', rfl⟩ := addr_off (h8 0 (by omega))
            refine ⟨b', off', rfl, fun i hi => ?_⟩
            rw [hlen] at hi
            have hc := h8 i (by omega)
            rw [add_off] at hc
            rw [hc]
            have hb := bounds_u8 (h5 ((Z j).getD i 0) (by rw [getD_get _ _ _ (by omega)]; exact List.getElem_mem _))
            have e : ((at8 (((Z j).take (L j)).map toF) i).toNat : Int) = (Z j).getD i 0 := by
              unfold at8
              rw [getD_get _ _ _ (by rw [hlen]; exact hi)]
              simp only [List.getElem_map, List.getElem_take]
              rw [getD_get _ _ _ (by omega)] at hb ⊢
              exact val_toF hb.1 hb.2
            rw [e]
    · intro b off e j n a' cap' hc hj ha
      simp only [List.length_map, List.length_range] at hj
      obtain ⟨h1, h2, h3, h4, h5, h6, h7⟩ := hr j (by omega)
      obtain rfl := Option.some.inj e
      rw [add_off, hc] at h1
      simp only [Option.some.injEq, Value.slice.injEq] at h1
      obtain ⟨e1, _, e3⟩ := h1
      rw [e3]; exact h6 (by rw [← e1]; exact ha)
theorem bytesInt : Tryd.prog.bytesOf 3 = 8 := by kernel_rfl
theorem openInts {H : Type} {enc : TypeId × Value → H} {W : World} {v : Value} {d : DataW H} {p : List MemPlace} {base : Nat} {ts : List TypeId} {ds : List (DataW H)} {j : Nat}
    (hv : Value.okWide Tryd.prog W .any base 54 v) (h : DataW.Trod enc Tryd.prog W 0 (fun _ => true) true 54 v d p)
    (hsz : (DataW.weightsEach Tryd.prog ts ds).all (· ≤ reachBytes) = true) (ht : ts[j]? = some 54) (hd : ds[j]? = some d) :
    ∃ a l cap ns, v = .slice a l cap ∧ l = List.length ns ∧ RowI W a ns ∧ l ≤ cap ∧ cap ≤ 17592186043904 ∧ (a = none → cap = 0) ∧ ∀ n ∈ ns, -9223372036854775808 ≤ n ∧ n ≤ 9223372036854775807 := by
  obtain ⟨fuel, hf⟩ := h
  obtain ⟨a0, l0, c0, rfl⟩ := okWide_slice Tryd.underlying54 hv
  rcases open_ints Tryd.underlying54 Tryd.underlying3 cellsInt hf with ⟨hcs, hx⟩ | ⟨ad, l, c, zs, hcs, _, hl, hm, hz, hx, hcell, hwz⟩
  · simp [Value.cells] at hcs
    obtain ⟨rfl, rfl, rfl⟩ := hcs
    exact ⟨none, 0, 0, [], rfl, rfl, .inl rfl, Nat.le_refl _, by omega, fun _ => rfl, fun n hn => by cases hn⟩
  · simp [Value.cells] at hcs
    obtain ⟨rfl, rfl, rfl⟩ := hcs
    have hz' : zs.length = c0 := by simpa using hz
    have hcap : c0 ≤ 17592186043904 := by
      have hw : ∀ n ∈ DataW.weights Tryd.prog 54 d, n ≤ reachBytes := fun n hn => by simpa using List.all_eq_true.1 hsz _ (DataW.weights_mem_each ht hd n hn)
      simp only [Prod.mk.injEq] at hx
      rw [hx.1] at hw
      have := hw (((lits .i64 (zs.take l0) : List (DataW H)).length + (lits .i64 (zs.drop l0) : List (DataW H)).length) * Tryd.prog.bytesOf 3) (by simp [DataW.weights, Tryd.underlying54])
      rw [bytesInt] at this
      simp only [reachBytes, lits, List.length_map, List.length_take, List.length_drop] at this
      omega
    refine ⟨some ad, l0, c0, zs.take l0, rfl, by rw [List.length_take]; omega, ?_, hl, hcap, (fun e => by cases e), fun n hn => bounds_i64 (hwz n (List.mem_of_mem_take hn))⟩
    by_cases h0 : l0 = 0
    · left; simp [h0]
    · right
      obtain ⟨b, off, rfl⟩ := addr_off (hcell 0 (by omega))
      refine ⟨b, off, rfl, fun j m hj => ?_⟩
      have hjl : j < l0 := by have := (List.getElem?_eq_some_iff.1 hj).1; rw [List.length_take] at this; omega
      have hc := hcell j (by omega)
      rw [add_off] at hc
      rw [hc]
      rw [List.getElem?_take_of_lt hjl] at hj
      rw [List.getD_eq_getElem?_getD, hj]; rfl
end Go.Proofs.YtmlpijlcpeoeaaaDoor

/- How parameters, a number and two lists of numbers come in; facts for the frames of the laws; nothing of the program is proved here. -/
namespace Go.Proofs.YtmlpijlcpeoeaaaDoor
open Go.ChangeShapes Go.WideShapes Go.ChangeAt Go.RowKit Gf Go.Joins
set_option linter.unusedVariables false
set_option maxRecDepth 20000
theorem array5 {α : Type} {cs : Array α} (h : cs.size = 5) : ∃ c0 c1 c2 c3 c4, cs = #[c0, c1, c2, c3, c4] := by
  obtain ⟨l⟩ := cs
  match l, h with
  | [c0, c1, c2, c3, c4], _ => exact ⟨c0, c1, c2, c3, c4, rfl⟩
theorem open_agg5 {H : Type} {enc : TypeId × Value → H} {P : Program} {w : World} {base : Nat} {spare : Nat → Bool} {held : Bool} {r : Reach} {b0 : Nat} {t : TypeId} {f0 f1 f2 f3 f4 : Field} {v : Value} {d : DataW H} {p : List MemPlace} (hs : P.underlying t = some (.struct #[f0, f1, f2, f3, f4])) (hone : Go.Deep.oneCellFields P #[f0, f1, f2, f3, f4] = true) (hC : P.cellsOf t = 5)
    (hv : Value.okWide P w r b0 t v) (h : DataW.Trod enc P w base spare held t v d p) :
    ∃ (v0 v1 v2 v3 v4 : Value) (y0 y1 y2 y3 y4 : DataW H × List MemPlace) (n : Nat), v = .agg #[v0, v1, v2, v3, v4] ∧ d = .agg [y0.1, y1.1, y2.1, y3.1, y4.1] ∧
      DataW.trod enc P w base spare held n f0.type [v0] = some y0 ∧ DataW.trod enc P w base spare held n f1.type [v1] = some y1 ∧ DataW.trod enc P w base spare held n f2.type [v2] = some y2 ∧ DataW.trod enc P w base spare held n f3.type [v3] = some y3 ∧ DataW.trod enc P w base spare held n f4.type [v4] = some y4 := by
  obtain ⟨cs, rfl, hsz⟩ := okWide_struct hs hv
  obtain ⟨c0, c1, c2, c3, c4, rfl⟩ := array5 (hsz.trans hC)
  obtain ⟨fuel, hf⟩ := h
  obtain ⟨xs, n, _, hx, hl, hlen, hel⟩ := DataW.trod_struct hs hf
  match xs, hlen with
  | [y0, y1, y2, y3, y4], _ =>
    obtain ⟨o0, k0⟩ := Go.Deep.hone_of hone 0 f0 rfl
    obtain ⟨o1, k1⟩ := Go.Deep.hone_of hone 1 f1 rfl
    obtain ⟨o2, k2⟩ := Go.Deep.hone_of hone 2 f2 rfl
    obtain ⟨o3, k3⟩ := Go.Deep.hone_of hone 3 f3 rfl
    obtain ⟨o4, k4⟩ := Go.Deep.hone_of hone 4 f4 rfl
    have h0 := hel 0 f0 rfl
    have h1 := hel 1 f1 rfl
    have h2 := hel 2 f2 rfl
    have h3 := hel 3 f3 rfl
    have h4 := hel 4 f4 rfl
    simp only [Prod.mk.injEq] at hx
    exact ⟨c0, c1, c2, c3, c4, y0, y1, y2, y3, y4, n, rfl, by rw [hx.1]; rfl, by simpa [Value.cells, o0, k0] using h0, by simpa [Value.cells, o1, k1] using h1, by simpa [Value.cells, o2, k2] using h2, by simpa [Value.cells, o3, k3] using h3, by simpa [Value.cells, o4, k4] using h4⟩
/-- a list of numbers, as one cell -/
theorem openInts_cell {H : Type} {enc : TypeId × Value → H} {W : World} {v : Value} {y : DataW H × List MemPlace} {n : Nat}
    (h : DataW.trod enc Tryd.prog W 0 (fun _ => true) true n 54 [v] = some y) (hw : ∀ n ∈ DataW.weights Tryd.prog 54 y.1, n ≤ reachBytes) :
    ∃ a l cap ns, v = .slice a l cap ∧ l = List.length ns ∧ RowI W a ns ∧ l ≤ cap ∧ cap ≤ 17592186043904 ∧ (a = none → cap = 0) ∧ ∀ n ∈ ns, -9223372036854775808 ≤ n ∧ n ≤ 9223372036854775807 := by
  rcases open_ints Tryd.underlying54 Tryd.underlying3 cellsInt h with ⟨hcs, hx⟩ | ⟨ad, l, c, zs, hcs, _, hl, hm, hz, hx, hcell, hwz⟩
  · simp at hcs
    subst hcs
    exact ⟨none, 0, 0, [], rfl, rfl, .inl rfl, Nat.le_refl _, by omega, fun _ => rfl, fun n hn => by cases hn⟩
  · simp at hcs
    subst hcs
    have hz' : zs.length = c := by simpa using hz
    have hcap : c ≤ 17592186043904 := by
      rw [hx] at hw
      have := hw (((lits .i64 (zs.take l) : List (DataW H)).length + (lits .i64 (zs.drop l) : List (DataW H)).length) * Tryd.prog.bytesOf 3) (by simp [DataW.weights, Tryd.underlying54])
      rw [bytesInt] at this
      simp only [reachBytes, lits, List.length_map, List.length_take, List.length_drop] at this
      omega
    refine ⟨some ad, l, c, zs.take l, rfl, by rw [List.length_take]; omega, ?_, hl, hcap, (fun e => by cases e), fun n hn => bounds_i64 (hwz n (List.mem_of_mem_take hn))⟩
    by_cases h0 : l = 0
    · left; simp [h0]
    · right
      obtain ⟨b, off, rfl⟩ := addr_off (hcell 0 (by omega))
      refine ⟨b, off, rfl, fun j m hj => ?_⟩
      have hjl : j < l := by have := (List.getElem?_eq_some_iff.1 hj).1; rw [List.length_take] at this; omega
      have hc := hcell j (by omega)
      rw [add_off] at hc
      rw [hc]
      rw [List.getElem?_take_of_lt hjl] at hj
      rw [List.getD_eq_getElem?_getD, hj]; rfl
end Go.Proofs.YtmlpijlcpeoeaaaDoor

/- How parameters, two lists of bytes, a list of numbers and a number come in as one; facts for the frames of the laws; nothing of the program is proved here. -/
namespace Go.Proofs.YtmlpijlcpeoeaaaDoor
open Go.ChangeShapes Go.WideShapes Go.ChangeAt Go.RowKit Gf Go.Joins
set_option linter.unusedVariables false
set_option maxRecDepth 20000
theorem array6 {α : Type} {cs : Array α} (h : cs.size = 6) : ∃ c0 c1 c2 c3 c4 c5, cs = #[c0, c1, c2, c3, c4, c5] := by
  obtain ⟨l⟩ := cs
  match l, h with
  | [c0, c1, c2, c3, c4, c5], _ => exact ⟨c0, c1, c2, c3, c4, c5, rfl⟩
theorem open_agg6 {H : Type} {enc : TypeId × Value → H} {P : Program} {w : World} {base : Nat} {spare : Nat → Bool} {held : Bool} {r : Reach} {b0 : Nat} {t : TypeId} {f0 f1 f2 f3 f4 f5 : Field} {v : Value} {d : DataW H} {p : List MemPlace} (hs : P.underlying t = some (.struct #[f0, f1, f2, f3, f4, f5])) (hone : Go.Deep.oneCellFields P #[f0, f1, f2, f3, f4, f5] = true) (hC : P.cellsOf t = 6)
    (hv : Value.okWide P w r b0 t v) (h : DataW.Trod enc P w base spare held t v d p) :
    ∃ (v0 v1 v2 v3 v4 v5 : Value) (y0 y1 y2 y3 y4 y5 : DataW H × List MemPlace) (n : Nat), v = .agg #[v0, v1, v2, v3, v4, v5] ∧ d = .agg [y0.1, y1.1, y2.1, y3.1, y4.1, y5.1] ∧
      DataW.trod enc P w base spare held n f0.type [v0] = some y0 ∧ DataW.trod enc P w base spare held n f1.type [v1] = some y1 ∧ DataW.trod enc P w base spare held n f2.type [v2] = some y2 ∧ DataW.trod enc P w base spare held n f3.type [v3] = some y3 ∧ DataW.trod enc P w base spare held n f4.type [v4] = some y4 ∧ DataW.trod enc P w base spare held n f5.type [v5] = some y5 := by
  obtain ⟨cs, rfl, hsz⟩ := okWide_struct hs hv
  obtain ⟨c0, c1, c2, c3, c4, c5, rfl⟩ := array6 (hsz.trans hC)
  obtain ⟨fuel, hf⟩ := h
  obtain ⟨xs, n, _, hx, hl, hlen, hel⟩ := DataW.trod_struct hs hf
  match xs, hlen with
  | [y0, y1, y2, y3, y4, y5], _ =>
    obtain ⟨o0, k0⟩ := Go.Deep.hone_of hone 0 f0 rfl
    obtain ⟨o1, k1⟩ := Go.Deep.hone_of hone 1 f1 rfl
    obtain ⟨o2, k2⟩ := Go.Deep.hone_of hone 2 f2 rfl
    obtain ⟨o3, k3⟩ := Go.Deep.hone_of hone 3 f3 rfl
    obtain ⟨o4, k4⟩ := Go.Deep.hone_of hone 4 f4 rfl
    obtain ⟨o5, k5⟩ := Go.Deep.hone_of hone 5 f5 rfl
    have h0 := hel 0 f0 rfl
    have h1 := hel 1 f1 rfl
    have h2 := hel 2 f2 rfl
    have h3 := hel 3 f3 rfl
    have h4 := hel 4 f4 rfl
    have h5 := hel 5 f5 rfl
    simp only [Prod.mk.injEq] at hx
    exact ⟨c0, c1, c2, c3, c4, c5, y0, y1, y2, y3, y4, y5, n, rfl, by rw [hx.1]; rfl, by simpa [Value.cells, o0, k0] using h0, by simpa [Value.cells, o1, k1] using h1, by simpa [Value.cells, o2, k2] using h2, by simpa [Value.cells, o3, k3] using h3, by simpa [Value.cells, o4, k4] using h4, by simpa [Value.cells, o5, k5] using h5⟩
theorem cellsPicked : Tryd.prog.cellsOf 56 = 6 := by kernel_rfl
theorem openPicked {H : Type} {enc : TypeId × Value → H} {W : World} {v : Value} {d : DataW H} {p : List MemPlace} {base : Nat} {ts : List TypeId} {ds : List (DataW H)} {j : Nat}
    (hv : Value.okWide Tryd.prog W .any base 56 v) (h : DataW.Trod enc Tryd.prog W 0 (fun _ => true) true 56 v d p)
    (hsz : (DataW.weightsEach Tryd.prog ts ds).all (· ≤ reachBytes) = true) (ht : ts[j]? = some 56) (hd : ds[j]? = some d) :
    ∃ (k r n : Int) (a b c : Option Addr) (la ca lb cb lc cc : Nat) (xs ys : List F) (ns : List Int), v = .agg #[.int .i64 k, .int .i64 r, .slice a la ca, .slice b lb cb, .slice c lc cc, .int .i64 n] ∧
      (-9223372036854775808 ≤ k ∧ k ≤ 9223372036854775807) ∧ (-9223372036854775808 ≤ r ∧ r ≤ 9223372036854775807) ∧ (-9223372036854775808 ≤ n ∧ n ≤ 9223372036854775807) ∧
      (la = xs.length ∧ Row8 W a xs ∧ la ≤ ca ∧ ca ≤ 140737488351232 ∧ (a = none → ca = 0)) ∧ (lb = ys.length ∧ Row8 W b ys ∧ lb ≤ cb ∧ cb ≤ 140737488351232 ∧ (b = none → cb = 0)) ∧
      (lc = ns.length ∧ RowI W c ns ∧ lc ≤ cc ∧ cc ≤ 17592186043904 ∧ (c = none → cc = 0) ∧ ∀ n ∈ ns, -9223372036854775808 ≤ n ∧ n ≤ 9223372036854775807) := by
  obtain ⟨v0, v1, v2, v3, v4, v5, y0, y1, y2, y3, y4, y5, n, rfl, rfl, e0, e1, e2, e3, e4, e5⟩ := open_agg6 Tryd.underlying56 (by kernel_rfl) cellsPicked hv h
  obtain ⟨k, s0, _, w0⟩ := DataW.trod_int Tryd.underlying3 e0
  obtain ⟨r, s1, _, w1⟩ := DataW.trod_int Tryd.underlying3 e1
  obtain ⟨m, s5, _, w5⟩ := DataW.trod_int Tryd.underlying3 e5
  have hw : ∀ n ∈ DataW.weights Tryd.prog 56 (.agg [y0.1, y1.1, y2.1, y3.1, y4.1, y5.1]), n ≤ reachBytes := fun n hn => by
    simpa using List.all_eq_true.1 hsz _ (DataW.weights_mem_each ht hd n hn)
  simp only [DataW.weights, Tryd.underlying56] at hw
  obtain ⟨a, la, ca, xs, s2, ea, ka, ra, da, na⟩ := open8_cells e2
  obtain ⟨b, lb, cb, ys, s3, eb, kb, rb, db, nb⟩ := open8_cells e3
  obtain ⟨c, lc, cc, ns, s4, x4⟩ := openInts_cell e4 (fun n hn => hw n (by simp [DataW.weightsEach, hn]))
  have r2 : Room2 y2.1 ca := da.imp (fun h => ⟨h.1, h.2.2⟩) id
  have r3 : Room2 y3.1 cb := db.imp (fun h => ⟨h.1, h.2.2⟩) id
  have x2 := room2_le r2 (fun n hn => hw n (by simp [DataW.weightsEach, hn]))
  have x3 := room2_le r3 (fun n hn => hw n (by simp [DataW.weightsEach, hn]))
  simp only [List.cons.injEq, and_true] at s0 s1 s2 s3 s5
  subst s0 s1 s2 s3 s4 s5
  exact ⟨k, r, m, a, b, c, la, ca, lb, cb, lc, cc, xs, ys, ns, rfl, bounds_i64 w0, bounds_i64 w1, bounds_i64 w5, ⟨ea, ra, ka, x2, na⟩, ⟨eb, rb, kb, x3, nb⟩, x4⟩
end Go.Proofs.YtmlpijlcpeoeaaaDoor

/- Plain algebra of stage 7: what a half is, byte by byte, of the data halves; no program is spoken of. -/
namespace Go.Proofs.YtmlpijlcpeoeaaaDoor
open Go.RowKit Gf
set_option linter.unusedVariables false
set_option maxRecDepth 20000
/-- byte b of half h, of the data halves' bytes D -/
def imgF (k : Nat) (car : Nat → Nat) (D : Nat → Nat → F) (h b : Nat) : F := sumF (fun v => gm (halfF k car h v) (D v b)) (2 * k)
/-- half h -/
def imgL (k : Nat) (car : Nat → Nat) (H : Nat) (D : Nat → Nat → F) (h : Nat) : List F := rowF H (imgF k car D h)
theorem imgL_len (k : Nat) (car : Nat → Nat) (H : Nat) (D : Nat → Nat → F) (h : Nat) : (imgL k car H D h).length = H := rowF_len _ _
theorem img_congr {k H h : Nat} {car : Nat → Nat} {D E : Nat → Nat → F} (hD : ∀ v b, v < 2 * k → b < H → D v b = E v b) : imgL k car H D h = imgL k car H E h :=
  rowF_congr fun b hb => sumF_congr fun v hv => by rw [hD v b hv hb]
/-- a data half is itself -/
theorem img_data {k h : Nat} {car : Nat → Nat} {D : Nat → Nat → F} (hh : h < 2 * k) (b : Nat) : imgF k car D h b = D h b := by
  unfold imgF
  rw [sumF_pick _ h _ hh]
  · have : halfF k car h h = 1 := by
      simp only [halfF, if_true]
      rw [genF, if_pos (by omega), if_pos rfl]
    rw [this, F.one_mul]
  · intro v hv hne
    have : halfF k car h v = 0 := by
      simp only [halfF]
      by_cases hm : v % 2 = h % 2
      · rw [if_pos hm, genF, if_pos (by omega), if_neg (by omega)]
      · rw [if_neg hm, if_neg (by omega)]
    rw [this, F.zero_mul]
/-- what Image adds up for a parity's half: data shard j's part -/
def parS (k i p : Nat) (car : Nat → Nat) (D : Nat → Nat → F) (b j : Nat) : F := ga (gm (cyN (k + i) j) (D (2 * j + p) b)) (if p = 1 ∧ car j = i then D (2 * j) b else 0)
theorem img_par {k i p b : Nat} {car : Nat → Nat} {D : Nat → Nat → F} (hp : p < 2) : imgF k car D (2 * (k + i) + p) b = sumF (parS k i p car D b) k := by
  unfold imgF
  rw [sumF_two]
  refine sumF_congr fun j hj => ?_
  have hd : (2 * (k + i) + p) / 2 = k + i := by omega
  have hm : (2 * (k + i) + p) % 2 = p := by omega
  unfold parS
  rcases (show p = 0 ∨ p = 1 by omega) with rfl | rfl
  · have e1 : halfF k car (2 * (k + i) + 0) (2 * j) = cyN (k + i) j := by
      simp only [halfF]
      rw [if_pos (by omega), hd, show 2 * j / 2 = j by omega, genF, if_neg (by omega)]
    have e2 : halfF k car (2 * (k + i) + 0) (2 * j + 1) = 0 := by
      simp only [halfF]
      rw [if_neg (by omega), if_neg (by omega)]
    rw [e1, e2, F.zero_mul, if_neg (by omega)]
    rfl
  · have e1 : halfF k car (2 * (k + i) + 1) (2 * j + 1) = cyN (k + i) j := by
      simp only [halfF]
      rw [if_pos (by omega), hd, show (2 * j + 1) / 2 = j by omega, genF, if_neg (by omega)]
    have e2 : halfF k car (2 * (k + i) + 1) (2 * j) = if car j = i then 1 else 0 := by
      simp only [halfF]
      rw [if_neg (by omega), hd, show 2 * j / 2 = j by omega]
      by_cases e : car j = i
      · rw [if_pos e, if_pos ⟨by omega, by omega, by omega⟩]
      · rw [if_neg e, if_neg (fun h => e (by omega))]
    rw [e1, e2, F.add_comm]
    congr 1
    by_cases e : car j = i
    · rw [if_pos e, if_pos ⟨rfl, e⟩, F.one_mul]
    · rw [if_neg e, if_neg (fun h => e h.2), F.zero_mul]
theorem parS_step {k i p b j : Nat} {car : Nat → Nat} {D : Nat → Nat → F} {s : F} : ga (ga s (gm (cyN (k + i) j) (D (2 * j + p) b))) (if p = 1 ∧ car j = i then D (2 * j) b else 0) = ga s (parS k i p car D b j) := F.add_assoc _ _ _
end Go.Proofs.YtmlpijlcpeoeaaaDoor

/- Plain algebra of stage 6: how many bytes a half has, how many stripes there are, bytes cut and joined; nothing of the program is proved here. -/
namespace Go.Proofs.YtmlpijlcpeoeaaaDoor
open Go.RowKit Gf
set_option linter.unusedVariables false
set_option maxRecDepth 20000
/-- how many pieces of m make n -/
def cntN (m n : Nat) : Nat := (n + m - 1) / m
theorem lt_cnt {m n i : Nat} (hm : 0 < m) : i < cntN m n ↔ i * m < n := by
  show i + 1 ≤ (n + m - 1) / m ↔ _
  rw [Nat.le_div_iff_mul_le hm, Nat.add_mul, Nat.one_mul]
  omega
theorem cnt_cover {m n : Nat} (hm : 0 < m) : n ≤ cntN m n * m := by
  have h0 : ¬ cntN m n * m < n := fun h => Nat.lt_irrefl _ ((lt_cnt (i := cntN m n) (n := n) hm).2 h)
  omega
theorem cnt_tight {m n : Nat} (hm : 0 < m) (hn : 0 < n) : 0 < cntN m n ∧ (cntN m n - 1) * m < n := by
  have h1 : 0 < cntN m n := (lt_cnt hm).2 (by simpa using hn)
  exact ⟨h1, (lt_cnt hm).1 (by omega)⟩
theorem cnt_eq {m n i : Nat} (hm : 0 < m) (h1 : i = 0 ∨ (i - 1) * m < n) (h2 : n ≤ i * m) : i = cntN m n := by
  rcases Nat.lt_trichotomy i (cntN m n) with h | h | h
  · have := (lt_cnt hm).1 h; omega
  · exact h
  · rcases h1 with rfl | h1
    · omega
    · have := (lt_cnt (i := i - 1) hm).2 h1; omega
/-- numbers of data shards -/
def OkK (k : Int) : Prop := 1 ≤ k ∧ k ≤ 14
instance (k : Int) : Decidable (OkK k) := inferInstanceAs (Decidable (_ ∧ _))
/-- Half's error, as a number -/
def halfE (k size : Int) : Nat := if OkK k then (if size < 1 then 12 else if 128 * k < size then 20 else 0) else 1
/-- Half's answer -/
def halfV (k size : Int) : Nat := if halfE k size = 0 then cntN (2 * k.toNat) size.toNat else 0
theorem half_ok {k size : Int} (h : halfE k size = 0) : ∃ a n : Nat, k = a ∧ size = n ∧ 1 ≤ a ∧ a ≤ 14 ∧ 1 ≤ n ∧ n ≤ 128 * a := by
  unfold halfE at h
  split at h
  · rename_i hk
    obtain ⟨h1, h2⟩ := hk
    split at h
    · cases h
    · split at h
      · cases h
      · exact ⟨k.toNat, size.toNat, by omega, by omega, by omega, by omega, by omega, by omega⟩
  · cases h
theorem halfE_ok {a n : Nat} (h1 : 1 ≤ a) (h2 : a ≤ 14) (h3 : 1 ≤ n) (h4 : n ≤ 128 * a) : halfE a n = 0 := by
  unfold halfE
  rw [if_pos (show OkK a from ⟨by omega, by omega⟩), if_neg (by omega), if_neg (by omega)]
theorem halfV_ok {a n : Nat} (h1 : 1 ≤ a) (h2 : a ≤ 14) (h3 : 1 ≤ n) (h4 : n ≤ 128 * a) : halfV a n = cntN (2 * a) n := by
  unfold halfV
  rw [if_pos (halfE_ok h1 h2 h3 h4)]; simp
theorem halfV_no {k size : Int} (h : halfE k size ≠ 0) : halfV k size = 0 := by unfold halfV; rw [if_neg h]
/-- what H is held to -/
theorem cnt_half {a n : Nat} (h1 : 1 ≤ a) (h2 : a ≤ 14) (h3 : 1 ≤ n) (h4 : n ≤ 128 * a) : 1 ≤ cntN (2 * a) n ∧ cntN (2 * a) n ≤ 64 ∧ n ≤ 2 * a * cntN (2 * a) n ∧ 2 * a * (cntN (2 * a) n - 1) < n := by
  obtain ⟨e1, e2⟩ := cnt_tight (m := 2 * a) (n := n) (by omega) (by omega)
  have e3 := cnt_cover (m := 2 * a) (n := n) (by omega)
  have e4 : ¬ 64 < cntN (2 * a) n := fun h => by
    have := (lt_cnt (m := 2 * a) (n := n) (by omega)).1 h
    omega
  refine ⟨e1, by omega, by rw [Nat.mul_comm]; exact e3, by rw [Nat.mul_comm]; exact e2⟩
/-- Stripes' error, as a number -/
def stripesE (k size : Int) : Nat := if OkK k then (if size < 0 then 12 else if 4096 < size then 20 else 0) else 1
theorem stripes_ok {k size : Int} (h : stripesE k size = 0) : ∃ a n : Nat, k = a ∧ size = n ∧ 1 ≤ a ∧ a ≤ 14 ∧ n ≤ 4096 := by
  unfold stripesE at h
  split at h
  · rename_i hk
    obtain ⟨h1, h2⟩ := hk
    split at h
    · cases h
    · split at h
      · cases h
      · exact ⟨k.toNat, size.toNat, by omega, by omega, by omega, by omega, by omega⟩
  · cases h
theorem stripesE_ok {a n : Nat} (h1 : 1 ≤ a) (h2 : a ≤ 14) (h4 : n ≤ 4096) : stripesE a n = 0 := by
  unfold stripesE
  rw [if_pos (show OkK a from ⟨by omega, by omega⟩), if_neg (by omega), if_neg (by omega)]
/-- the first i sizes of pieces of m of n -/
def strL (m n i : Nat) : List Int := (List.range i).map fun j => ((min (n - j * m) m : Nat) : Int)
theorem strL_len (m n i : Nat) : (strL m n i).length = i := by simp [strL]
theorem strL_succ (m n i : Nat) : strL m n (i + 1) = strL m n i ++ [((min (n - i * m) m : Nat) : Int)] := by simp [strL, List.range_succ]
theorem strL_at {m n i j : Nat} (h : j < i) : (strL m n i)[j]? = some ((min (n - j * m) m : Nat) : Int) := by simp [strL, h]
/-- Stripes' answer -/
def stripesL (k size : Int) : List Int := if stripesE k size = 0 then strL (128 * k.toNat) size.toNat (cntN (128 * k.toNat) size.toNat) else []
theorem stripesL_ok {a n : Nat} (h1 : 1 ≤ a) (h2 : a ≤ 14) (h4 : n ≤ 4096) : stripesL a n = strL (128 * a) n (cntN (128 * a) n) := by
  unfold stripesL
  rw [if_pos (stripesE_ok h1 h2 h4)]; simp
theorem stripesL_no {k size : Int} (h : stripesE k size ≠ 0) : stripesL k size = [] := by unfold stripesL; rw [if_neg h]
theorem cnt_stripes {a n : Nat} (h1 : 1 ≤ a) (h4 : n ≤ 4096) : cntN (128 * a) n ≤ 32 := by
  apply Decidable.byContradiction
  intro h
  have := (lt_cnt (m := 128 * a) (n := n) (by omega)).1 (show 32 < _ by omega)
  omega
/-- half v of H bytes -/
def hf (H : Nat) (xs : List F) (v : Nat) : List F := rowF H (fun i => at8 xs (v * H + i))
theorem hf_len (H : Nat) (xs : List F) (v : Nat) : (hf H xs v).length = H := rowF_len _ _
/-- a stripe's bytes, filled up -/
def padF (m : Nat) (xs : List F) : List F := rowF m (at8 xs)
theorem padF_len (m : Nat) (xs : List F) : (padF m xs).length = m := rowF_len _ _
theorem pad_eq {m : Nat} {xs : List F} (h : xs.length ≤ m) : xs ++ (zeros m).drop xs.length = padF m xs := by
  refine rowF_eq (by rw [List.length_append, List.length_drop, zeros_len]; omega) fun j hj => ?_
  by_cases hl : j < xs.length
  · rw [at8_left hl]
  · rw [at8_right (by omega), at8_drop, at8_zeros, at8_over (by omega)]
theorem at8_padF {m j : Nat} {xs : List F} (h : j < m) : at8 (padF m xs) j = at8 xs j := at8_rowF h
theorem flat_at {c : Nat} : ∀ {L : List (List F)} {i j : Nat}, (∀ xs ∈ L, xs.length = c) → i < L.length → j < c → at8 L.flatten (i * c + j) = at8 (L.getD i []) j
  | [], i, j, _, hi, _ => absurd hi (by simp)
  | xs :: L, 0, j, h, _, hj => by
    have h0 := h xs (List.mem_cons_self ..)
    rw [Nat.zero_mul, Nat.zero_add, List.flatten_cons, at8_left (by omega)]
    rfl
  | xs :: L, i + 1, j, h, hi, hj => by
    have h0 := h xs (List.mem_cons_self ..)
    rw [List.flatten_cons, at8_right (by rw [h0, Nat.add_mul]; omega), h0, Nat.add_mul, Nat.one_mul, show i * c + c + j - c = i * c + j from by omega, flat_at (fun ys hy => h ys (List.mem_cons_of_mem _ hy)) (by simpa using hi) hj]
    rfl
/-- the halves of a stripe, one behind the other, begin with its bytes -/
theorem flat_halves (H c : Nat) (xs : List F) : ((List.range c).map (hf H xs)).flatten = padF (c * H) xs := by
  have h1 : ∀ ys ∈ (List.range c).map (hf H xs), ys.length = H := fun ys hy => by
    obtain ⟨v, _, rfl⟩ := List.mem_map.1 hy
    exact hf_len _ _ _
  refine rowF_eq (by rw [flat_len h1]; simp) fun p hp => ?_
  obtain ⟨i, j, hi, hj, rfl⟩ := split_place hp
  rw [flat_at h1 (by simpa using hi) hj, List.getD_eq_getElem?_getD, List.getElem?_map, List.getElem?_range hi]
  exact at8_rowF hj
theorem take_pad {m : Nat} {xs : List F} (h : xs.length ≤ m) : (padF m xs).take xs.length = xs := by
  rw [← pad_eq h, List.take_left]
end Go.Proofs.YtmlpijlcpeoeaaaDoor

/- What the named variables of package api hold, by the rows' condition: errors, each of a block of its own. -/
namespace Go.Proofs.YtmlpijlcpeoeaaaDoor
open Go.RowKit Go.ChangeShapes
set_option linter.unusedVariables false
set_option maxRecDepth 20000
theorem cellsES : Tryd.prog.cellsOf 157 = 1 := by kernel_rfl
theorem cellsStr : Tryd.prog.cellsOf 9 = 1 := by kernel_rfl
theorem starES : "*" ++ "errors.errorString" = "*errors.errorString" := by decide
theorem rowES (u : TypeId) (h : Tryd.prog.typeName? 3 u = some "*errors.errorString") : u = 140 :=
  typeName_ptr_named (nm := "errors.errorString") (by rw [starES]; kernel_rfl) (by kernel_rfl) (by decide) u (by rw [starES]; exact h)
/-- an error's datum -/
def errD (text : List UInt8) : DataW Unit := .iface "*errors.errorString" (.ptr (.agg [.lit (.string text)]))
def ErrsAt (W : World) (gs : List Nat) (es : List Addr) : Prop :=
  gs.length = es.length ∧ es.Nodup ∧ ∀ (k g : Nat) (a : Addr), gs[k]? = some g → es[k]? = some a → W.cell? ⟨g, 0, none⟩ = some (errAt a) ∧ ∃ c t, W.heap[a.block]? = some (.cells c t (0, 0))
theorem errs_go {W : World} : ∀ (laid : List (String × DataW Unit)) (gs : List Nat) (ps : List MemPlace), DataW.LaidVars Tryd.prog W laid ps → ps.Nodup →
    (∀ b off, MemPlace.cell b off ∈ ps → (∃ c t, W.heap[b]? = some (.cells c t (0, 0))) ∧ ∀ u v, W.cell? ⟨b, off, none⟩ = some (.iface u v) → Value.okWide Tryd.prog W .any 0 u v) →
    laid.map (fun x => Tryd.prog.globalNamed x.1) = gs.map some → (∀ g ∈ gs, (Tryd.prog.globals[g]?).map (·.type) = some 27) → (∀ x ∈ laid, ∃ text, x.2 = errD text) →
    ∃ es : List Addr, gs.length = es.length ∧ es.Nodup ∧ (∀ a ∈ es, MemPlace.cell a.block a.off ∈ ps) ∧ ∀ (k g : Nat) (a : Addr), gs[k]? = some g → es[k]? = some a → W.cell? ⟨g, 0, none⟩ = some (errAt a) ∧ ∃ c t, W.heap[a.block]? = some (.cells c t (0, 0))
  | [], [], _, _, _, _, _, _, _ => ⟨[], rfl, List.nodup_nil, fun a h => by simp at h, fun k g a h => by simp at h⟩
  | [], _ :: _, _, _, _, _, h, _, _ => by simp at h
  | _ :: _, [], _, _, _, _, h, _, _ => by simp at h
  | (n, d) :: r, g :: gs, ps, hv, hnd, hrows, hn, ht, hd => by
    obtain ⟨text, hdd⟩ := hd _ List.mem_cons_self
    simp only at hdd
    subst hdd
    obtain ⟨g0, t0, cs0, f0, p0, q0, hg0, ht0, hv0, hd0, hq, rfl⟩ := hv
    simp only [List.map_cons, List.cons.injEq] at hn
    obtain rfl := Option.some.inj (hg0.symm.trans hn.1)
    obtain rfl := Option.some.inj (ht0.symm.trans (ht _ List.mem_cons_self))
    obtain ⟨l0⟩ := cs0
    have ok0 : ∀ u v, l0 = [.iface u v] → Value.okWide Tryd.prog W .any 0 u v := fun u v e => by
      subst e
      exact (hrows g0 0 (by simp [MemPlace.row])).2 u v (by simpa using World.var?_cell hg0 hv0 0)
    obtain ⟨a0, s0, rfl, hc0, hs0, hz0, rfl⟩ := errorString_of_trod Tryd.underlying27 rowES Tryd.underlying140 Tryd.underlying157 rfl rfl Tryd.underlying9 cellsES cellsStr hd0 ok0
    have hndq : q0.Nodup := List.Nodup.sublist (List.sublist_append_right _ _) hnd
    obtain ⟨es, h1, h2, h3, h4⟩ := errs_go r gs q0 hq hndq (fun b off hm => hrows b off (List.mem_append_right _ hm)) hn.2 (fun g hg => ht g (List.mem_cons_of_mem _ hg)) (fun x hx => hd x (List.mem_cons_of_mem _ hx))
    have hm0 : MemPlace.cell a0.block a0.off ∈ MemPlace.row ⟨g0, 0, none⟩ (Array.mk [Value.iface 140 (.pointer (some a0))]).size ++ MemPlace.row a0 1 := by simp [MemPlace.row]
    refine ⟨a0 :: es, by simp [h1], List.nodup_cons.2 ⟨fun hin => ?_, h2⟩, fun a ha => ?_, fun k g a hk ha => ?_⟩
    · exact (List.nodup_append.1 hnd).2.2 _ hm0 _ (h3 _ hin) rfl
    · rcases List.mem_cons.1 ha with rfl | ha
      · exact List.mem_append_left _ hm0
      · exact List.mem_append_right _ (h3 _ ha)
    · cases k with
      | zero =>
        simp only [List.getElem?_cons_zero, Option.some.injEq] at hk ha
        subst hk ha
        exact ⟨by simpa [errAt] using World.var?_cell hg0 hv0 0, (hrows a0.block a0.off (List.mem_append_left _ hm0)).1⟩
      | succ k => exact h4 k g a (by simpa using hk) (by simpa using ha)
theorem errs_of_laid {W : World} {laid : List (String × DataW Unit)} {gs : List Nat} (h : laidMetH Tryd.prog laid W) (hp : (laid.all fun x => x.2.handleName?.isNone) = true)
    (hn : laid.map (fun x => Tryd.prog.globalNamed x.1) = gs.map some) (ht : ∀ g ∈ gs, (Tryd.prog.globals[g]?).map (·.type) = some 27) (hd : ∀ x ∈ laid, ∃ text, x.2 = errD text) : ∃ es, ErrsAt W gs es := by
  rw [MakeChecks.laidMetH_plain _ _ _ hp] at h
  obtain ⟨ps, hv, hnd, hrows⟩ := h
  obtain ⟨es, h1, h2, _, h4⟩ := errs_go laid gs ps hv hnd hrows hn ht hd
  exact ⟨es, h1, h2, h4⟩
theorem errs_at {W : World} {gs : List Nat} {es : List Addr} (h : ErrsAt W gs es) (k g : Nat) (hk : gs[k]? = some g) : ∃ a, es[k]? = some a ∧ W.cell? ⟨g, 0, none⟩ = some (errAt a) ∧ ∃ c t, W.heap[a.block]? = some (.cells c t (0, 0)) := by
  have hlt : k < es.length := by
    rw [← h.1]; exact (List.getElem?_eq_some_iff.1 hk).1
  exact ⟨es[k], List.getElem?_eq_getElem hlt, h.2.2 k g _ hk (List.getElem?_eq_getElem hlt)⟩
theorem errsAt_below {w w' : World} {gs : List Nat} {es : List Addr} (h : ErrsAt w gs es) (hb : Below w.heap.size w w') : ErrsAt w' gs es :=
  ⟨h.1, h.2.1, fun k g a hk ha => by
    obtain ⟨h1, c, t, h2⟩ := h.2.2 k g a hk ha
    exact ⟨(hb.cell (p := ⟨g, 0, none⟩) (by simpa using World.block_lt_of_cell? w _ h1)).trans h1, c, t, heap_later h2 hb⟩⟩
theorem infoPtr : ∃ i, Tryd.prog.info? 140 = some i ∧ i.comparable = true := by
  have h : (Tryd.prog.info? 140).map (·.comparable) = some true := by kernel_rfl
  cases hq : Tryd.prog.info? 140 with
  | none => simp [hq] at h
  | some i => simp only [hq, Option.map_some, Option.some.injEq] at h; exact ⟨i, rfl, h⟩
theorem infoES : ∃ j, Tryd.prog.info? 157 = some j ∧ j.size ≠ 0 := by
  have h : (Tryd.prog.info? 157).map (·.size) = some 1 := by kernel_rfl
  cases hq : Tryd.prog.info? 157 with
  | none => simp [hq] at h
  | some i => simp only [hq, Option.map_some, Option.some.injEq] at h; exact ⟨i, rfl, by omega⟩
/-- one error held against itself -/
theorem eq_same (w : World) (a : Addr) : (binOp .eql 27 (.iface 140 (.pointer (some a))) (.iface 140 (.pointer (some a)))).run Tryd.prog w = .ok (.bool true) w := by
  obtain ⟨i, h1, h2⟩ := infoPtr
  obtain ⟨j, h3, _⟩ := infoES
  exact run_eql_iface_ptr_same w a Tryd.underlying27 Tryd.underlying140 h1 h2 h3
theorem eq_other {w : World} {a b : Addr} {ca cb : Array Value} {ta tb : TypeId} (hne : a ≠ b) (ha : w.heap[a.block]? = some (.cells ca ta (0, 0))) (hb : w.heap[b.block]? = some (.cells cb tb (0, 0))) :
    (binOp .eql 27 (.iface 140 (.pointer (some a))) (.iface 140 (.pointer (some b)))).run Tryd.prog w = .ok (.bool false) w := by
  obtain ⟨i, h1, h2⟩ := infoPtr
  obtain ⟨j, h3, h4⟩ := infoES
  exact run_eql_iface_ptr_other w Tryd.underlying27 Tryd.underlying140 h1 h2 h3 h4 hne ha hb
end Go.Proofs.YtmlpijlcpeoeaaaDoor

/- What the statements' own looks at lists of numbers answer: Ints, KeptInts, SameInts; nothing that was there turns. -/
namespace Go.Proofs.YtmlpijlcpeoeaaaDoor
open Go.RowKit Gf
set_option linter.unusedVariables false
set_option maxRecDepth 20000
theorem rowI_at {w : World} {b off : Nat} {ns : List Int} (h : ∀ j n, ns[j]? = some n → w.cell? ⟨b, off + j, none⟩ = some (.int .i64 n)) (j : Nat) (hj : j < ns.length) : w.cell? ⟨b, off + j, none⟩ = some (.int .i64 (ns.getD j 0)) := by
  refine h j _ ?_
  rw [List.getD_eq_getElem?_getD, List.getElem?_eq_getElem hj]; rfl
theorem rowI_cell {w : World} {a : Option Addr} {ns : List Int} (h : RowI w a ns) {j : Nat} (hj : j < ns.length) : ∃ b off, a = some ⟨b, off, none⟩ ∧ b < w.heap.size ∧ ∀ j, j < ns.length → w.cell? ⟨b, off + j, none⟩ = some (.int .i64 (ns.getD j 0)) := by
  rcases h with e | ⟨b, off, rfl, h⟩
  · rw [e] at hj; simp at hj
  · have := World.block_lt_of_cell? w _ (rowI_at h j hj)
    exact ⟨b, off, rfl, by simpa using this, fun j hj => rowI_at h j hj⟩
def eqI (ns ms : List Int) : Bool := decide (ns = ms)
theorem eqI_true (ns : List Int) : eqI ns ns = true := by simp [eqI]
theorem eqI_ext {ns ms : List Int} (hl : ns.length = ms.length) (h : ∀ j, j < ns.length → ns.getD j 0 = ms.getD j 0) : ns = ms := by
  apply List.ext_getElem hl
  intro j h1 h2
  have := h j h1
  simpa [List.getD_eq_getElem?_getD, h1, h2] using this
theorem eqI_len {ns ms : List Int} (h : ns.length ≠ ms.length) : eqI ns ms = false := by
  simp only [eqI, decide_eq_false_iff_not]
  intro e; exact h (by rw [e])
theorem eqI_no {ns ms : List Int} {k : Nat} (h : ns.getD k 0 ≠ ms.getD k 0) : eqI ns ms = false := by
  simp only [eqI, decide_eq_false_iff_not]
  intro e; exact h (by rw [e])
/-- the marks behind a copied list of numbers -/
def marksI : List Int := [-91, -92, -93, -94]
def vis (ns : List Int) : Array Value := (ns.map (Value.int .i64)).toArray
theorem vis_size (ns : List Int) : (vis ns).size = ns.length := by simp [vis]
theorem vis_get {ns : List Int} {j : Nat} {n : Int} (h : ns[j]? = some n) : (vis ns)[j]? = some (.int .i64 n) := by simp [vis, h]
theorem rowI_front {w : World} {g : Nat} {ns ms : List Int} {t : TypeId} {fr : Nat × Nat} (h : w.heap[g]? = some (.cells (vis (ns ++ ms)) t fr)) : RowI w (some ⟨g, 0, none⟩) ns :=
  .inr ⟨g, 0, rfl, fun j n hj => by
    rw [Nat.zero_add]
    exact cellAt h j _ (vis_get (by rw [List.getElem?_append_left (List.getElem?_eq_some_iff.1 hj).1]; exact hj))⟩
theorem rowI_vis {w : World} {g : Nat} {ns : List Int} {t : TypeId} {fr : Nat × Nat} (h : w.heap[g]? = some (.cells (vis ns) t fr)) : RowI w (some ⟨g, 0, none⟩) ns :=
  .inr ⟨g, 0, rfl, fun j n hj => by rw [Nat.zero_add]; exact cellAt h j _ (vis_get hj)⟩
theorem rowI_alloc {w : World} {a : Option Addr} {ns : List Int} (h : RowI w a ns) (o : Obj) : RowI (w.alloc o) a ns := rowI_below h ((Below.refl _ _).alloc (Nat.le_refl _) _)
theorem run_appendI_room {w : World} {g n cap : Nat} {ns old ms : List Int} {a : Option Addr} {m c : Nat} (ty : TypeId) (h : w.heap[g]? = some (.cells (vis (ns ++ old)) 3 (0, 0))) (hn : n = ns.length) (hc : n + m ≤ cap) (hm : m = ms.length) (hroom : ms.length ≤ old.length) (hy : RowI w a ms) (hnil : a = none → c = 0) :
    (Builtin.append_ #[54, 54] ty #[.slice (some ⟨g, 0, none⟩) n cap, .slice a m c]).run Tryd.prog w = .ok (.slice (some ⟨g, 0, none⟩) (n + m) cap) (w.setRow g (vis (ns ++ ms ++ old.drop ms.length))) := by
  subst hn hm
  obtain ⟨i, hi, h1, h2, h3⟩ := infoI
  cases a with
  | none =>
    have hys : ms = [] := by
      rcases hy with e | ⟨b, off, e, _⟩
      · exact e
      · cases e
    subst hys
    have hc0 := hnil rfl
    subst hc0
    rw [List.append_nil, List.length_nil, List.drop_zero, setRow_self w g _ _ _ h]
    have hle : ns.length ≤ cap := by simpa using hc
    simp [Builtin.append_, run_underlying Tryd.underlying54, sizeOf, typeInfo, hi, Builtin.lenOf, Builtin.firstCells, loadCells, hle, storeCells]
  | some ad =>
    have := run_append_room (P := Tryd.prog) w 54 ty 3 i Tryd.underlying54 hi g ns.length cap _ h ad ms.length c (ms.map (Value.int .i64)) (by simp [h1]) (fun j v hv => by
      simp only [List.getElem?_map, Option.map_eq_some_iff] at hv
      obtain ⟨x, hx1, rfl⟩ := hv
      have hj : j < ms.length := (List.getElem?_eq_some_iff.1 hx1).1
      rcases hy with e' | ⟨b, off, e', hy⟩
      · rw [e'] at hj; simp at hj
      · cases e'
        have hadd : (⟨b, off, none⟩ : Addr).add j = ⟨b, off + j, none⟩ := by unfold Addr.add; split <;> simp_all
        rw [hadd, hy j _ hx1]) (fun v hv => by
      simp only [List.mem_map] at hv
      obtain ⟨x, _, rfl⟩ := hv
      rfl) hc (by simp [h1, vis_size]; omega)
    rw [this]
    congr 2
    rw [h1]
    simp only [vis, Nat.mul_one, List.length_map, List.map_append, List.toList_toArray]
    congr 1
    rw [List.take_left' (by simp), List.append_assoc, List.append_assoc, ← List.drop_drop, List.drop_left' (by simp), List.map_drop]
def zerosI (n : Nat) : List Int := List.replicate n 0
theorem madeI (n : Nat) : madeCells (Value.int .i64 0).cells n = vis (zerosI n) := by
  apply Array.ext_getElem?
  intro i
  by_cases h : i < n <;> simp [madeCells, vis, zerosI, Value.cells, h, Nat.mod_one]
theorem run_makeI_room (n : Nat) (hn : n ≤ 17592186043904) (w : World) :
    (Instr.makeSlice 54 (.int .i64 0) (.int .i64 ((n : Int) + 4))).run Tryd.prog w = .ok (.slice (some ⟨w.heap.size, 0, none⟩) 0 (n + 4)) (w.alloc (.cells (vis (zerosI (n + 4))) 3)) := by
  obtain ⟨i, hi, h1, h2, h3⟩ := infoI
  have := run_make (P := Tryd.prog) w 54 3 i _ Tryd.underlying54 hi h3 .i64 .i64 0 ((n : Int) + 4) (by omega) (by omega) (by rw [h2]; omega) (by omega)
  rw [this, h1]
  have e : ((n : Int) + 4).toNat = n + 4 := by omega
  simp only [e, Nat.mul_one, madeI, Int.toNat_zero]
theorem rowI_keep {w : World} {a : Option Addr} {ns : List Int} (h : RowI w a ns) : ∀ w', Below w.heap.size w w' → RowI w' a ns := fun w' hb => rowI_below h hb
end Go.Proofs.YtmlpijlcpeoeaaaDoor

/- What Half and Stripes of package shards answer, of all numbers; nothing that was there turns. -/
namespace Go.Proofs.YtmlpijlcpeoeaaaDoor
open Go.RowKit Gf
set_option linter.unusedVariables false
set_option maxRecDepth 20000
/-- the error of a number -/
def evV (E : Nat → Addr) (n : Nat) : Value := if n = 0 then .nilIface else errAt (E (n - 1))
theorem evV_zero (E : Nat → Addr) : evV E 0 = .nilIface := rfl
theorem evV_succ (E : Nat → Addr) (n : Nat) : evV E (n + 1) = errAt (E n) := rfl
/-- what stage 6 names -/
def ErrsE (w : World) (E : Nat → Addr) : Prop :=
  w.cell? ⟨0, 0, none⟩ = some (errAt (E 0)) ∧ w.cell? ⟨11, 0, none⟩ = some (errAt (E 11)) ∧ w.cell? ⟨19, 0, none⟩ = some (errAt (E 19))
theorem errsE_below {w w' : World} {E : Nat → Addr} (h : ErrsE w E) (hb : Below w.heap.size w w') : ErrsE w' E := ⟨cell_later hb h.1, cell_later hb h.2.1, cell_later hb h.2.2⟩
theorem scheck_ok (k : Nat) (w : World) (h1 : 1 ≤ k) (h2 : k ≤ 14) :
    Calls Tryd.prog 55 #[.int .i64 k] w fun e w' => e = .returned .nilIface ∧ w = w' := by
  have a1 : (1 : Int) ≤ k := by omega
  have a2 : (k : Int) ≤ 14 := by omega
  clear h1 h2
  go_enter Tryd.func55, Tryd.ntmps55
  go_wp2
  go_ret
  exact ⟨rfl, rfl⟩
theorem scheck_bad (k : Int) (w : World) (s : Addr) (hs : w.cell? ⟨0, 0, none⟩ = some (errAt s)) (h : ¬ OkK k) :
    Calls Tryd.prog 55 #[.int .i64 k] w fun e w' => e = .returned (errAt s) ∧ w = w' := by
  have hg : 0 < w.heap.size := by
    have := World.block_lt_of_cell? w _ hs; simpa using this
  unfold errAt at *
  by_cases h1 : k < 1
  · go_enter Tryd.func55, Tryd.ntmps55
    go_wp2
    go_ret
    exact ⟨rfl, rfl⟩
  · have h2 : 14 < k := by simp only [OkK] at h; omega
    clear h
    go_enter Tryd.func55, Tryd.ntmps55
    go_wp2
    go_ret
    exact ⟨rfl, rfl⟩
theorem most_F (k : Nat) (w : World) (h2 : k ≤ 14) :
    Calls Tryd.prog 56 #[.int .i64 k] w fun e w' => e = .returned (.int .i64 ((128 * k : Nat) : Int)) ∧ w = w' := by
  have E : Hid ((2 : Int) * k * 64 = ((128 * k : Nat) : Int)) := by show _ = _; omega
  go_enter Tryd.func56, Tryd.ntmps56
  go_wp2
  go_ret
  exact ⟨by rw [E.out]; rfl, rfl⟩
theorem half_F (k size : Int) (w : World) (E : Nat → Addr) (hE : ErrsE w E) (hs0 : -9223372036854775808 ≤ size) (hs1 : size ≤ 9223372036854775807) :
    Calls Tryd.prog 32 #[.int .i64 k, .int .i64 size] w fun e w' => e = .returned (.tuple #[.int .i64 (halfV k size), evV E (halfE k size)]) ∧ Below w.heap.size w w' := by
  have HE : Hid _ := hE
  clear hE
  by_cases hk : OkK k
  · obtain ⟨b1, b2⟩ := hk
    obtain ⟨a, rfl⟩ := Int.eq_ofNat_of_zero_le (show 0 ≤ k by omega)
    have c1 : 1 ≤ a := by omega
    have c2 : a ≤ 14 := by omega
    clear b1 b2
    by_cases h1 : size < 1
    · have e1 : halfE a size = 12 := by unfold halfE; rw [if_pos (show OkK a from ⟨by omega, by omega⟩), if_pos h1]
      rw [halfV_no (by rw [e1]; decide), e1, evV_succ]
      have h0 := HE.out.2.1
      have hg := World.block_lt_of_cell? w _ h0
      simp at hg
      clear e1
      unfold errAt at *
      go_enter Tryd.func32, Tryd.ntmps32
      go_wp2_with fail
      refine (scheck_ok _ _ c1 c2).mono ?_
      rintro e w' ⟨rfl, rfl⟩
      go_wp2
      go_region
      go_wp2
      go_ret2
      exact ⟨rfl, (Below.refl _ _).drew⟩
    · by_cases h2 : 128 * (a : Int) < size
      · have e1 : halfE a size = 20 := by unfold halfE; rw [if_pos (show OkK a from ⟨by omega, by omega⟩), if_neg h1, if_pos h2]
        rw [halfV_no (by rw [e1]; decide), e1, evV_succ]
        have h0 := HE.out.2.2
        have hg := World.block_lt_of_cell? w _ h0
        simp at hg
        have h3 : ((128 * a : Nat) : Int) < size := by omega
        clear e1 h2
        unfold errAt at *
        go_enter Tryd.func32, Tryd.ntmps32
        go_wp2_with fail
        refine (scheck_ok _ _ c1 c2).mono ?_
        rintro e w' ⟨rfl, rfl⟩
        go_wp2_with fail
        refine (most_F _ _ c2).mono ?_
        rintro e w' ⟨rfl, rfl⟩
        go_wp2
        go_region
        go_wp2
        go_ret2
        exact ⟨rfl, (Below.refl _ _).drew⟩
      · obtain ⟨n, rfl⟩ := Int.eq_ofNat_of_zero_le (show 0 ≤ size by omega)
        have d1 : 1 ≤ n := by omega
        have d2 : n ≤ 128 * a := by omega
        rw [halfV_ok c1 c2 d1 d2, halfE_ok c1 c2 d1 d2, evV_zero]
        have h3 : (n : Int) ≤ ((128 * a : Nat) : Int) := by omega
        have E2 : Hid (((n : Int) + 2 * a - 1) / (2 * a) = (cntN (2 * a) n : Nat)) := by
          have : (n : Int) + 2 * a - 1 = ((n + 2 * a - 1 : Nat) : Int) := by omega
          show _ = _
          rw [this, cntN]
          simp
        clear h1 h2
        go_enter Tryd.func32, Tryd.ntmps32
        go_wp2_with fail
        refine (scheck_ok _ _ c1 c2).mono ?_
        rintro e w' ⟨rfl, rfl⟩
        go_wp2_with fail
        refine (most_F _ _ c2).mono ?_
        rintro e w' ⟨rfl, rfl⟩
        go_wp2_with fail
        rw [E2.out]
        go_ret2
        exact ⟨rfl, Below.refl _ _⟩
  · have e1 : halfE k size = 1 := by unfold halfE; rw [if_neg hk]
    rw [halfV_no (by rw [e1]; decide), e1, evV_succ]
    have HK : Hid _ := hk
    clear hk e1
    go_enter Tryd.func32, Tryd.ntmps32
    go_wp2_with fail
    refine (scheck_bad _ _ _ HE.out.1 HK.out).mono ?_
    unfold errAt
    rintro e w' ⟨rfl, rfl⟩
    go_wp2_with fail
    go_ret2
    exact ⟨rfl, Below.refl _ _⟩
/-- sizes as the memory has them -/
def strV (m n i : Nat) : List Value := (strL m n i).map (Value.int .i64)
theorem strV_succ {m n i : Nat} {x : Int} (h : x = ((min (n - i * m) m : Nat) : Int)) : strV m n i ++ [.int .i64 x] = strV m n (i + 1) := by rw [h, strV, strV, strL_succ]; simp
theorem ownS_slice {w : World} {B i : Nat} {v : Value} {ns : List Int} (ho : w.ownsRow B 3 1 v i (ns.map (Value.int .i64))) : ∃ a cap, v = .slice a i cap ∧ RowI w a ns ∧ i = ns.length := by
  have hl := ho.1
  simp only [List.length_map, Nat.mul_one] at hl
  rcases ho.2 with ⟨rfl, h0⟩ | ⟨g, cap, cur, rfl, hg⟩
  · subst h0
    obtain rfl : ns = [] := List.eq_nil_of_length_eq_zero (by omega)
    exact ⟨none, 0, rfl, .inl rfl, rfl⟩
  · exact ⟨some ⟨g, 0, none⟩, cap, rfl, rowI_own ho, by omega⟩
end Go.Proofs.YtmlpijlcpeoeaaaDoor

/- What Split of package shards answers, of all lists of bytes; nothing that was there turns. -/
namespace Go.Proofs.YtmlpijlcpeoeaaaDoor
open Go.RowKit Gf
set_option linter.unusedVariables false
set_option maxRecDepth 20000
/-- halves as values: pieces of one block, one behind the other; the first i are there -/
def hvV (g H c i : Nat) : Array Value := ((List.range c).map fun v => if v < i then Value.slice (some ⟨g, v * H, none⟩) H H else .slice none 0 0).toArray
theorem hvV_at {g H c i v : Nat} (hv : v < i) (hc : i ≤ c) : (hvV g H c i)[v]? = some (.slice (some ⟨g, v * H, none⟩) H H) := by
  simp only [hvV, List.getElem?_toArray, List.getElem?_map]
  rw [List.getElem?_range (by omega)]
  simp [hv]
theorem hvV_next {g H c i : Nat} (hc : i < c) : (hvV g H c i)[i]? = some (.slice none 0 0) := by
  simp only [hvV, List.getElem?_toArray, List.getElem?_map]
  rw [List.getElem?_range (by omega)]
  simp
theorem hvV_set {g H c i : Nat} (hc : i < c) : (hvV g H c i).setIfInBounds i (.slice (some ⟨g, i * H, none⟩) H H) = hvV g H c (i + 1) := by
  apply Array.ext_getElem?
  intro j
  rw [Array.getElem?_setIfInBounds]
  by_cases hj : i = j
  · subst hj
    rw [if_pos rfl, if_pos (by simp [hvV]; omega), hvV_at (by omega) (by omega)]
  · rw [if_neg hj]
    simp only [hvV, List.getElem?_toArray, List.getElem?_map]
    by_cases hjc : j < c
    · rw [List.getElem?_range hjc]
      simp only [Option.map_some]
      by_cases h1 : j < i
      · rw [if_pos h1, if_pos (by omega)]
      · rw [if_neg h1, if_neg (by omega)]
    · rw [List.getElem?_eq_none (by simp; omega)]; rfl
theorem run_makeH (g H n : Nat) (hn : n ≤ 64) (w : World) :
    (Instr.makeSlice 25 (.int .i64 (n : Int)) (.int .i64 (n : Int))).run Tryd.prog w = .ok (.slice (some ⟨w.heap.size, 0, none⟩) n n) (w.alloc (.cells (hvV g H n 0) 22)) := by
  obtain ⟨i, hi, h1, h2, h3⟩ := infoS
  have := run_make (P := Tryd.prog) w 25 22 i _ Tryd.underlying25 hi h3 .i64 .i64 n n (by omega) (by omega) (by rw [h2]; omega) (by omega)
  rw [this, h1]
  have e : madeCells (Value.slice none 0 0).cells n = hvV g H n 0 := by
    apply Array.ext_getElem?
    intro i
    by_cases h : i < n <;> simp [madeCells, hvV, Value.cells, h, Nat.mod_one]
  simp only [Int.toNat_natCast, Nat.mul_one, e]
/-- the error's ways -/
theorem split_bad (k : Int) (a : Option Addr) (la ca : Nat) (w : World) (E : Nat → Addr) (hE : ErrsE w E) (hla : la ≤ 140737488355328) (h : halfE k la ≠ 0) :
    Calls Tryd.prog 29 #[.int .i64 k, .slice a la ca] w fun e w' => e = .returned (.tuple #[.slice none 0 0, evV E (halfE k la)]) ∧ Below w.heap.size w w' := by
  have HF : Hid _ := half_F k la w E hE (by omega) (by omega)
  have hv := halfV_no h
  rw [hv] at HF
  obtain ⟨s, hs⟩ : ∃ s, evV E (halfE k la) = errAt s := ⟨E (halfE k la - 1), by unfold evV; rw [if_neg h]⟩
  rw [hs] at HF ⊢
  clear hv hs h hE
  unfold errAt at *
  go_enter Tryd.func29, Tryd.ntmps29
  go_wp2_with fail
  refine Calls.mono HF.out ?_
  rintro e w1 ⟨rfl, hb⟩
  have HB : Hid _ := hb
  clear hb
  go_wp2_with fail
  go_ret2
  exact ⟨rfl, HB.out⟩
set_option maxHeartbeats 1000000 in
theorem split_ok (k n ca : Nat) (a : Option Addr) (xs : List F) (w : World) (E : Nat → Addr) (hE : ErrsE w E) (h1 : 1 ≤ k) (h2 : k ≤ 14) (h3 : 1 ≤ n) (h4 : n ≤ 128 * k) (hn : n = xs.length) (hx : Row8 w a xs) :
    Calls Tryd.prog 29 #[.int .i64 k, .slice a n ca] w fun e w' => ∃ hb g c H, e = .returned (.tuple #[.slice (some ⟨hb, 0, none⟩) c c, .nilIface]) ∧ c = 2 * k ∧ H = cntN (2 * k) n ∧ w.heap.size ≤ hb ∧ w.heap.size ≤ g ∧ g ≠ hb ∧
      w'.heap[hb]? = some (.cells (hvV g H c c) 22 (0, 0)) ∧ w'.heap[g]? = some (.cells (vfs (padF (c * H) xs)) 5 (0, 0)) ∧ Below w.heap.size w w' := by
  have HF : Hid _ := half_F k n w E hE (by omega) (by omega)
  rw [halfV_ok h1 h2 h3 h4, halfE_ok h1 h2 h3 h4, evV_zero] at HF
  obtain ⟨k1, k2, k3, k4⟩ := cnt_half h1 h2 h3 h4
  obtain ⟨c, hc⟩ : ∃ c, c = 2 * k := ⟨_, rfl⟩
  rw [← hc] at HF k1 k2 k3 k4
  generalize hH : cntN c n = H at *
  have hcH : c * H ≤ 1792 := Nat.le_trans (Nat.mul_le_mul (show c ≤ 28 by omega) k2) (by decide)
  obtain ⟨m, hm⟩ : ∃ m, m = c * H := ⟨_, rfl⟩
  have HKC : Hid ((2 : Int) * k = c) := by show _ = _; omega
  have HCM : Hid ((c : Int) * H = m) := by show _ = _; rw [hm]; simp
  have HMM : Hid _ := hm
  have HHH : Hid _ := hH
  have HCC : Hid _ := hc
  rw [← hm] at hcH k3
  have hc28 : c ≤ 28 := by omega
  have HK4 : Hid _ := k4
  have HXL : Hid _ := hn
  have HX : Hid _ := hx
  have hmkA := run_makeH (g := 0) (H := 0) c (by omega)
  clear hE h3 h4 hc hm hH k4 hn hx hmkA
  have H28 : Hid _ := fun g w => run_makeH g H c (by omega) w
  have H8 : Hid _ := fun w => run_make8 m (by omega) w
  go_enter Tryd.func29, Tryd.ntmps29
  go_wp2_with fail
  refine Calls.mono HF.out ?_
  rintro e w1 ⟨rfl, hb⟩
  have HB : Hid _ := hb
  clear hb
  have m1 := H28.out (w1.heap.size + 1) w1
  have m2 := H8.out (w1.alloc (.cells (hvV (w1.heap.size + 1) H c 0) 22))
  have hkc := HKC.out
  have hcm := HCM.out
  have hcp := run_copy8 (w1.heap.size + 1) m m a n ca (zeros m) xs ((w1.alloc (.cells (hvV (w1.heap.size + 1) H c 0) 22)).alloc (.cells (vfs (zeros m)) 5)) 3 (by rw [zeros_len]) HXL.out (by rw [zeros_len, ← HXL.out]; exact k3) (by simpa using heap_alloc_last (w1.alloc (.cells (hvV (w1.heap.size + 1) H c 0) 22)) (.cells (vfs (zeros m)) 5)) (row8_alloc (row8_alloc (row8_below HX.out HB.out) _) _)
  rw [pad_eq (by rw [← HXL.out]; exact k3)] at hcp
  have hB0 : Below w.heap.size w ((w1.alloc (.cells (hvV (w1.heap.size + 1) H c 0) 22)).alloc (.cells (vfs (zeros m)) 5)) := (HB.out.alloc HB.out.size _).alloc (by have := HB.out.size; simp; omega) _
  have z1 : w.heap.size ≤ w1.heap.size := HB.out.size
  obtain ⟨W3, hW3⟩ : ∃ W3, W3 = (((w1.alloc (.cells (hvV (w1.heap.size + 1) H c 0) 22)).alloc (.cells (vfs (zeros m)) 5)).setRow (w1.heap.size + 1) (vfs (padF m xs))) := ⟨_, rfl⟩
  rw [← hW3] at hcp
  have B1 : Hid (W3.heap[w1.heap.size]? = some (.cells (hvV (w1.heap.size + 1) H c 0) 22 (0, 0))) := by
    show _ = _
    rw [hW3, setRow_heap_other _ _ _ _ (by omega)]
    exact (Below.heap_alloc _ _ _ (by simp)).trans (heap_alloc_last w1 _)
  have B2 : Hid (W3.heap[w1.heap.size + 1]? = some (.cells (vfs (padF m xs)) 5 (0, 0))) := by
    show _ = _
    rw [hW3]
    exact setRow_heap _ _ _ _ _ _ (by simpa using heap_alloc_last (w1.alloc (.cells (hvV (w1.heap.size + 1) H c 0) 22)) (.cells (vfs (zeros m)) 5))
  have B3 : Hid (Below w.heap.size w W3) := by
    show Below _ _ _
    rw [hW3]
    exact below_row hB0 (by omega) _
  clear hW3 hB0
  have hsz : (w1.alloc (.cells (hvV (w1.heap.size + 1) H c 0) 22)).heap.size = w1.heap.size + 1 := by simp
  go_wp2
  clear hcp m1 m2
  generalize hN : w1.heap.size = N at *
  clear hN hsz
  go_loopw [36] (fun t wr => ∃ v : Nat, v ≤ c ∧ t = .int .i64 v ∧ W3.grownBy wr (some N) ∧ wr.heap[N]? = some (.cells (hvV (N + 1) H c v) 22 (0, 0))) (fun t _ => c - (intOf t).toNat)
  case atStart => exact ⟨0, by omega, rfl, World.grownBy.refl _ _, B1.out⟩
  case round =>
    obtain ⟨v, hv, rfl, hgb, hs⟩ := hrel
    have HG : Hid _ := hgb
    have HS : Hid _ := hs
    by_cases hlt : v < c
    · obtain ⟨p, hp⟩ : ∃ p, p = v * H := ⟨_, rfl⟩
      have hpm : p + H ≤ m := by
        rw [hp, HMM.out]
        have := Nat.mul_le_mul_right H (show v + 1 ≤ c from hlt)
        rw [Nat.succ_mul] at this; omega
      have m4 : (v : Int) * (H : Int) = (p : Int) := by rw [hp]; simp
      have m3 : ((v : Int) + 1) * (H : Int) = (p : Int) + (H : Int) := by rw [Int.add_mul, Int.one_mul, m4]
      have HP : Hid _ := hp
      have c1 := cellAt hs v _ (hvV_next (g := N + 1) (H := H) hlt)
      have c2 : wr.frozen? ⟨N, v, none⟩ = false := frozen_of_row _ _ _ _ _ hs
      have HT : Hid ((wr.setCell ⟨N, v, none⟩ (.slice (some ⟨N + 1, p, none⟩) H H)).heap[N]? = some (.cells (hvV (N + 1) H c (v + 1)) 22 (0, 0))) := by
        show _ = _
        rw [heap_setCell_same _ _ _ _ _ _ hs, hp, hvV_set hlt]
      clear hp hgb hs hkc hcm
      go_wp2
      exact ⟨⟨v + 1, by omega, by go_num, grownBy_setCell HG.out _, HT.out⟩, by simp [intOf]; omega⟩
    · obtain rfl : v = c := by omega
      clear hgb hs
      go_wp2
      go_ret2
      exact ⟨N, N + 1, v, H, rfl, HCC.out, by rw [← HCC.out]; exact HHH.out.symm, by omega, by omega, by omega, HS.out, by rw [← HMM.out]; exact grown_block HG.out B2.out (by omega), below_grown B3.out HG.out (by omega)⟩
/-- what Split tells of a list -/
def SplitAs (k : Int) (n : Nat) (xs : List F) (E : Nat → Addr) (w' : World) (B : Nat) (b : Option Addr) (l cap : Nat) (ev : Value) : Prop :=
  (halfE k n ≠ 0 ∧ b = none ∧ l = 0 ∧ cap = 0 ∧ ev = errAt (E (halfE k n - 1))) ∨
  (halfE k n = 0 ∧ ev = .nilIface ∧ ∃ a hb g H : Nat, k = a ∧ 1 ≤ a ∧ a ≤ 14 ∧ 1 ≤ n ∧ n ≤ 128 * a ∧ b = some ⟨hb, 0, none⟩ ∧ l = 2 * a ∧ cap = 2 * a ∧ H = cntN (2 * a) n ∧ B ≤ hb ∧ B ≤ g ∧ g ≠ hb ∧
    w'.heap[hb]? = some (.cells (hvV g H (2 * a) (2 * a)) 22 (0, 0)) ∧ w'.heap[g]? = some (.cells (vfs (padF (2 * a * H) xs)) 5 (0, 0)))
theorem split_G (k : Int) (n ca : Nat) (a : Option Addr) (xs : List F) (w : World) (E : Nat → Addr) (hE : ErrsE w E) (hn9 : n ≤ 140737488355328) (hn : n = xs.length) (hx : Row8 w a xs) :
    Calls Tryd.prog 29 #[.int .i64 k, .slice a n ca] w fun e w' => ∃ b l cap ev, e = .returned (.tuple #[.slice b l cap, ev]) ∧ SplitAs k n xs E w' w.heap.size b l cap ev ∧ Below w.heap.size w w' := by
  by_cases h : halfE k n = 0
  · obtain ⟨c, m, rfl, hm, h1, h2, h3, h4⟩ := half_ok h
    obtain rfl : n = m := by omega
    exact (split_ok c n ca a xs w E hE h1 h2 h3 h4 hn hx).mono fun e w' ⟨hb, g, d, H, he, hd, hH, l1, l2, l3, q1, q2, hB⟩ => by
      subst hd
      exact ⟨_, _, _, _, he, .inr ⟨h, rfl, c, hb, g, H, rfl, h1, h2, h3, h4, rfl, rfl, rfl, hH, l1, l2, l3, q1, q2⟩, hB⟩
  · refine (split_bad k a n ca w E hE hn9 h).mono fun e w' ⟨he, hB⟩ => ⟨_, _, _, _, he, .inl ⟨h, rfl, rfl, rfl, ?_⟩, hB⟩
    unfold evV; rw [if_neg h]
end Go.Proofs.YtmlpijlcpeoeaaaDoor

/- What the document's own Half and Stripes answer, of all numbers; nothing that was there turns. -/
namespace Go.Proofs.YtmlpijlcpeoeaaaDoor
open Go.RowKit Gf
set_option linter.unusedVariables false
set_option maxRecDepth 20000
theorem rhalf_F (k size : Int) (w : World) :
    Calls Tryd.prog 24 #[.int .i64 k, .int .i64 size] w fun e w' => e = .returned (.tuple #[.int .i64 (halfV k size), .int .i64 (halfE k size)]) ∧ w = w' := by
  by_cases hk : OkK k
  · obtain ⟨b1, b2⟩ := hk
    obtain ⟨a, rfl⟩ := Int.eq_ofNat_of_zero_le (show 0 ≤ k by omega)
    have c1 : 1 ≤ a := by omega
    have c2 : a ≤ 14 := by omega
    have g1 : (1 : Int) ≤ a := by omega
    have g2 : (a : Int) ≤ 14 := by omega
    by_cases h1 : size < 1
    · have e1 : halfE a size = 12 := by unfold halfE; rw [if_pos (show OkK a from ⟨by omega, by omega⟩), if_pos h1]
      rw [halfV_no (by rw [e1]; decide), e1]
      clear e1
      go_enter Tryd.func24, Tryd.ntmps24
      go_wp2
      go_ret2
      exact ⟨rfl, rfl⟩
    · obtain ⟨n, rfl⟩ := Int.eq_ofNat_of_zero_le (show 0 ≤ size by omega)
      have d1 : 1 ≤ n := by omega
      have HY : Hid (∀ h : Nat, (h - 1) * (2 * a) < n → n ≤ h * (2 * a) → h ≤ 64 → halfV a n = h ∧ halfE a n = 0) := fun h x1 x2 x3 => by
        have d2 : n ≤ 128 * a := by
          have := Nat.mul_le_mul_right (2 * a) x3
          omega
        exact ⟨by rw [halfV_ok c1 c2 d1 d2]; exact (cnt_eq (by omega) (.inr x1) x2).symm, halfE_ok c1 c2 d1 d2⟩
      have HN : Hid (64 * (2 * a) < n → halfV a n = 0 ∧ halfE a n = 20) := fun x => by
        have e1 : halfE a n = 20 := by unfold halfE; rw [if_pos (show OkK a from ⟨by omega, by omega⟩), if_neg h1, if_pos (by omega)]
        exact ⟨halfV_no (by rw [e1]; decide), e1⟩
      generalize halfV a n = hv at *
      generalize halfE a n = he at *
      clear b1 b2
      go_enter Tryd.func24, Tryd.ntmps24
      go_wp2
      go_loopw [6] (fun t wr => ∃ h : Nat, 1 ≤ h ∧ h ≤ 65 ∧ t = .int .i64 h ∧ Hid ((h - 1) * (2 * a) < n) ∧ wr = w) (fun t _ => 65 - (intOf t).toNat)
      case atStart => exact ⟨1, by omega, by omega, rfl, by show _ < _; omega, rfl⟩
      case round =>
        obtain ⟨h, l1, l2, rfl, HL, rfl⟩ := hrel
        by_cases hlt : h ≤ 64
        · obtain ⟨q, hq⟩ : ∃ q : Nat, q = h * (2 * a) := ⟨_, rfl⟩
          have hq2 : q ≤ 1792 := by
            rw [hq]
            exact Nat.le_trans (Nat.mul_le_mul hlt (show 2 * a ≤ 28 by omega)) (by decide)
          have HQ : Hid ((2 : Int) * a * h = (q : Int)) := by
            show _ = _
            rw [hq, Nat.mul_comm h]; simp
          have HQ2 : Hid _ := hq
          by_cases hx : n ≤ q
          · obtain ⟨r1, r2⟩ := HY.out h HL.out (by rw [← hq]; exact hx) hlt
            subst r1 r2
            have hx' : (n : Int) ≤ q := by omega
            clear hq
            have hqq := HQ.out
            go_wp2
            go_ret2
            exact ⟨rfl, rfl⟩
          · have hx' : ¬ (n : Int) ≤ q := by omega
            clear hq
            have hqq := HQ.out
            go_wp2
            exact ⟨⟨h + 1, by omega, by omega, by go_num, by show _ < _; rw [Nat.add_sub_cancel, ← HQ2.out]; omega, trivial⟩, by simp [intOf]; omega⟩
        · obtain rfl : h = 65 := by omega
          obtain ⟨r1, r2⟩ := HN.out HL.out
          subst r1 r2
          go_wp2
          go_ret2
          exact ⟨rfl, rfl⟩
  · have e1 : halfE k size = 1 := by unfold halfE; rw [if_neg hk]
    rw [halfV_no (by rw [e1]; decide), e1]
    clear e1
    by_cases h1 : k < 1
    · go_enter Tryd.func24, Tryd.ntmps24
      go_wp2
      go_ret2
      exact ⟨rfl, rfl⟩
    · have h2 : 14 < k := by simp only [OkK] at hk; omega
      clear hk
      go_enter Tryd.func24, Tryd.ntmps24
      go_wp2
      go_ret2
      exact ⟨rfl, rfl⟩
end Go.Proofs.YtmlpijlcpeoeaaaDoor

/- The chapter's worked answers of package shards hold: the function 'alive' of the statements returns true; a half lies within its block. -/
namespace Go.Proofs.YtmlpijlcpeoeaaaDoor
open Go.RowKit Gf
set_option linter.unusedVariables false
set_option maxRecDepth 20000
theorem row8_half {w : World} {g H c v : Nat} {xs : List F} {t : TypeId} {fr : Nat × Nat} (h : w.heap[g]? = some (.cells (vfs (padF (c * H) xs)) t fr)) (hv : v < c) : Row8 w (some ⟨g, v * H, none⟩) (hf H xs v) :=
  .inr ⟨g, v * H, rfl, fun j hj => by
    rw [hf_len] at hj
    have hlt := place_lt (c := H) hv hj
    rw [cell_of_row _ _ _ _ _ _ h, vfs_get _ _ (by rw [padF_len]; exact hlt), at8_padF hlt, hf, at8_rowF hj]⟩
theorem heap_alloc_any (w : World) (o : Obj) : (w.alloc o).heap[w.heap.size]? = some o := by show (w.heap.push o)[w.heap.size]? = _; simp
theorem alive6_1 : hf 2 [97, 98, 99, 100, 101] 1 = [99, 100] := by decide +kernel
theorem alive6_2 : hf 2 [97, 98, 99, 100, 101] 2 = [101, 0] := by decide +kernel
end Go.Proofs.YtmlpijlcpeoeaaaDoor

/- What Join of package shards answers, of all lists of halves; nothing that was there turns. -/
namespace Go.Proofs.YtmlpijlcpeoeaaaDoor
open Go.RowKit Gf
set_option linter.unusedVariables false
set_option maxRecDepth 20000
/-- halves in form -/
def FitP (c h : Nat) (L : List (List F)) : Prop := L.length = c ∧ ∀ xs ∈ L, xs.length = h
theorem rows8_at {w : World} {a : Option Addr} {L : List (List F)} {j : Nat} (h : Rows8 w a L) (hj : j < L.length) : ∃ b off, a = some ⟨b, off, none⟩ ∧ b < w.heap.size ∧ ∀ j xs, L[j]? = some xs → ∃ a' cap', w.cell? ⟨b, off + j, none⟩ = some (.slice a' xs.length cap') ∧ Row8 w a' xs := by
  rcases h with rfl | ⟨b, off, rfl, h⟩
  · simp at hj
  · obtain ⟨a', cap', h1, _⟩ := h j _ (List.getElem?_eq_getElem hj)
    exact ⟨b, off, rfl, by simpa using World.block_lt_of_cell? w _ h1, h⟩
set_option maxHeartbeats 1000000 in
theorem fit_F (k h l cap : Nat) (a : Option Addr) (L : List (List F)) (w : World) (hk : k ≤ 14) (hl : l = L.length) (hl9 : l ≤ 140737488355328) (hL : Rows8 w a L) :
    Calls Tryd.prog 61 #[.int .i64 k, .int .i64 h, .slice a l cap] w fun e w' => ∃ b : Bool, e = .returned (.bool b) ∧ (b = true ∧ FitP (2 * k) h L ∨ b = false ∧ ¬ FitP (2 * k) h L) ∧ w = w' := by
  have HL : Hid _ := hl
  have HR : Hid _ := hL
  by_cases h2 : l = 2 * k
  · have h2' : 2 * (k : Int) = l := by omega
    have H2 : Hid _ := h2
    clear hl hL h2
    go_enter Tryd.func61, Tryd.ntmps61
    go_wp2
    go_loopw [16] (fun t wr => ∃ j : Nat, j ≤ l ∧ t = .int .i64 j ∧ wr = w ∧ Hid (∀ i xs, i < j → L[i]? = some xs → xs.length = h)) (fun t _ => l - (intOf t).toNat)
    case atStart => exact ⟨0, by omega, rfl, rfl, fun i xs h => absurd h (by omega)⟩
    case round =>
      obtain ⟨j, hj, rfl, rfl, HI⟩ := hrel
      by_cases hlt : j < l
      · obtain ⟨b, off, rfl, hb, hc⟩ := rows8_at HR.out (show j < L.length by rw [← HL.out]; exact hlt)
        obtain ⟨xs, hxs⟩ : ∃ xs, L[j]? = some xs := ⟨_, List.getElem?_eq_getElem (by rw [← HL.out]; exact hlt)⟩
        obtain ⟨a', cap', c1, _⟩ := hc j xs hxs
        have HX : Hid _ := hxs
        clear hc hxs
        by_cases he : xs.length = h
        · subst he
          clear h2'
          go_wp2
          refine ⟨⟨j + 1, by omega, by go_num, trivial, fun i ys hi hy => ?_⟩, by simp [intOf]; omega⟩
          by_cases e : i = j
          · subst e
            obtain rfl := Option.some.inj (HX.out.symm.trans hy)
            rfl
          · exact HI.out i ys (by omega) hy
        · have he' : ¬ (xs.length : Int) = h := by omega
          have HN : Hid _ := he
          clear h2' he
          go_wp2
          go_ret
          exact ⟨false, rfl, .inr ⟨rfl, fun hf => HN.out (hf.2 xs (List.mem_of_getElem? HX.out))⟩, rfl⟩
      · obtain rfl : j = l := by omega
        go_wp2
        go_ret
        refine ⟨true, rfl, .inl ⟨rfl, by rw [← HL.out, H2.out], fun xs hx => ?_⟩, rfl⟩
        obtain ⟨i, hi, e⟩ := List.getElem_of_mem hx
        exact HI.out i xs (by rw [HL.out]; exact hi) (by rw [List.getElem?_eq_getElem hi, e])
  · have h2' : ¬ (l : Int) = 2 * k := by omega
    have H2 : Hid _ := h2
    clear hl hL h2
    go_enter Tryd.func61, Tryd.ntmps61
    go_wp2
    go_ret
    exact ⟨false, rfl, .inr ⟨rfl, fun hf => H2.out (by rw [HL.out]; exact hf.1)⟩, rfl⟩
theorem run_make8_cap (n : Nat) (hn : n ≤ 140737488351232) (w : World) :
    (Instr.makeSlice 22 (.int .i64 0) (.int .i64 (n : Int))).run Tryd.prog w = .ok (.slice (some ⟨w.heap.size, 0, none⟩) 0 n) (w.alloc (.cells (vfs (zeros n)) 5)) := by
  obtain ⟨i, hi, h1, h2, h3⟩ := info8
  have := run_make (P := Tryd.prog) w 22 5 i _ Tryd.underlying22 hi h3 .i64 .i64 0 (n : Int) (by omega) (by omega) (by rw [h2]; omega) (by omega)
  rw [this, h1]
  simp only [Int.toNat_natCast, Nat.mul_one, made8, Int.toNat_zero]
/-- the first halves, one behind the other, and room -/
theorem joinP_step {c k : Nat} {L : List (List F)} {xs : List F} (h : ∀ xs ∈ L, xs.length = c) (hx : L[k]? = some xs) :
    (L.take k).flatten ++ xs ++ (zeros ((L.length - k) * c)).drop xs.length = ofP c L (k + 1) ∧ (L.take k).flatten.length = k * c := by
  have hk : k < L.length := (List.getElem?_eq_some_iff.1 hx).1
  have hl : (L.take k).flatten.length = k * c := by
    rw [flat_len (c := c) (fun x hx => h x (List.mem_of_mem_take hx)), List.length_take, Nat.min_eq_left (by omega)]
  have hxl : xs.length = c := h xs (List.mem_of_getElem? hx)
  have hd : L[k] = xs := (List.getElem?_eq_some_iff.1 hx).2
  refine ⟨?_, hl⟩
  rw [zeros_drop, ofP, List.take_succ_eq_append_getElem hk, List.flatten_append, hd, hxl]
  simp only [List.flatten_cons, List.flatten_nil, List.append_nil]
  congr 2
  rw [show L.length - k = (L.length - (k + 1)) + 1 from by omega, Nat.succ_mul]; omega
theorem join_bad (k size : Int) (l cap : Nat) (a : Option Addr) (w : World) (E : Nat → Addr) (hE : ErrsE w E) (hs0 : -9223372036854775808 ≤ size) (hs1 : size ≤ 9223372036854775807) (h : halfE k size ≠ 0) :
    Calls Tryd.prog 37 #[.int .i64 k, .int .i64 size, .slice a l cap] w fun e w' => e = .returned (.tuple #[.slice none 0 0, evV E (halfE k size)]) ∧ Below w.heap.size w w' := by
  have HF : Hid _ := half_F k size w E hE hs0 hs1
  rw [halfV_no h] at HF
  obtain ⟨s, hs⟩ : ∃ s, evV E (halfE k size) = errAt s := ⟨E (halfE k size - 1), by unfold evV; rw [if_neg h]⟩
  rw [hs] at HF ⊢
  clear hs h hE
  unfold errAt at *
  go_enter Tryd.func37, Tryd.ntmps37
  go_wp2_with fail
  refine Calls.mono HF.out ?_
  rintro e w1 ⟨rfl, hb⟩
  have HB : Hid _ := hb
  clear hb
  go_wp2_with fail
  go_ret2
  exact ⟨rfl, HB.out⟩
set_option maxHeartbeats 1000000 in
theorem join_no (k n l cap : Nat) (a : Option Addr) (L : List (List F)) (w : World) (E : Nat → Addr) (hE : ErrsE w E) (hD : w.cell? ⟨1, 0, none⟩ = some (errAt (E 4))) (h1 : 1 ≤ k) (h2 : k ≤ 14) (h3 : 1 ≤ n) (h4 : n ≤ 128 * k)
    (hl : l = L.length) (hl9 : l ≤ 140737488355328) (hL : Rows8 w a L) (hno : ¬ FitP (2 * k) (cntN (2 * k) n) L) :
    Calls Tryd.prog 37 #[.int .i64 k, .int .i64 n, .slice a l cap] w fun e w' => e = .returned (.tuple #[.slice none 0 0, errAt (E 4)]) ∧ Below w.heap.size w w' := by
  have HF : Hid _ := half_F k n w E hE (by omega) (by omega)
  rw [halfV_ok h1 h2 h3 h4, halfE_ok h1 h2 h3 h4, evV_zero] at HF
  have HD : Hid _ := hD
  have HFI : Hid _ := fun u (hb : Below w.heap.size w u) => fit_F k (cntN (2 * k) n) l cap a L u h2 hl hl9 (rows8_below hL hb)
  have HNO : Hid _ := hno
  generalize cntN (2 * k) n = H at *
  clear hE hD hl hL hno h3 h4
  unfold errAt at *
  go_enter Tryd.func37, Tryd.ntmps37
  go_wp2_with fail
  refine Calls.mono HF.out ?_
  rintro e w1 ⟨rfl, hb⟩
  have HB : Hid _ := hb
  clear hb
  go_wp2_with fail
  refine Calls.mono (HFI.out _ HB.out) ?_
  rintro e w2 ⟨b, rfl, hbb, rfl⟩
  have hbf : b = false := by
    rcases hbb with ⟨_, h⟩ | ⟨h, _⟩
    · exact absurd h HNO.out
    · exact h
  subst hbf
  have c0 := cell_later HB.out HD.out
  have hg := World.block_lt_of_cell? _ _ c0
  simp at hg
  clear hbb
  go_wp2
  go_region
  go_wp2
  go_ret2
  exact ⟨rfl, HB.out.drew⟩
set_option maxHeartbeats 2000000 in
theorem join_ok (k n l cap : Nat) (a : Option Addr) (L : List (List F)) (w : World) (E : Nat → Addr) (hE : ErrsE w E) (h1 : 1 ≤ k) (h2 : k ≤ 14) (h3 : 1 ≤ n) (h4 : n ≤ 128 * k)
    (hl : l = L.length) (hL : Rows8 w a L) (hok : FitP (2 * k) (cntN (2 * k) n) L) :
    Calls Tryd.prog 37 #[.int .i64 k, .int .i64 n, .slice a l cap] w fun e w' => ∃ g ys, e = .returned (.tuple #[.slice (some ⟨g, 0, none⟩) n n, .nilIface]) ∧ w.heap.size ≤ g ∧ Hid (L.flatten.take n ++ ys = L.flatten) ∧
      (L.flatten.take n).length = n ∧ w'.heap[g]? = some (.cells (vfs L.flatten) 5 (0, 0)) ∧ Below w.heap.size w w' := by
  have HF : Hid _ := half_F k n w E hE (by omega) (by omega)
  rw [halfV_ok h1 h2 h3 h4, halfE_ok h1 h2 h3 h4, evV_zero] at HF
  obtain ⟨k1, k2, k3, k4⟩ := cnt_half h1 h2 h3 h4
  have hl9 : l ≤ 28 := by rw [hl, hok.1]; omega
  have HFI : Hid _ := fun u (hb : Below w.heap.size w u) => fit_F k (cntN (2 * k) n) l cap a L u h2 hl (by omega) (rows8_below hL hb)
  obtain ⟨c, hc⟩ : ∃ c, c = 2 * k := ⟨_, rfl⟩
  rw [← hc] at HF HFI k1 k2 k3 k4 hok
  generalize cntN c n = H at *
  have hcH : c * H ≤ 1792 := Nat.le_trans (Nat.mul_le_mul (show c ≤ 28 by omega) k2) (by decide)
  obtain ⟨m, hm⟩ : ∃ m, m = c * H := ⟨_, rfl⟩
  have HKC : Hid ((2 : Int) * k = c) := by show _ = _; omega
  have HCM : Hid ((c : Int) * H = m) := by show _ = _; rw [hm]; simp
  have HMM : Hid _ := hm
  rw [← hm] at hcH k3
  have HC : Hid _ := hok.1
  have HA : Hid _ := hok.2
  have hlc : l = c := by rw [hl, hok.1]
  subst hlc
  have HOK : Hid _ := hok
  have HR : Hid _ := hL
  have H8 : Hid _ := fun w => run_make8_cap m (by omega) w
  have HK3 : Hid _ := k3
  have HK4 : Hid _ := k4
  clear hE h3 h4 hc hm hl hL hok k4
  go_enter Tryd.func37, Tryd.ntmps37
  go_wp2_with fail
  refine Calls.mono HF.out ?_
  rintro e w1 ⟨rfl, hb⟩
  have HB : Hid _ := hb
  clear hb
  go_wp2_with fail
  refine Calls.mono (HFI.out _ HB.out) ?_
  rintro e w2 ⟨b, rfl, hbb, rfl⟩
  have hbf : b = true := by
    rcases hbb with ⟨h, _⟩ | ⟨_, h⟩
    · exact h
    · exact absurd HOK.out h
  subst hbf
  have m1 := H8.out w1
  have hkc := HKC.out
  have hcm := HCM.out
  clear hbb
  go_wp2
  have B1 : Hid _ := heap_alloc_last w1 (.cells (vfs (zeros m)) 5)
  have B3 : Hid _ := HB.out.alloc HB.out.size (.cells (vfs (zeros m)) 5)
  have z1 : w.heap.size ≤ w1.heap.size := HB.out.size
  clear m1 hkc hcm
  generalize hN : w1.heap.size = N at *
  generalize (w1.alloc (.cells (vfs (zeros m)) 5)) = W3 at *
  clear hN
  go_loopw [10, 35] (fun s t wr => ∃ j q : Nat, j ≤ l ∧ t = .int .i64 j ∧ s = .slice (some ⟨N, 0, none⟩) q m ∧ Hid (q = j * H) ∧ W3.grownBy wr (some N) ∧ wr.heap[N]? = some (.cells (vfs (ofP H L j)) 5 (0, 0))) (fun _ t _ => l - (intOf t).toNat)
  case atStart => exact ⟨0, 0, by omega, rfl, rfl, by show _ = _; omega, World.grownBy.refl _ _, by rw [ofP_zero, HC.out, ← HMM.out]; exact B1.out⟩
  case round =>
    obtain ⟨j, q, hj, rfl, rfl, HQ, hgb, hs⟩ := hrel
    have HG : Hid _ := hgb
    have HS : Hid _ := hs
    have hW : Below w.heap.size w wr := below_grown B3.out hgb (by omega)
    by_cases hlt : j < l
    · obtain ⟨b, off, rfl, hb, hcl⟩ := rows8_at (rows8_below HR.out hW) (show j < L.length by rw [HC.out]; exact hlt)
      obtain ⟨xs, hxs⟩ : ∃ xs, L[j]? = some xs := ⟨_, List.getElem?_eq_getElem (by rw [HC.out]; exact hlt)⟩
      obtain ⟨a', cap', c1, c2⟩ := hcl j xs hxs
      have hxl : xs.length = H := HA.out xs (List.mem_of_getElem? hxs)
      obtain ⟨e1, e2⟩ := joinP_step HA.out hxs
      have hqm : q + H ≤ m := by
        rw [HQ.out, HMM.out]
        have := Nat.mul_le_mul_right H (show j + 1 ≤ l from hlt)
        rw [Nat.succ_mul] at this; omega
      have hrun := run_append8_room (w := wr) (g := N) (n := q) (cap := m) (xs := (L.take j).flatten) (old := zeros ((L.length - j) * H)) (ys := xs) (a := a') (m := H) (c := cap') 22 hs (by rw [e2]; exact HQ.out) hqm hxl.symm (by
        rw [zeros_len, hxl]
        exact Nat.le_mul_of_pos_left H (by rw [HC.out]; omega)) c2 (fun e => by
          rcases c2 with e' | ⟨_, _, e', _⟩
          · rw [e'] at hxl; simp at hxl; omega
          · rw [e] at e'; cases e')
      rw [e1] at hrun
      rw [hxl] at c1
      have HRun : Hid _ := hrun
      have HT : Hid _ := setRow_heap _ _ _ (vfs (ofP H L (j + 1))) _ _ hs
      have HQ2 : Hid (q + H = (j + 1) * H) := by show _ = _; rw [Nat.succ_mul, HQ.out]
      clear hrun hgb hs hW hcl hxs c2 hxl e1 e2
      go_wp2_with (at_builtin; refine wpList_append_run rfl _ _ 22 rfl _ _ _ _ rfl rfl HRun.out ?_)
      exact ⟨⟨j + 1, q + H, by omega, by go_num, rfl, HQ2.out, grownBy_setRow HG.out _, HT.out⟩, by simp [intOf]; omega⟩
    · obtain rfl : j = l := by omega
      have hq : q = m := by rw [HQ.out, HMM.out]
      subst hq
      have hfl : ofP H L j = L.flatten := by
        have := ofP_done H L
        rw [HC.out] at this
        exact this
      rw [hfl] at HS
      have hlen : L.flatten.length = q := by rw [flat_len HA.out, HC.out, ← HQ.out]
      have HLE : Hid (n ≤ L.flatten.length) := by show n ≤ _; rw [hlen]; exact k3
      clear hgb hs hlen hfl
      go_wp2
      go_ret2
      exact ⟨N, L.flatten.drop n, rfl, by omega, List.take_append_drop _ _, by rw [List.length_take]; exact Nat.min_eq_left HLE.out, HS.out, hW⟩
end Go.Proofs.YtmlpijlcpeoeaaaDoor

/- Plain algebra of stage 7: lists of bytes as functions; all halves of a stripe. -/
namespace Go.Proofs.YtmlpijlcpeoeaaaDoor
open Go.RowKit Gf
set_option linter.unusedVariables false
set_option maxRecDepth 20000
/-- the bytes of lists of bytes -/
def bytesD (L : List (List F)) : Nat → Nat → F := fun v b => at8 (L.getD v []) b
/-- a stripe's data halves' bytes -/
def strD (H : Nat) (xs : List F) : Nat → Nat → F := fun v b => at8 xs (v * H + b)
theorem img_stripe {k H h c : Nat} {car : Nat → Nat} {xs : List F} (hc : 2 * k ≤ c) : imgL k car H (bytesD ((List.range c).map (hf H xs))) h = imgL k car H (strD H xs) h :=
  img_congr fun v b hv hb => by
    simp only [bytesD, List.getD_eq_getElem?_getD, List.getElem?_map]
    rw [List.getElem?_range (by omega)]
    exact at8_rowF hb
/-- all halves of a stripe -/
def encL (k r H : Nat) (xs : List F) : List (List F) := (List.range (2 * (k + r))).map (imgL k (carN (groupN k r)) H (strD H xs))
theorem encL_len (k r H : Nat) (xs : List F) : (encL k r H xs).length = 2 * (k + r) := by simp [encL]
theorem encL_all {k r H : Nat} {xs ys : List F} (h : ys ∈ encL k r H xs) : ys.length = H := by
  obtain ⟨v, _, rfl⟩ := List.mem_map.1 h
  exact imgL_len _ _ _ _ _
theorem encL_at {k r H h : Nat} {xs : List F} (hh : h < 2 * (k + r)) : (encL k r H xs)[h]? = some (imgL k (carN (groupN k r)) H (strD H xs) h) := by simp [encL, hh]
end Go.Proofs.YtmlpijlcpeoeaaaDoor

/- What combine of package code answers, of all matrices in form and as many lists of one size as columns; nothing that was there turns. -/
namespace Go.Proofs.YtmlpijlcpeoeaaaDoor
open Go.RowKit Gf
set_option linter.unusedVariables false
set_option maxRecDepth 20000
/-- lists as values, each in a block of its own -/
def rowsP (H : Nat) (gs : List (Nat × Nat)) : List Value := gs.map fun p => .slice (some ⟨p.1, 0, none⟩) H p.2
theorem rowsP_len (H : Nat) (gs : List (Nat × Nat)) : (rowsP H gs).length = gs.length := by simp [rowsP]
theorem rowsP_snoc (H : Nat) (gs : List (Nat × Nat)) (g cap : Nat) : rowsP H gs ++ [.slice (some ⟨g, 0, none⟩) H cap] = rowsP H (gs ++ [(g, cap)]) := by simp [rowsP]
theorem rowsP_at {H i : Nat} {gs : List (Nat × Nat)} {p : Nat × Nat} (h : gs[i]? = some p) : (rowsP H gs)[i]? = some (.slice (some ⟨p.1, 0, none⟩) H p.2) := by simp [rowsP, h]
/-- what row i of a combination is, byte by byte -/
def combL (c H : Nat) (xs : List F) (L : List (List F)) (i : Nat) : List F := rowF H (fun b => sumF (fun v => gm (at8 xs (i * c + v)) (bytesD L v b)) c)
theorem combL_len (c H : Nat) (xs : List F) (L : List (List F)) (i : Nat) : (combL c H xs L i).length = H := rowF_len _ _
/-- rows in blocks of their own, the later the higher -/
def RowsP (w : World) (B : Nat) (gs : List (Nat × Nat)) (f : Nat → List F) : Prop :=
  (∀ (i : Nat) (p : Nat × Nat), gs[i]? = some p → B ≤ p.1 ∧ Has8 w p.1 (f i) p.2) ∧ ∀ (i j : Nat) (p q : Nat × Nat), i < j → gs[i]? = some p → gs[j]? = some q → p.1 < q.1
theorem rowsP_nil (w : World) (B : Nat) (f : Nat → List F) : RowsP w B [] f := ⟨fun i p h => by simp at h, fun i j p q _ h => by simp at h⟩
theorem has8_later {w w' : World} {g cap : Nat} {xs : List F} (h : Has8 w g xs cap) (hb : Below w.heap.size w w') : Has8 w' g xs cap := by
  obtain ⟨cur, h1, h2⟩ := h
  exact ⟨cur, heap_later h1 hb, h2⟩
theorem has8_set_other {w : World} {g cap M j : Nat} {xs : List F} {v : Value} (h : Has8 w g xs cap) (hne : g ≠ M) : Has8 (w.setCell ⟨M, j, none⟩ v) g xs cap := by
  obtain ⟨cur, h1, h2⟩ := h
  exact ⟨cur, (heap_setCell_other _ _ _ _ hne).trans h1, h2⟩
theorem has8_lt {w : World} {g cap : Nat} {xs : List F} (h : Has8 w g xs cap) : g < w.heap.size := by
  obtain ⟨cur, h1, _⟩ := h
  exact ltHeap h1
theorem rowsP_below {w w' : World} {B : Nat} {gs : List (Nat × Nat)} {f : Nat → List F} (h : RowsP w B gs f) (hb : Below w.heap.size w w') : RowsP w' B gs f :=
  ⟨fun i p hp => ⟨(h.1 i p hp).1, has8_later (h.1 i p hp).2 hb⟩, h.2⟩
theorem rowsP_step {w w' : World} {B M g cap : Nat} {v : Value} {gs : List (Nat × Nat)} {f : Nat → List F} (h : RowsP w B gs f) (hb : Below w.heap.size w w') (hg : w.heap.size ≤ g) (hB : B ≤ g) (hM : M < w.heap.size) (hMg : ∀ (i : Nat) (p : Nat × Nat), gs[i]? = some p → p.1 ≠ M) (hr : Has8 w' g (f gs.length) cap) :
    RowsP (w'.setCell ⟨M, gs.length, none⟩ v) B (gs ++ [(g, cap)]) f := by
  refine ⟨fun i p hp => ?_, fun i j p q hij hp hq => ?_⟩
  · by_cases hi : i < gs.length
    · rw [List.getElem?_append_left hi] at hp
      exact ⟨(h.1 i p hp).1, has8_set_other (has8_later (h.1 i p hp).2 hb) (hMg i p hp)⟩
    · have e := (List.getElem?_eq_some_iff.1 hp).1
      simp at e
      obtain rfl : i = gs.length := by omega
      rw [List.getElem?_append_right (Nat.le_refl _), Nat.sub_self] at hp
      obtain rfl := Option.some.inj hp
      exact ⟨hB, has8_set_other hr (by show g ≠ M; omega)⟩
  · have ej := (List.getElem?_eq_some_iff.1 hq).1
    simp at ej
    rw [List.getElem?_append_left (by omega)] at hp
    by_cases hj : j < gs.length
    · rw [List.getElem?_append_left hj] at hq
      exact h.2 i j p q hij hp hq
    · obtain rfl : j = gs.length := by omega
      rw [List.getElem?_append_right (Nat.le_refl _), Nat.sub_self] at hq
      obtain rfl := Option.some.inj hq
      have := has8_lt (h.1 i p hp).2
      show p.1 < g
      omega
theorem rowsP_rows {w : World} {B M H R : Nat} {gs : List (Nat × Nat)} {f : Nat → List F} (h : RowsP w B gs f) (hl : gs.length = R) (hf : ∀ i, (f i).length = H) (hM : w.heap[M]? = some (.cells (slW (rowsP H gs) R) 22 (0, 0))) : Rows8 w (some ⟨M, 0, none⟩) ((List.range R).map f) := by
  refine .inr ⟨M, 0, rfl, fun j xs hj => ?_⟩
  have hjR : j < R := by have := (List.getElem?_eq_some_iff.1 hj).1; simpa using this
  rw [List.getElem?_map, List.getElem?_range hjR] at hj
  obtain rfl := Option.some.inj hj
  have hg : gs[j]? = some gs[j] := List.getElem?_eq_getElem (by omega)
  refine ⟨some ⟨gs[j].1, 0, none⟩, gs[j].2, ?_, row8_has (h.1 j _ hg).2⟩
  rw [Nat.zero_add, hf]
  exact cellAt hM j _ (slW_at (rowsP_at hg))
theorem comb_row {R c H i : Nat} {xs : List F} {L : List (List F)} (hi : i < R) (hL : L.length = c) (hLH : ∀ ys ∈ L, ys.length = H) : rowAt H (mulM c H xs L.flatten R) i = combL c H xs L i := by
  rw [mulM, rowAt_grid hi]
  refine rowF_congr fun b hb => sumF_congr fun v hv => ?_
  rw [bytesD, flat_at hLH (by omega) hb]
set_option maxHeartbeats 4000000 in
theorem ccomb_F (R c H l cap lh ch : Nat) (a ah : Option Addr) (xs : List F) (L : List (List F)) (w : World) (hR : R ≤ 64) (hc1 : 1 ≤ c) (hc : c ≤ 64) (hH : H ≤ 64) (hl : l = R * c) (hx : xs.length = R * c) (hcap : l ≤ cap) (hX : Row8 w a xs)
    (hlh : lh = c) (hL : L.length = c) (hLH : ∀ ys ∈ L, ys.length = H) (hLX : Rows8 w ah L) :
    Calls Tryd.prog 30 #[.agg #[.int .i64 R, .int .i64 c, .slice a l cap], .slice ah lh ch] w fun e w' => ∃ M gs, e = .returned (.tuple #[.slice (some ⟨M, 0, none⟩) R R, .nilIface]) ∧ w.heap.size ≤ M ∧ gs.length = R ∧
      w'.heap[M]? = some (.cells (slW (rowsP H gs) R) 22 (0, 0)) ∧ RowsP w' w.heap.size gs (combL c H xs L) ∧ Below w.heap.size w w' := by
  have HL : Hid (l = R * c) := hl
  have HX : Hid (xs.length = R * c) := hx
  have HRX : Hid (Row8 w a xs) := hX
  have HLL : Hid (L.length = c) := hL
  have HLH : Hid (∀ ys ∈ L, ys.length = H) := hLH
  have HLX : Hid (Rows8 w ah L) := hLX
  have HLc : Hid (lh = c) := hlh
  obtain ⟨b, off, rfl, hb0, hcl⟩ := rows8_at hLX (show 0 < L.length by omega)
  obtain ⟨a0, cap0, e0, -⟩ := hcl 0 _ (List.getElem?_eq_getElem (by omega))
  rw [hLH _ (List.getElem_mem _), Nat.add_zero] at e0
  have hlh0 : 0 < lh := by omega
  have hmk := run_makeS R hR
  rw [slW_nil] at hmk
  have hA := holds_new (holds_nil w) #[.int .i64 R, .int .i64 c, .slice a l cap] 65
  have HB1 : Hid (Below w.heap.size w (w.alloc (.cells #[.int .i64 R, .int .i64 c, .slice a l cap] 65))) := (Below.refl w.heap.size w).alloc (Nat.le_refl _) _
  have e1 := cell_later HB1.out e0
  have HA : Hid _ := hA
  clear hl hx hX hL hLH hLX hcl e0 hA hlh
  go_enter Tryd.func30, Tryd.ntmps30
  go_wp2_with fail
  refine Calls.mono (of_F H lh ch _ L _ hH (by have h1 := HLL.out; have h2 := HLc.out; omega) (by have := HLc.out; omega) HLH.out (rows8_below HLX.out HB1.out)) ?_
  rintro e w2 ⟨g2, n2, rfl, hn2, hg2, hh2, hb2⟩
  have HB2 : Hid (Below w.heap.size w w2) := HB1.out.trans (hb2.mono HB1.out.size)
  have HA2 : Hid _ := holds_cons (holds_later HA.out hb2) hh2
  have HN2 : Hid (n2 = lh * H) := hn2
  clear hb2 hh2 hn2 e1 HA HB1
  have c0 := cellAt (holds_at HA2.out 1 rfl) 0 _ rfl
  have c1 := cellAt (holds_at HA2.out 1 rfl) 1 _ rfl
  have c2 := cellAt (holds_at HA2.out 1 rfl) 2 _ rfl
  have HA3 : Hid _ := holds_new HA2.out #[.int .i64 lh, .int .i64 H, .slice (some ⟨g2, 0, none⟩) n2 n2] 65
  have HB3 : Hid _ := HB2.out.alloc HB2.out.size (.cells #[.int .i64 lh, .int .i64 H, .slice (some ⟨g2, 0, none⟩) n2 n2] 65)
  have z2 := ltHeap (holds_at HA2.out 1 rfl)
  have HFL : Hid (L.flatten.length = c * H) := by show _ = _; rw [flat_len HLH.out, HLL.out]
  clear HA2 HB2
  go_wp2_with fail
  obtain rfl : lh = c := HLc.out
  refine Calls.mono (product_F R lh H l cap n2 n2 a (some ⟨g2, 0, none⟩) xs L.flatten _ hR hc hH HL.out HX.out hcap (row8_below HRX.out HB3.out) HN2.out HFL.out (Nat.le_refl _) (holds_row HA3.out 1 rfl)) ?_
  rintro e w4 ⟨g4, n4, rfl, hn4, hg4, hh4, hb4⟩
  have HB4 : Hid (Below w.heap.size w w4) := HB3.out.trans (hb4.mono HB3.out.size)
  have HH4 : Hid (w4.heap[g4]? = some (.cells (vfs (mulM lh H xs L.flatten R)) 5 (0, 0))) := hh4
  have HN4 : Hid (n4 = R * H) := hn4
  clear hb4 hh4 hn4 c0 c1 c2 z2 HA3 HB3 hg2 hg4 HN2 HFL
  go_wp2
  have hz4 := HB4.out.size
  have hA5 := holds_new (holds_new (holds_cons (holds_nil w4) HH4.out) #[.int .i64 R, .int .i64 H, .slice (some ⟨g4, 0, none⟩) n4 n4] 65) (slW [] R) 22
  rw [World.size_alloc] at hA5
  have HB5 : Hid (Below w.heap.size w ((w4.alloc (.cells #[.int .i64 R, .int .i64 H, .slice (some ⟨g4, 0, none⟩) n4 n4] 65)).alloc (.cells (slW [] R) 22))) := (HB4.out.alloc hz4 _).alloc (by simp; omega) _
  have HA5 : Hid _ := hA5
  clear hA5 HB4 HH4 hmk
  generalize ((w4.alloc (.cells #[.int .i64 R, .int .i64 H, .slice (some ⟨g4, 0, none⟩) n4 n4] 65)).alloc (.cells (slW [] R) 22)) = W5 at *
  generalize hP : w4.heap.size = P at *
  generalize hM : P + 1 = M at *
  have hM0 : w.heap.size ≤ M := by omega
  have hPM : P ≠ M := by omega
  have hgM : g4 ≠ M := kind_ne (holds_at HA5.out 2 rfl) (holds_at HA5.out 0 rfl) (by decide)
  clear hP hM
  go_loopw [37] (fun i wr => ∃ j : Nat, ∃ gs : List (Nat × Nat), j ≤ R ∧ i = .int .i64 j ∧ gs.length = j ∧ Below w.heap.size w wr ∧
    Holds wr [(M, .cells (slW (rowsP H gs) R) 22 (0, 0)), (P, .cells #[.int .i64 R, .int .i64 H, .slice (some ⟨g4, 0, none⟩) n4 n4] 65 (0, 0)), (g4, .cells (vfs (mulM lh H xs L.flatten R)) 5 (0, 0))] ∧
    RowsP wr w.heap.size gs (combL lh H xs L)) (fun i _ => R - (intOf i).toNat)
  case atStart => exact ⟨0, [], by omega, rfl, rfl, HB5.out, HA5.out, rowsP_nil _ _ _⟩
  case round =>
    obtain ⟨j, gs, hj, rfl, hgs, hb, hh, hrows⟩ := hrel
    have HB : Hid _ := hb
    have HH : Hid _ := hh
    have HR : Hid (RowsP wr w.heap.size gs (combL lh H xs L)) := hrows
    have HGS : Hid (gs.length = j) := hgs
    clear hb hh hrows hgs
    by_cases hlt : j < R
    · have c0 := cellAt (holds_at HH.out 1 rfl) 0 _ rfl
      have c1 := cellAt (holds_at HH.out 1 rfl) 1 _ rfl
      have c2 := cellAt (holds_at HH.out 1 rfl) 2 _ rfl
      go_wp2_with fail
      refine Calls.mono (row_F R H n4 n4 j (some ⟨g4, 0, none⟩) (mulM lh H xs L.flatten R) _ hR hH HN4.out (mulM_len _ _ _ _ _) (Nat.le_refl _) (holds_row HH.out 2 rfl) (fun h => by cases h) hlt) ?_
      rintro e w6 ⟨a6, cap6, rfl, _, _, hg6, hb6⟩
      obtain ⟨g6, rfl, hg6, hr6⟩ := hg6 (by simp)
      rw [comb_row hlt HLL.out HLH.out] at hr6
      have hz := HB.out.size
      have hlM := ltHeap (holds_at HH.out 0 rfl)
      have hs6 := heap_later (holds_at HH.out 0 rfl) hb6
      have hg6M : g6 ≠ M := by omega
      have hS := HGS.out
      have c7 : w6.cell? ⟨M, j, none⟩ = some (.slice none 0 0) := cellAt hs6 j _ (by have e := slW_next (vs := rowsP H gs) (r := R) (by rw [rowsP_len, hS]; exact hlt); rwa [rowsP_len, hS] at e)
      have c8 : w6.frozen? ⟨M, j, none⟩ = false := frozen_of_row _ _ _ _ _ hs6
      have HRX' : Hid (RowsP (w6.setCell ⟨M, j, none⟩ (.slice (some ⟨g6, 0, none⟩) H cap6)) w.heap.size (gs ++ [(g6, cap6)]) (combL lh H xs L)) := by
        have := rowsP_step (v := .slice (some ⟨g6, 0, none⟩) H cap6) (M := M) (cap := cap6) HR.out hb6 hg6 (by omega) hlM (fun i p hp => by
          obtain ⟨cur, h1, _⟩ := (HR.out.1 i p hp).2
          exact kind_ne h1 (holds_at HH.out 0 rfl) (by decide)) (by rw [hS]; exact hr6)
        rwa [hS] at this
      have HT6 : Hid ((w6.setCell ⟨M, j, none⟩ (.slice (some ⟨g6, 0, none⟩) H cap6)).heap[M]? = some (.cells (slW (rowsP H (gs ++ [(g6, cap6)])) R) 22 (0, 0))) := by
        show _ = _
        have e := slW_set (.slice (some ⟨g6, 0, none⟩) H cap6) (vs := rowsP H gs) (r := R) (by rw [rowsP_len, hS]; exact hlt)
        rw [rowsP_len, hS, rowsP_snoc] at e
        rw [heap_setCell_same _ _ _ _ _ _ hs6, e]
      have hX0 := holds_later HH.out hb6
      have HHX : Hid (Holds (w6.setCell ⟨M, j, none⟩ (.slice (some ⟨g6, 0, none⟩) H cap6)) [(M, .cells (slW (rowsP H (gs ++ [(g6, cap6)])) R) 22 (0, 0)), (P, .cells #[.int .i64 R, .int .i64 H, .slice (some ⟨g4, 0, none⟩) n4 n4] 65 (0, 0)), (g4, .cells (vfs (mulM lh H xs L.flatten R)) 5 (0, 0))]) :=
        holds_cons (holds_cons (holds_cons (holds_nil _) ((heap_setCell_other _ _ _ _ hgM).trans (holds_at hX0 2 rfl))) ((heap_setCell_other _ _ _ _ hPM).trans (holds_at hX0 1 rfl))) HT6.out
      have HBX : Hid (Below w.heap.size w (w6.setCell ⟨M, j, none⟩ (.slice (some ⟨g6, 0, none⟩) H cap6))) := (HB.out.trans (hb6.mono HB.out.size)).setCell (by show w.heap.size ≤ M; omega) _
      clear hs6 hb6 hr6 hX0 c0 c1 c2 hS
      go_wp2
      exact ⟨⟨j + 1, gs ++ [(g6, cap6)], by omega, by go_num, by simp [HGS.out], HBX.out, HHX.out, HRX'.out⟩, by simp [intOf]; omega⟩
    · obtain rfl : j = R := by omega
      go_wp2
      go_ret2
      exact ⟨M, gs, rfl, hM0, HGS.out, holds_at HH.out 0 rfl, HR.out, HB.out⟩
end Go.Proofs.YtmlpijlcpeoeaaaDoor

/- What small numbers in decimal, and names of halves, answer: the library's Itoa, nameOf, Name, Parse of package half, the document's own Number and Name; nothing that was there turns. -/
namespace Go.Proofs.YtmlpijlcpeoeaaaDoor
open Go.RowKit Gf
set_option linter.unusedVariables false
set_option maxRecDepth 20000
/-- a number below a hundred in decimal -/
def numB (n : Nat) : List UInt8 := if n < 10 then [UInt8.ofNat (48 + n)] else [UInt8.ofNat (48 + n / 10), UInt8.ofNat (48 + n % 10)]
/-- bytes as a string -/
def strB (l : List UInt8) : ByteArray := ⟨l.toArray⟩
theorem numB_dec {n : Nat} (h : n < 100) : Lib.decDigits n = numB n := by
  by_cases h1 : n < 10
  · rw [Lib.decDigits_one h1, numB, if_pos h1]
  · rw [Lib.decDigits_two h1 h, numB, if_neg h1]
theorem small_ba (x : ByteArray) (l : List UInt8) (h : x.data.toList = l) : x = strB l := by
  subst h
  cases x
  simp [strB]
theorem extr_data (x : ByteArray) (i j : Nat) : (x.extract i j).data.toList = (x.data.toList.drop i).take (j - i) := by
  simp [ByteArray.data_extract]
/-- a half's name -/
def nameB (k h : Nat) : List UInt8 := (if h / 2 < k then 100 :: numB (h / 2) else 112 :: numB (h / 2 - k)) ++ [if h % 2 = 0 then 97 else 98]
theorem ab0 : (⟨#[97, 98]⟩ : ByteArray).extract 0 1 = strB [97] := by decide +kernel
theorem ab1 : (⟨#[97, 98]⟩ : ByteArray).extract 1 2 = strB [98] := by decide +kernel
theorem strB_app (a b : List UInt8) : strB a ++ strB b = strB (a ++ b) := by
  apply ByteArray.ext
  simp [strB]
theorem strB_size (l : List UInt8) : (strB l).size = l.length := by simp [strB, ByteArray.size]
theorem numB_size (n : Nat) : (strB (numB n)).size ≤ 2 := by
  rw [strB_size, numB]
  split <;> simp
theorem strB_one (c : UInt8) : (⟨#[c]⟩ : ByteArray) = strB [c] := rfl
theorem strB_nil : (⟨#[]⟩ : ByteArray) = strB [] := rfl
theorem strB_inj {a b : List UInt8} (h : strB a = strB b) : a = b := by
  have := congrArg (fun x => x.data.toList) h
  simpa [strB] using this
def dig (d : Nat) : UInt8 := UInt8.ofNat (48 + d)
theorem numB_one {n : Nat} (h : n < 10) : numB n = [dig n] := if_pos h
theorem numB_two {n : Nat} (h : ¬ n < 10) : numB n = [dig (n / 10), dig (n % 10)] := if_neg h
theorem strB_list (l : List UInt8) : (strB l).toList = l := by simp [strB]
theorem strB_some {l : List UInt8} (h : l ≠ []) : (strB l).toList.isEmpty = false := by rw [strB_list]; cases l with | nil => exact absurd rfl h | cons => rfl
theorem numB_ne (n : Nat) : numB n ≠ [] := by rw [numB]; split <;> simp
def emptyN : Value → Nat | .string b => if b.size = 0 then 1 else 0 | _ => 0
theorem vf_digit {d : Nat} (h : d < 10) : Value.int .u8 (48 + (d : Int)) = vf (dig d) := by
  have : (UInt8.ofNat (48 + d)).toNat = 48 + d := by rw [UInt8.toNat_ofNat']; omega
  simp only [vf, dig, this]
  simp
theorem conv_digit {d : Nat} (h : d < 10) (w : World) : (convert 22 9 (.slice (some ⟨w.heap.size, 0, none⟩) 1 1)).run Tryd.prog (w.alloc (.cells #[.int .u8 (48 + (d : Int))] 5)) = .ok (.string (strB [dig d])) (w.alloc (.cells #[.int .u8 (48 + (d : Int))] 5)) := by
  rw [vf_digit h]
  exact conv8 (xs := [dig d]) rfl (row8_own (heap_alloc_last w (.cells (vfs [dig d]) 5)))
end Go.Proofs.YtmlpijlcpeoeaaaDoor

/- What Name and Parse of package half answer, at all numbers and texts; unlike halves have unlike names; nothing that was there turns. -/
namespace Go.Proofs.YtmlpijlcpeoeaaaDoor
open Go.RowKit Gf
set_option linter.unusedVariables false
set_option maxRecDepth 20000
theorem strB_eq {a b : List UInt8} (h : a = b) : ((strB a).toList == (strB b).toList) = true := by rw [h]; exact beq_self_eq_true _
theorem strB_ne {a b : List UInt8} (h : ¬ a = b) : ((strB a).toList == (strB b).toList) = false := by rw [strB_list, strB_list]; exact beq_eq_false_iff_ne.2 h
theorem nameB_inj : ∀ k < 15, ∀ h < 32, ∀ j < 32, nameB k h = nameB k j → h = j := by decide +kernel
theorem nameB_len : ∀ k < 15, ∀ h < 32, 3 ≤ (nameB k h).length ∧ (nameB k h).length ≤ 4 := by decide +kernel
/-- which half a name is -/
def ParsedAs (k n : Nat) (l : List UInt8) (s : Addr) (v : Value) : Prop :=
  (∃ h : Nat, h < n ∧ nameB k h = l ∧ v = .tuple #[.int .i64 h, .nilIface]) ∨ (∀ h, h < n → nameB k h ≠ l) ∧ v = .tuple #[.int .i64 0, errAt s]
end Go.Proofs.YtmlpijlcpeoeaaaDoor

/- What Row of package half answers, and Rows of numbers that aren't legal; alive of stage 5; nothing that was there turns. -/
namespace Go.Proofs.YtmlpijlcpeoeaaaDoor
open Go.RowKit Gf
set_option linter.unusedVariables false
set_option maxRecDepth 20000
set_option maxHeartbeats 1000000 in
theorem hrows_bad (k r : Int) (w : World) (s : Addr) (hs : w.cell? ⟨0, 0, none⟩ = some (errAt s)) (hk0 : -9223372036854775808 ≤ k) (hk1 : k ≤ 9223372036854775807) (hr0 : -9223372036854775808 ≤ r) (hr1 : r ≤ 9223372036854775807) (h : ¬ LegalP k r) :
    Calls Tryd.prog 28 #[.int .i64 k, .int .i64 r] w fun e w' => e = .returned (.tuple #[.agg #[.int .i64 0, .int .i64 0, .slice none 0 0], errAt s]) ∧ Below w.heap.size w w' := by
  have HB0 : Hid _ := (Below.refl w.heap.size w).alloc (Nat.le_refl _) (.cells #[.int .i64 0, .int .i64 0, .slice none 0 0] 65)
  have HA0 : Hid _ := holds_new (holds_nil w) #[.int .i64 0, .int .i64 0, .slice none 0 0] 65
  have HS : Hid _ := cell_later HB0.out hs
  have H : Hid _ := h
  clear h hs
  unfold errAt at *
  go_enter Tryd.func28, Tryd.ntmps28
  go_wp2_with fail
  refine Calls.mono (generator_bad k r _ s HS.out hk0 hk1 hr0 hr1 H.out) ?_
  unfold errAt
  rintro e w1 ⟨rfl, hb1⟩
  have HA1 : Hid _ := holds_alloc (holds_later HA0.out hb1) (.cells #[.int .i64 0, .int .i64 0, .slice none 0 0] 65)
  have hB1 := HB0.out.trans (hb1.mono HB0.out.size)
  have HB1 : Hid _ := hB1.alloc hB1.size (.cells #[.int .i64 0, .int .i64 0, .slice none 0 0] 65)
  have zz := hb1.size
  have k2 := holds_at (holds_later HA0.out hb1) 0 rfl
  have d4 : w1.frozen? ⟨w.heap.size, 0, none⟩ = false := frozen_of_row _ _ _ _ _ k2
  have d5 : w1.frozen? ⟨w.heap.size, 1, none⟩ = false := frozen_of_row _ _ _ _ _ k2
  have d6 : w1.frozen? ⟨w.heap.size, 2, none⟩ = false := frozen_of_row _ _ _ _ _ k2
  have c4 := cellAt k2 0 _ rfl
  have c5 := cellAt k2 1 _ rfl
  have c6 := cellAt k2 2 _ rfl
  have z4 := ltHeap k2
  have hbX : Hid _ := hb1
  clear hb1 hB1 k2
  go_wp2
  refine bodyPost_ret (v := .tuple #[.agg #[.int .i64 0, .int .i64 0, .slice none 0 0], .iface 140 (.pointer (some s))]) (by simp [results, Tryd.results28, go_sem, c4, c5, c6, z4]) rfl ⟨rfl, ?_⟩
  have hX := (((HB0.out.trans (hbX.out.mono HB0.out.size)).setCell (p := ⟨w.heap.size, 0, none⟩) (Nat.le_refl _) (.int .i64 0)).setCell (p := ⟨w.heap.size, 1, none⟩) (Nat.le_refl _) (.int .i64 0)).setCell (p := ⟨w.heap.size, 2, none⟩) (Nat.le_refl _) (.slice none 0 0)
  exact hX.alloc hX.size _
theorem rowAt_half {k r h : Nat} (hh : h < 2 * (k + r)) : rowAt (2 * k) (halfM k r) h = rowF (2 * k) (halfF k (carN (groupN k r)) h) := rowAt_grid hh
theorem alive5_row : rowF (2 * 1) (halfF 1 (carN (groupN 1 2)) 5) = [1, 142] := by decide +kernel
theorem alive5_name : strB (nameB 4 9) = ⟨#[112, 48, 98]⟩ := by decide +kernel
end Go.Proofs.YtmlpijlcpeoeaaaDoor

/- What SameLists answers of two lists that are the same, and what Apart answers of two pieces of memory that lie apart: the second one is written over. -/
namespace Go.Proofs.YtmlpijlcpeoeaaaDoor
open Go.RowKit Gf
set_option linter.unusedVariables false
set_option maxRecDepth 20000
set_option maxHeartbeats 1000000 in
theorem sameLists_F (l ca cb : Nat) (a b : Option Addr) (L : List (List F)) (w : World) (hl : l = L.length) (hl9 : l ≤ 140737488355328) (ha : Rows8 w a L) (hb : Rows8 w b L) :
    Calls Tryd.prog 15 #[.slice a l ca, .slice b l cb] w fun e w' => e = .returned (.bool true) ∧ Below w.heap.size w w' := by
  have HL : Hid _ := hl
  have HA : Hid _ := ha
  have HB : Hid _ := hb
  clear hl ha hb
  go_enter Tryd.func15, Tryd.ntmps15
  go_wp2
  go_loopw [13] (fun t wr => ∃ j : Nat, j ≤ l ∧ t = .int .i64 j ∧ Below w.heap.size w wr) (fun t _ => l - (intOf t).toNat)
  case atStart => exact ⟨0, by omega, rfl, Below.refl _ _⟩
  case round =>
    obtain ⟨j, hj, rfl, hbw⟩ := hrel
    have HBW : Hid _ := hbw
    by_cases hlt : j < l
    · obtain ⟨b1, o1, rfl, _, h1⟩ := rows8_at (rows8_below HA.out hbw) (show j < L.length by rw [← HL.out]; exact hlt)
      obtain ⟨b2, o2, rfl, _, h2⟩ := rows8_at (rows8_below HB.out hbw) (show j < L.length by rw [← HL.out]; exact hlt)
      obtain ⟨xs, hxs⟩ : ∃ xs, L[j]? = some xs := ⟨_, List.getElem?_eq_getElem (by rw [← HL.out]; exact hlt)⟩
      obtain ⟨a1, q1, e1, r1⟩ := h1 j xs hxs
      obtain ⟨a2, q2, e2, r2⟩ := h2 j xs hxs
      have c1 : ∀ w', Below wr.heap.size wr w' → w'.cell? ⟨b1, o1 + j, none⟩ = some (.slice a1 xs.length q1) := fun w' hb => cell_later hb e1
      have c2 : ∀ w', Below wr.heap.size wr w' → w'.cell? ⟨b2, o2 + j, none⟩ = some (.slice a2 xs.length q2) := fun w' hb => cell_later hb e2
      have kA := conv_keep8 (ca := q1) (show xs.length = xs.length from rfl) (row_keep r1)
      have kB := conv_keep8 (ca := q2) (show xs.length = xs.length from rfl) (row_keep r2)
      clear hbw h1 h2 hxs e1 e2 r1 r2
      go_upto_region 6 with fail
      have hR2 : Below wr.heap.size wr wr.drew := (Below.refl _ _).drew
      go_region_held3 (fun w' => Below wr.heap.size wr w') (first | assumption | (refine Below.drew ?_; assumption)) (fail)
      clear kA kB c1 c2 hR2
      go_wp2
      exact ⟨⟨j + 1, by omega, by go_num, HBW.out.drew⟩, by simp [intOf]; omega⟩
    · obtain rfl : j = l := by omega
      clear hbw
      go_wp2
      go_ret
      exact ⟨rfl, HBW.out⟩
/-- turned as far as byte o + k -/
theorem flTo_len' (xs : List F) (k : Nat) : (flTo xs k).length = xs.length := flTo_len xs k
theorem append8_growsAt {w : World} {g o n cap : Nat} {xs ys : List F} {ad : Addr} {m c : Nat} (ty : TypeId) (hx : Row8 w (some ⟨g, o, none⟩) xs) (hn : n = xs.length) (hm : m = ys.length) (hcap : cap < n + m) (hb : n + m ≤ 140737488355328)
    (hy : ∀ j, j < ys.length → w.cell? (ad.add j) = some (.int .u8 ((at8 ys j).toNat : Int))) :
    ∃ g' cap' w', (Builtin.append_ #[22, 22] ty #[.slice (some ⟨g, o, none⟩) n cap, .slice (some ad) m c]).run Tryd.prog w = .ok (.slice (some ⟨g', 0, none⟩) (n + m) cap') w' ∧
      Has8 w' g' (xs ++ ys) cap' ∧ w.grownBy w' none ∧ w.heap.size ≤ g' := by
  subst hn hm
  obtain ⟨i, hi, h1, h2, h3⟩ := info8
  obtain ⟨v', w', hrun, ho, hgr⟩ := run_append_arg_grows (P := Tryd.prog) w 22 ty 5 i _ 1 1 Tryd.underlying22 hi h3 h1 h2 rfl (by decide)
    ⟨g, o, none⟩ xs.length cap (xs.map vf) (by simp) (fun j v hv => by
      simp only [List.getElem?_map, Option.map_eq_some_iff] at hv
      obtain ⟨x, hx1, rfl⟩ := hv
      have hj : j < xs.length := (List.getElem?_eq_some_iff.1 hx1).1
      have e : at8 xs j = x := by simp [at8, hx1]
      rcases hx with e' | ⟨b, off, e', hx⟩
      · rw [e'] at hj; simp at hj
      · cases e'
        have hadd : (⟨g, o, none⟩ : Addr).add j = ⟨g, o + j, none⟩ := by unfold Addr.add; split <;> simp_all
        rw [hadd, hx j hj, e]; rfl)
    ad ys.length c (ys.map vf) (by simp) (fun j v hv => by
      simp only [List.getElem?_map, Option.map_eq_some_iff] at hv
      obtain ⟨x, hx1, rfl⟩ := hv
      have hj : j < ys.length := (List.getElem?_eq_some_iff.1 hx1).1
      have e : at8 ys j = x := by simp [at8, hx1]
      rw [hy j hj, e]; rfl) hcap (by simp only [maxLen]; omega) (by omega)
  rcases ho.2 with ⟨hv, h0⟩ | ⟨g', cap', cur', hv, hge, hg', hl', hm', hs', ht'⟩
  · omega
  · subst hv
    refine ⟨g', cap', w', hrun, ⟨cur', hg', by omega, by simpa using hl', hm', ?_⟩, hgr, hge⟩
    rw [List.length_append, List.map_append, ← ht', Nat.mul_one]
theorem add_zero_at (g j : Nat) : (⟨g, 0, none⟩ : Addr).add j = ⟨g, j, none⟩ := by unfold Addr.add; split <;> simp_all
theorem row8_piece {w : World} {g o m : Nat} {xs : List F} {t : TypeId} {fr : Nat × Nat} (h : w.heap[g]? = some (.cells (vfs xs) t fr)) (ho : o + m ≤ xs.length) : Row8 w (some ⟨g, o, none⟩) ((xs.drop o).take m) :=
  .inr ⟨g, o, rfl, fun j hj => by
    rw [List.length_take, List.length_drop] at hj
    rw [cell_of_row _ _ _ _ _ _ h, vfs_get _ _ (by omega), at8_take (by omega), at8_drop]⟩
/-- Apart, where the second list is a piece of a block, full, and the first one doesn't meet it -/
theorem apart_S (gb o m n ca : Nat) (aa : Option Addr) (xs ys : List F) (w : World) (hn : n = xs.length) (ho : o + m ≤ ys.length) (hm : m ≤ 140737488351232)
    (hy : w.heap[gb]? = some (.cells (vfs (flTo ys o)) 5 (0, 0)))
    (hx : ∀ k, k ≤ m → ∀ w', w.grownBy w' (some gb) → w'.heap[gb]? = some (.cells (vfs (flTo ys (o + k))) 5 (0, 0)) → Row8 w' aa xs) :
    Calls Tryd.prog 16 #[.slice aa n ca, .slice (some ⟨gb, o, none⟩) m m] w fun e w' => e = .returned (.bool true) ∧ w.grownBy w' (some gb) ∧
      w'.heap[gb]? = some (.cells (vfs (flTo ys (o + m))) 5 (0, 0)) := by
  have k0 := conv8 (ca := ca) hn (hx 0 (Nat.zero_le _) w (World.grownBy.refl _ _) hy)
  have hgb : gb < w.heap.size := ltHeap hy
  have HX : Hid _ := hx
  have HY : Hid _ := hy
  have HN : Hid _ := hn
  have HO : Hid _ := ho
  clear hx hy hn
  go_enter Tryd.func16, Tryd.ntmps16
  go_wp2
  clear k0
  go_loopw [13] (fun i wr => ∃ k : Nat, k ≤ m ∧ i = .int .i64 k ∧ w.grownBy wr (some gb) ∧ wr.heap[gb]? = some (.cells (vfs (flTo ys (o + k))) 5 (0, 0))) (fun i _ => m - (intOf i).toNat)
  case atStart => exact ⟨0, by omega, rfl, World.grownBy.refl _ _, HY.out⟩
  case round =>
    obtain ⟨k, hk, rfl, hg1, hh1⟩ := hrel
    by_cases hlt : k < m
    · have hky : o + k < ys.length := by have := HO.out; omega
      have c1 : wr.cell? ⟨gb, o + k, none⟩ = some (.int .u8 ((at8 ys (o + k)).toNat : Int)) := by
        rw [cell_of_row _ _ _ _ _ _ hh1, vfs_get _ _ (by rw [flTo_len]; exact hky), flTo_at]
      have c2 : wr.frozen? ⟨gb, o + k, none⟩ = false := frozen_of_row _ _ _ _ _ hh1
      have ex := fl_val (at8 ys (o + k))
      have HG : Hid _ := hg1
      have HH : Hid _ := hh1
      have HS : Hid _ := flTo_succ ys (o + k) hky
      clear hg1 hh1
      go_wp2
      exact ⟨⟨k + 1, by omega, by go_num, grownBy_setCell HG.out _, by rw [heap_setCell_same _ _ _ _ _ _ HH.out, vfs_set, HS.out]; rfl⟩, by simp [intOf]; omega⟩
    · obtain rfl : k = m := by omega
      obtain ⟨zs, hzs⟩ : ∃ zs, zs = ((flTo ys (o + k)).drop o).take k := ⟨_, rfl⟩
      have hzl : k = zs.length := by
        rw [hzs, List.length_take, List.length_drop, flTo_len]
        have := HO.out
        omega
      have hzr : Row8 wr (some ⟨gb, o, none⟩) zs := by
        rw [hzs]
        exact row8_piece hh1 (by rw [flTo_len]; exact HO.out)
      have k1 := conv8 (ca := ca) HN.out (HX.out k (Nat.le_refl _) wr hg1 hh1)
      have hsz := hg1.size
      obtain ⟨g2, cap2, w2, hrun, hs2, hgr2, hge2⟩ := append8_growsAt (w := wr.alloc (.cells (vfs sevens) 5)) (g := gb) (o := o) (n := k) (cap := k) (xs := zs) (ys := sevens) (ad := ⟨wr.heap.size, 0, none⟩) (m := 8) (c := 8) 22
        (row8_alloc hzr _) hzl rfl (by omega) (by omega) (fun j hj => by
          rw [add_zero_at, World.cell?_alloc_at _ _ _ _ rfl, vfs_get _ _ hj])
      have hge : wr.heap.size + 1 ≤ g2 := by simpa using hge2
      have hgr3 : w.grownBy w2 (some gb) := grownBy_trans (grownBy_trans hg1 (World.grownBy_alloc wr (.cells (vfs sevens) 5) none) (by simp)) hgr2 (by simp)
      have hh3 : w2.heap[gb]? = some (.cells (vfs (flTo ys (o + k))) 5 (0, 0)) := (hgr2.block gb (by simp; omega) (by simp)).trans (((World.grownBy_alloc wr _ none).block gb (by omega) (by simp)).trans hh1)
      have HSV : Hid (vfs sevens = #[.int .u8 7, .int .u8 7, .int .u8 7, .int .u8 7, .int .u8 7, .int .u8 7, .int .u8 7, .int .u8 7]) := rfl
      have HR : Hid _ := hrun
      have HS2 : Hid _ := hs2
      have HG3 : Hid _ := hgr3
      have HH3 : Hid _ := hh3
      have HLS : Hid ((zs ++ sevens).length = k + 8) := by show _ = _; rw [List.length_append, ← hzl]; rfl
      clear hg1 hh1 hzr hzs hzl hrun hs2 hgr3 hh3 hgr2 hge2
      go_wp2_with (at_builtin; rw [← HSV.out]; refine wpList_append_run rfl _ _ 22 rfl _ _ _ _ rfl rfl HR.out ?_)
      clear k1
      have hg2b : g2 ≠ gb := by omega
      have hg2w : w.heap.size ≤ g2 := by omega
      go_loopw [8] (fun i wv => ∃ j : Nat, ∃ zs : List F, j ≤ 8 ∧ i = .int .i64 ((k + j : Nat) : Int) ∧ zs.length = k + 8 ∧ w2.grownBy wv (some g2) ∧ Has8 wv g2 zs cap2) (fun i _ => k + 8 - (intOf i).toNat)
      case atStart => exact ⟨0, _, by omega, rfl, HLS.out, World.grownBy.refl _ _, HS2.out⟩
      case round =>
        obtain ⟨j, zs, hj, rfl, hz, hgv, hhv⟩ := hrel
        by_cases hlt2 : j < 8
        · obtain ⟨c1, c2⟩ := has8_cell (j := k + j) hhv (by omega)
          have ex := fl_val (at8 zs (k + j))
          have HG : Hid _ := hgv
          have HS : Hid _ := has8_set (j := k + j) hhv (by omega) (fl (at8 zs (k + j)))
          have HZ : Hid _ := hz
          clear hgv hhv hz
          go_wp2
          exact ⟨⟨j + 1, zs.set (k + j) (fl (at8 zs (k + j))), by omega, by go_num, by rw [List.length_set]; exact HZ.out, grownBy_setCell HG.out _, HS.out⟩, by simp [intOf]; omega⟩
        · have hj8 : j = 8 := by omega
          have hfin : w.grownBy wr (some gb) := grownBy_trans HG3.out hgv (fun q hq _ => by simp; omega)
          have hhb : wr.heap[gb]? = some (.cells (vfs (flTo ys (o + k))) 5 (0, 0)) := (hgv.block gb (Array.getElem?_eq_some_iff.1 HH3.out).1 (fun e => hg2b (Option.some.inj e).symm)).trans HH3.out
          have k2 := conv8 (ca := ca) HN.out (HX.out k (Nat.le_refl _) wr hfin hhb)
          have HF : Hid _ := hfin
          have HB : Hid _ := hhb
          clear hgv hhv hfin hhb hz
          subst hj8
          go_wp2
          go_ret
          exact ⟨rfl, HF.out, HB.out⟩
end Go.Proofs.YtmlpijlcpeoeaaaDoor

/- What Encode of package code answers, of all numbers and lists of bytes; nothing that was there turns. -/
namespace Go.Proofs.YtmlpijlcpeoeaaaDoor
open Go.RowKit Gf
set_option linter.unusedVariables false
set_option maxRecDepth 20000
/-- which error Encode tells -/
def encE (k r n : Int) : Nat := if LegalP k r then halfE k n else 1
theorem encE_ok {k r n : Int} (h : encE k r n = 0) : ∃ a b m : Nat, k = a ∧ r = b ∧ n = m ∧ 1 ≤ a ∧ 2 ≤ b ∧ a + b ≤ 16 ∧ 1 ≤ m ∧ m ≤ 128 * a := by
  unfold encE at h
  split at h
  · rename_i hL
    obtain ⟨a, b, rfl, rfl, h1, h2, h3⟩ := legal_nat hL
    obtain ⟨c, m, hc, rfl, _, _, h4, h5⟩ := half_ok h
    exact ⟨a, b, m, rfl, rfl, rfl, h1, h2, h3, h4, by omega⟩
  · omega
theorem encE_of {k r n : Nat} (h1 : 1 ≤ k) (h2 : 2 ≤ r) (h3 : k + r ≤ 16) (h4 : 1 ≤ n) (h5 : n ≤ 128 * k) : encE k r n = 0 := by
  unfold encE; rw [if_pos (show LegalP k r from ⟨by omega, by omega, by omega⟩), halfE_ok h1 (by omega) h4 h5]
theorem halfE_25 (k n : Int) : halfE k n ≤ 25 := by unfold halfE; split <;> (try split) <;> (try split) <;> omega
theorem encE_le (k r n : Int) : encE k r n ≤ 25 := by unfold encE; split; exact halfE_25 _ _; omega
/-- the errors that Encode and Fits name -/
def ErrsF (w : World) (E : Nat → Addr) : Prop := ErrsE w E ∧ w.cell? ⟨2, 0, none⟩ = some (errAt (E 1))
theorem errsF_below {w w' : World} {E : Nat → Addr} (h : ErrsF w E) (hb : Below w.heap.size w w') : ErrsF w' E := ⟨errsE_below h.1 hb, cell_later hb h.2⟩
theorem comb_half {k r H : Nat} {L : List (List F)} {i : Nat} (hi : i < 2 * (k + r)) : combL (2 * k) H (halfM k r) L i = imgL k (carN (groupN k r)) H (bytesD L) i :=
  rowF_congr fun b _ => sumF_congr fun v hv => by rw [halfM, at8_grid hi hv]
theorem rowsP_congr {w : World} {B : Nat} {gs : List (Nat × Nat)} {f g : Nat → List F} (h : RowsP w B gs f) (e : ∀ i, i < gs.length → f i = g i) : RowsP w B gs g :=
  ⟨fun i p hp => ⟨(h.1 i p hp).1, by rw [← e i (List.getElem?_eq_some_iff.1 hp).1]; exact (h.1 i p hp).2⟩, h.2⟩
/-- all halves of a stripe in memory, each in a block of its own -/
def EncAt (w : World) (B M : Nat) (k r n : Nat) (xs : List F) (gs : List (Nat × Nat)) : Prop :=
  B ≤ M ∧ gs.length = 2 * (k + r) ∧ w.heap[M]? = some (.cells (slW (rowsP (cntN (2 * k) n) gs) (2 * (k + r))) 22 (0, 0)) ∧ RowsP w B gs (imgL k (carN (groupN k r)) (cntN (2 * k) n) (strD (cntN (2 * k) n) xs))
theorem encAt_below {w w' : World} {B M k r n : Nat} {xs : List F} {gs : List (Nat × Nat)} (h : EncAt w B M k r n xs gs) (hb : Below w.heap.size w w') : EncAt w' B M k r n xs gs := ⟨h.1, h.2.1, heap_later h.2.2.1 hb, rowsP_below h.2.2.2 hb⟩
theorem encAt_rows {w : World} {B M k r n : Nat} {xs : List F} {gs : List (Nat × Nat)} (h : EncAt w B M k r n xs gs) : Rows8 w (some ⟨M, 0, none⟩) (encL k r (cntN (2 * k) n) xs) :=
  rowsP_rows h.2.2.2 h.2.1 (fun i => imgL_len _ _ _ _ _) h.2.2.1
set_option maxHeartbeats 4000000 in
theorem encode_ok (k r n ca : Nat) (a : Option Addr) (xs : List F) (w : World) (E : Nat → Addr) (hE : ErrsF w E) (h1 : 1 ≤ k) (h2 : 2 ≤ r) (h3 : k + r ≤ 16) (h4 : 1 ≤ n) (h5 : n ≤ 128 * k) (hn : n = xs.length) (hx : Row8 w a xs) :
    Calls Tryd.prog 11 #[.int .i64 k, .int .i64 r, .slice a n ca] w fun e w' => ∃ (M c : Nat) (gs : List (Nat × Nat)), e = .returned (.tuple #[.slice (some ⟨M, 0, none⟩) c c, .nilIface]) ∧ c = 2 * (k + r) ∧
      EncAt w' w.heap.size M k r n xs gs ∧ Below w.heap.size w w' := by
  obtain ⟨k1, k2, _, _⟩ := cnt_half h1 (show k ≤ 14 by omega) h4 h5
  have HE : Hid (ErrsF w E) := hE
  have HX : Hid (Row8 w a xs) := hx
  have HN : Hid (n = xs.length) := hn
  clear hE hx hn
  obtain ⟨c2, hc2⟩ : ∃ c2, c2 = 2 * k := ⟨_, rfl⟩
  obtain ⟨cR, hcR⟩ : ∃ cR, cR = 2 * (k + r) := ⟨_, rfl⟩
  have HC2 : Hid (c2 = 2 * k) := hc2
  have HCR : Hid (cR = 2 * (k + r)) := hcR
  have HR : Hid _ := fun w s h => hrows_F k r w s h h1 h2 h3
  rw [← hc2, ← hcR] at HR
  have hcl : c2 ≤ 28 := by omega
  have hcl1 : 1 ≤ c2 := by omega
  have hRl : cR ≤ 32 := by omega
  clear hc2 hcR
  go_enter Tryd.func11, Tryd.ntmps11
  go_wp2_with fail
  refine Calls.mono (HR.out _ (E 1) HE.out.2) ?_
  rintro e w1 ⟨g1, m1, rfl, hm1, hg1, hh1, hb1⟩
  have HA1 : Hid _ := holds_new (holds_cons (holds_nil w1) hh1) #[.int .i64 cR, .int .i64 c2, .slice (some ⟨g1, 0, none⟩) m1 m1] 65
  have HB1 : Hid (Below w.heap.size w (w1.alloc (.cells #[.int .i64 cR, .int .i64 c2, .slice (some ⟨g1, 0, none⟩) m1 m1] 65))) := hb1.alloc hb1.size _
  have HM1 : Hid (m1 = cR * c2) := hm1
  clear hm1 hg1 hh1 hb1
  go_wp2_with fail
  refine Calls.mono (split_ok k n ca a xs _ E (errsE_below HE.out.1 HB1.out) h1 (by omega) h4 h5 HN.out (row8_below HX.out HB1.out)) ?_
  rintro e w2 ⟨hb2, g2, c, H, rfl, hc, hH, hz1, hz2, hne, hB2, hG2, hbl⟩
  obtain rfl : c = c2 := by rw [hc, HC2.out]
  have HH : Hid (H = cntN (2 * k) n) := hH
  have HR2 : Hid (Rows8 w2 (some ⟨hb2, 0, none⟩) ((List.range c).map (hf H xs))) := .inr ⟨hb2, 0, rfl, fun j ys hj => by
    have hjc : j < c := by have := (List.getElem?_eq_some_iff.1 hj).1; simpa using this
    rw [List.getElem?_map, List.getElem?_range hjc] at hj
    obtain rfl := Option.some.inj hj
    refine ⟨some ⟨g2, j * H, none⟩, H, ?_, row8_half hG2 hjc⟩
    rw [Nat.zero_add, hf_len]
    exact cellAt hB2 j _ (hvV_at hjc (Nat.le_refl _))⟩
  have HA2 : Hid _ := holds_later HA1.out hbl
  have HB2 : Hid (Below w.heap.size w w2) := HB1.out.trans (hbl.mono HB1.out.size)
  have hHl : H ≤ 64 := by rw [hH]; exact k2
  clear hc hH hz1 hz2 hne hB2 hG2 hbl HA1 HB1
  have c0 := cellAt (holds_at HA2.out 0 rfl) 0 _ rfl
  have c1 := cellAt (holds_at HA2.out 0 rfl) 1 _ rfl
  have c3 := cellAt (holds_at HA2.out 0 rfl) 2 _ rfl
  go_wp2_with fail
  refine Calls.mono (ccomb_F cR c H m1 m1 c c (some ⟨g1, 0, none⟩) (some ⟨hb2, 0, none⟩) (halfM k r) ((List.range c).map (hf H xs)) _ (by omega) hcl1 (by omega) hHl HM1.out (by rw [halfM_len, HCR.out, HC2.out]) (Nat.le_refl _) (holds_row HA2.out 1 rfl)
    rfl (by simp) (fun ys hy => by obtain ⟨v, _, rfl⟩ := List.mem_map.1 hy; exact hf_len _ _ _) HR2.out) ?_
  rintro e w3 ⟨M, gs, rfl, hM, hgs, hT, hrs, hb3⟩
  have HB3 : Hid (Below w.heap.size w w3) := HB2.out.trans (hb3.mono HB2.out.size)
  have HEnc : Hid (EncAt w3 w.heap.size M k r n xs gs) := by
    have hz := HB2.out.size
    refine ⟨by omega, by rw [hgs, HCR.out], by rw [← HH.out, ← HCR.out]; exact hT, ?_⟩
    have hr2 : RowsP w3 w.heap.size gs (combL c H (halfM k r) ((List.range c).map (hf H xs))) := ⟨fun i p hp => ⟨by have := (hrs.1 i p hp).1; omega, (hrs.1 i p hp).2⟩, hrs.2⟩
    refine rowsP_congr hr2 fun i hi => ?_
    rw [HC2.out, comb_half (by rw [← HCR.out, ← hgs]; exact hi), img_stripe (by omega), ← HH.out]
  clear hM hgs hT hrs hb3 c0 c1 c3
  go_wp2
  go_ret2
  exact ⟨M, cR, gs, rfl, HCR.out, HEnc.out, HB3.out⟩
set_option maxHeartbeats 2000000 in
theorem encode_bad (k r : Int) (n ca : Nat) (a : Option Addr) (w : World) (E : Nat → Addr) (hE : ErrsF w E) (hk0 : -9223372036854775808 ≤ k) (hk1 : k ≤ 9223372036854775807) (hr0 : -9223372036854775808 ≤ r) (hr1 : r ≤ 9223372036854775807) (hla : n ≤ 140737488355328) (h : encE k r n ≠ 0) :
    Calls Tryd.prog 11 #[.int .i64 k, .int .i64 r, .slice a n ca] w fun e w' => e = .returned (.tuple #[.slice none 0 0, evV E (encE k r n)]) ∧ Below w.heap.size w w' := by
  have HE : Hid (ErrsF w E) := hE
  clear hE
  by_cases hL : LegalP k r
  · obtain ⟨p, q, rfl, rfl, h1, h2, h3⟩ := legal_nat hL
    have he : encE p q n = halfE p n := by unfold encE; rw [if_pos hL]
    rw [he] at h ⊢
    have HS : Hid _ := fun u hu => split_bad p a n ca u E hu hla h
    obtain ⟨s, hs⟩ : ∃ s, evV E (halfE p n) = errAt s := ⟨E (halfE p n - 1), by unfold evV; rw [if_neg h]⟩
    rw [hs] at HS ⊢
    have HR : Hid _ := fun w s h => hrows_F p q w s h h1 h2 h3
    clear hs he h hL
    unfold errAt at HS ⊢
    go_enter Tryd.func11, Tryd.ntmps11
    go_wp2_with fail
    refine Calls.mono (HR.out _ (E 1) HE.out.2) ?_
    rintro e w1 ⟨g1, m1, rfl, hm1, hg1, hh1, hb1⟩
    have HB1 : Hid (Below w.heap.size w (w1.alloc (.cells #[.int .i64 (2 * (p + q) : Nat), .int .i64 (2 * p : Nat), .slice (some ⟨g1, 0, none⟩) m1 m1] 65))) := hb1.alloc hb1.size _
    clear hm1 hg1 hh1 hb1
    go_wp2_with fail
    refine Calls.mono (HS.out _ (errsE_below HE.out.1 HB1.out)) ?_
    rintro e w2 ⟨rfl, hb2⟩
    have HB2 : Hid (Below w.heap.size w w2) := HB1.out.trans (hb2.mono HB1.out.size)
    clear hb2
    go_wp2_with fail
    go_ret2
    exact ⟨rfl, HB2.out⟩
  · have he : encE k r n = 1 := by unfold encE; rw [if_neg hL]
    rw [he, evV_succ]
    have HR : Hid _ := fun u hu => hrows_bad k r u (E 0) hu hk0 hk1 hr0 hr1 hL
    clear he h hL
    unfold errAt at HR ⊢
    go_enter Tryd.func11, Tryd.ntmps11
    go_wp2_with fail
    refine Calls.mono (HR.out _ HE.out.1.1) ?_
    rintro e w1 ⟨rfl, hb1⟩
    have HB1 : Hid (Below w.heap.size w w1) := hb1
    clear hb1
    go_wp2_with fail
    go_ret2
    exact ⟨rfl, HB1.out.alloc HB1.out.size _⟩
end Go.Proofs.YtmlpijlcpeoeaaaDoor

/- Shards in a block of one's own: three cells each. What Shards of package code answers, of all numbers and lists of bytes. -/
namespace Go.Proofs.YtmlpijlcpeoeaaaDoor
open Go.RowKit Gf
set_option linter.unusedVariables false
set_option maxRecDepth 20000
abbrev Tri := Value × Value × Value
/-- three values to an element -/
def triL (T : List Tri) : List Value := T.flatMap fun t => [t.1, t.2.1, t.2.2]
def triC (T : List Tri) : Array Value := (triL T).toArray
def tri3 (t : Tri) : Nat → Value
  | 0 => t.1
  | 1 => t.2.1
  | _ => t.2.2
theorem triL_at : ∀ (T : List Tri) (j q : Nat), q < 3 → (triL T)[j * 3 + q]? = T[j]?.map fun t => tri3 t q
  | [], j, q, _ => by simp [triL]
  | t :: T, 0, q, h => by
    match q, h with
    | 0, _ => rfl
    | 1, _ => rfl
    | 2, _ => rfl
  | t :: T, j + 1, q, h => by
    have := triL_at T j q h
    rw [show (j + 1) * 3 + q = (j * 3 + q) + 3 by omega]
    exact this
theorem triL_set : ∀ (T : List Tri) (j : Nat) (a b c : Value), (((triL T).set (j * 3) a).set (j * 3 + 1) b).set (j * 3 + 2) c = triL (T.set j (a, b, c))
  | [], j, a, b, c => by simp [triL]
  | t :: T, 0, a, b, c => rfl
  | t :: T, j + 1, a, b, c => by
    have := triL_set T j a b c
    rw [show (j + 1) * 3 + 1 = (j * 3 + 1) + 3 by omega, show (j + 1) * 3 + 2 = (j * 3 + 2) + 3 by omega, show (j + 1) * 3 = (j * 3) + 3 by omega]
    show t.1 :: t.2.1 :: t.2.2 :: (((triL T).set (j * 3) a).set (j * 3 + 1) b).set (j * 3 + 2) c = _
    rw [this]; rfl
theorem triC_at {T : List Tri} {j q : Nat} {t : Tri} (h : T[j]? = some t) (hq : q < 3) : (triC T)[j * 3 + q]? = some (tri3 t q) := by
  show (triL T).toArray[j * 3 + q]? = _
  rw [List.getElem?_toArray, triL_at T j q hq, h]; rfl
theorem triC_set (T : List Tri) (j : Nat) (a b c : Value) : (((triC T).setIfInBounds (j * 3) a).setIfInBounds (j * 3 + 1) b).setIfInBounds (j * 3 + 2) c = triC (T.set j (a, b, c)) := by
  apply Array.toList_inj.1
  simp only [Array.toList_setIfInBounds, triC]
  exact triL_set T j a b c
/-- the zero of a shard -/
def zeroT : Tri := (.int .i64 0, .slice none 0 0, .slice none 0 0)
theorem infoT : ∃ i, Tryd.prog.info? 38 = some i ∧ i.size = 3 ∧ i.bytes = 56 ∧ i.zero = some (.agg #[.int .i64 0, .slice none 0 0, .slice none 0 0]) := by
  have hi : (Tryd.prog.info? 38).map (fun i => (i.size, i.bytes, i.zero)) = some (3, 56, some (.agg #[.int .i64 0, .slice none 0 0, .slice none 0 0])) := by kernel_rfl
  cases hq : Tryd.prog.info? 38 with
  | none => simp [hq] at hi
  | some i =>
    simp only [hq, Option.map_some, Option.some.injEq, Prod.mk.injEq] at hi
    exact ⟨i, rfl, hi.1, hi.2.1, hi.2.2⟩
theorem run_makeT (n : Nat) (hn : n ≤ 64) (w : World) :
    (Instr.makeSlice 30 (.int .i64 (n : Int)) (.int .i64 (n : Int))).run Tryd.prog w = .ok (.slice (some ⟨w.heap.size, 0, none⟩) n n) (w.alloc (.cells (triC (List.replicate n zeroT)) 38)) := by
  obtain ⟨i, hi, h1, h2, h3⟩ := infoT
  have := run_make (P := Tryd.prog) w 30 38 i _ Tryd.underlying30 hi h3 .i64 .i64 n n (by omega) (by omega) (by rw [h2]; omega) (by omega)
  rw [this, h1]
  have e : madeCells (Value.agg #[.int .i64 0, .slice none 0 0, .slice none 0 0]).cells (n * 3) = triC (List.replicate n zeroT) := by
    apply Array.ext_getElem?
    intro i
    have hz : (Value.agg #[.int .i64 0, .slice none 0 0, .slice none 0 0]).cells = #[.int .i64 0, .slice none 0 0, .slice none 0 0] := by rfl
    rw [hz]
    obtain ⟨j, q, rfl, hq⟩ : ∃ j q, i = j * 3 + q ∧ q < 3 := ⟨i / 3, i % 3, by omega, by omega⟩
    by_cases h : j < n
    · rw [triC_at (t := zeroT) (by rw [List.getElem?_replicate, if_pos h]) hq]
      simp only [madeCells, Array.getElem?_map]
      rw [Array.getElem?_range]
      rw [if_pos (by omega)]
      simp only [Option.map_some]
      rw [show (j * 3 + q) % (#[Value.int .i64 0, .slice none 0 0, .slice none 0 0] : Array Value).size = q by show (j * 3 + q) % 3 = q; omega]
      match q, hq with
      | 0, _ => rfl
      | 1, _ => rfl
      | 2, _ => rfl
    · have e9 : (triC (List.replicate n zeroT))[j * 3 + q]? = none := by
        show (triL _).toArray[j * 3 + q]? = _
        rw [List.getElem?_toArray, triL_at _ _ _ hq, List.getElem?_replicate, if_neg h]; rfl
      rw [e9]
      simp only [madeCells, Array.getElem?_map]
      rw [Array.getElem?_range, if_neg (by omega)]
      rfl
  simp only [Int.toNat_natCast, e]
/-- shard j of a list of halves -/
def shV (vs : List Value) (j : Nat) : Tri := (.int .i64 (j : Int), vs.getD (2 * j) (.slice none 0 0), vs.getD (2 * j + 1) (.slice none 0 0))
/-- the shards made as far as j -/
def shP (vs : List Value) (m j : Nat) : List Tri := (List.range m).map fun i => if i < j then shV vs i else zeroT
theorem shP_zero (vs : List Value) (m : Nat) : List.replicate m zeroT = shP vs m 0 := by
  apply List.ext_getElem?
  intro i
  simp only [shP, List.getElem?_map, List.getElem?_replicate]
  by_cases h : i < m
  · rw [if_pos h, List.getElem?_range h]; rfl
  · rw [if_neg h, List.getElem?_eq_none (by simp; omega)]; rfl
theorem shP_full (vs : List Value) (m : Nat) : shP vs m m = (List.range m).map (shV vs) := by
  apply List.map_congr_left
  intro i hi
  rw [if_pos (by simpa using hi)]
theorem shP_set {vs : List Value} {m j : Nat} (h : j < m) : (shP vs m j).set j (shV vs j) = shP vs m (j + 1) := by
  apply List.ext_getElem?
  intro i
  rw [List.getElem?_set]
  simp only [shP, List.getElem?_map, List.length_map, List.length_range]
  by_cases hi : j = i
  · subst hi
    rw [if_pos rfl, if_pos h, List.getElem?_range h]
    simp
  · rw [if_neg hi]
    by_cases hm : i < m
    · rw [List.getElem?_range hm]
      simp only [Option.map_some]
      by_cases h2 : i < j
      · rw [if_pos h2, if_pos (by omega)]
      · rw [if_neg h2, if_neg (by omega)]
    · rw [List.getElem?_eq_none (by simp; omega)]; rfl
/-- a stripe's shards in memory, each half in a block of its own -/
def ShAt (w : World) (B S : Nat) (k r n : Nat) (xs : List F) (gs : List (Nat × Nat)) : Prop :=
  B ≤ S ∧ gs.length = 2 * (k + r) ∧ w.heap[S]? = some (.cells (triC ((List.range (k + r)).map (shV (rowsP (cntN (2 * k) n) gs)))) 38 (0, 0)) ∧ RowsP w B gs (imgL k (carN (groupN k r)) (cntN (2 * k) n) (strD (cntN (2 * k) n) xs))
theorem shAt_below {w w' : World} {B S k r n : Nat} {xs : List F} {gs : List (Nat × Nat)} (h : ShAt w B S k r n xs gs) (hb : Below w.heap.size w w') : ShAt w' B S k r n xs gs := ⟨h.1, h.2.1, heap_later h.2.2.1 hb, rowsP_below h.2.2.2 hb⟩
theorem has8_grownT {w w' : World} {S g cap : Nat} {cs : Array Value} {fr : Nat × Nat} {xs : List F} (hg : w.grownBy w' (some S)) (h : Has8 w g xs cap) (hS : w.heap[S]? = some (.cells cs 38 fr)) : Has8 w' g xs cap := by
  obtain ⟨cur, h1, h2⟩ := h
  exact ⟨cur, grown_keep hg h1 (fun e => kind_ne h1 hS (by decide) (Option.some.inj e)), h2⟩
theorem tri_store {w : World} {S j : Nat} {T : List Tri} {a b c : Value} (h : w.heap[S]? = some (.cells (triC T) 38 (0, 0))) :
    (((w.setCell ⟨S, j * 3, none⟩ a).setCell ⟨S, j * 3 + 1, none⟩ b).setCell ⟨S, j * 3 + 2, none⟩ c).heap[S]? = some (.cells (triC (T.set j (a, b, c))) 38 (0, 0)) := by
  rw [heap_setCell_same _ _ _ _ _ _ (heap_setCell_same _ _ _ _ _ _ (heap_setCell_same _ _ _ _ _ _ h)), triC_set]
theorem tri_store_other {w : World} {S g j : Nat} {a b c : Value} {o : Obj} (hne : g ≠ S) (h : w.heap[g]? = some o) :
    (((w.setCell ⟨S, j * 3, none⟩ a).setCell ⟨S, j * 3 + 1, none⟩ b).setCell ⟨S, j * 3 + 2, none⟩ c).heap[g]? = some o :=
  (heap_setCell_other _ _ _ _ hne).trans ((heap_setCell_other _ _ _ _ hne).trans ((heap_setCell_other _ _ _ _ hne).trans h))
set_option maxHeartbeats 4000000 in
theorem shards_ok (k r n ca : Nat) (a : Option Addr) (xs : List F) (w : World) (E : Nat → Addr) (hE : ErrsF w E) (h1 : 1 ≤ k) (h2 : 2 ≤ r) (h3 : k + r ≤ 16) (h4 : 1 ≤ n) (h5 : n ≤ 128 * k) (hn : n = xs.length) (hx : Row8 w a xs) :
    Calls Tryd.prog 12 #[.int .i64 k, .int .i64 r, .slice a n ca] w fun e w' => ∃ (S m : Nat) (gs : List (Nat × Nat)), e = .returned (.tuple #[.slice (some ⟨S, 0, none⟩) m m, .nilIface]) ∧ m = k + r ∧
      ShAt w' w.heap.size S k r n xs gs ∧ Below w.heap.size w w' := by
  have HENC : Hid _ := encode_ok k r n ca a xs w E hE h1 h2 h3 h4 h5 hn hx
  obtain ⟨H, hH⟩ : ∃ H, H = cntN (2 * k) n := ⟨_, rfl⟩
  have HH : Hid (H = cntN (2 * k) n) := hH
  obtain ⟨m, hm⟩ : ∃ m, m = k + r := ⟨_, rfl⟩
  have HM : Hid (m = k + r) := hm
  have hm16 : m ≤ 16 := by omega
  have hmk := run_makeT m (by omega)
  clear hE hx hn hH hm
  go_enter Tryd.func12, Tryd.ntmps12
  go_wp2_with fail
  refine Calls.mono HENC.out ?_
  rintro e w1 ⟨M, c, gs, rfl, hc, hEnc, hb1⟩
  have HEN : Hid (EncAt w1 w.heap.size M k r n xs gs) := hEnc
  have HB1 : Hid (Below w.heap.size w w1) := hb1
  have hc2 : c = 2 * m := by rw [hc, HM.out]
  have hq : (c : Int).tdiv 2 = (m : Int) := by rw [Int.tdiv_eq_ediv_of_nonneg (by omega)]; omega
  have hq2 : (c : Int) / 2 = (m : Int) := by omega
  have HC : Hid (c = 2 * m) := hc2
  have HGL : Hid (gs.length = 2 * m) := by show _ = _; rw [hEnc.2.1, HM.out]
  clear hc hEnc hb1 hc2 HENC
  rw [shP_zero (rowsP H gs)] at hmk
  go_wp2
  have hA5 := holds_new (holds_cons (holds_nil w1) HEN.out.2.2.1) (triC (shP (rowsP H gs) m 0)) 38
  have HB5 : Hid (Below w.heap.size w (w1.alloc (.cells (triC (shP (rowsP H gs) m 0)) 38))) := HB1.out.alloc HB1.out.size _
  have HR5 : Hid (RowsP (w1.alloc (.cells (triC (shP (rowsP H gs) m 0)) 38)) w.heap.size gs (imgL k (carN (groupN k r)) H (strD H xs))) := by
    have := HEN.out.2.2.2
    rw [← HH.out] at this
    exact rowsP_below this ((Below.refl _ _).alloc (Nat.le_refl _) _)
  rw [← HH.out] at hA5
  have hSM := HB1.out.size
  have HA5 : Hid _ := hA5
  clear hA5 hmk HB1 HEN
  generalize (w1.alloc (.cells (triC (shP (rowsP H gs) m 0)) 38)) = W5 at *
  generalize hS : w1.heap.size = S at *
  clear hS
  have hSM2 : M ≠ S := kind_ne (holds_at HA5.out 1 rfl) (holds_at HA5.out 0 rfl) (by decide)
  go_loopw [28] (fun i wr => ∃ j : Nat, j ≤ m ∧ i = .int .i64 j ∧ Below w.heap.size w wr ∧ W5.grownBy wr (some S) ∧
    Holds wr [(S, .cells (triC (shP (rowsP H gs) m j)) 38 (0, 0)), (M, .cells (slW (rowsP H gs) (2 * (k + r))) 22 (0, 0))]) (fun i _ => m - (intOf i).toNat)
  case atStart => exact ⟨0, by omega, rfl, HB5.out, World.grownBy.refl _ _, HA5.out⟩
  case round =>
    obtain ⟨j, hj, rfl, hb, hg, hh⟩ := hrel
    have HB : Hid (Below w.heap.size w wr) := hb
    have HG : Hid (W5.grownBy wr (some S)) := hg
    have HH2 : Hid _ := hh
    clear hb hg hh
    by_cases hlt : j < m
    · obtain ⟨p0, hp0⟩ : ∃ p0, p0 = 2 * j := ⟨_, rfl⟩
      obtain ⟨p1, hp1⟩ : ∃ p1, p1 = 2 * j + 1 := ⟨_, rfl⟩
      have t1 : (2 : Int) * (j : Int) = (p0 : Int) := by omega
      have t2 : (p0 : Int) + 1 = (p1 : Int) := by omega
      have hp9 : (p1 : Int) ≤ 100 := by omega
      have hg0 : gs[p0]? = some gs[p0]! := by rw [getElem!_pos gs p0 (by rw [HGL.out]; omega)]; exact List.getElem?_eq_getElem (by rw [HGL.out]; omega)
      have hg1 : gs[p1]? = some gs[p1]! := by rw [getElem!_pos gs p1 (by rw [HGL.out]; omega)]; exact List.getElem?_eq_getElem (by rw [HGL.out]; omega)
      generalize gs[p0]! = q0 at hg0
      generalize gs[p1]! = q1 at hg1
      obtain ⟨g0, cap0⟩ := q0
      obtain ⟨g1, cap1⟩ := q1
      have d0 := cellAt (holds_at HH2.out 1 rfl) p0 _ (slW_at (rowsP_at hg0))
      have d1 := cellAt (holds_at HH2.out 1 rfl) p1 _ (slW_at (rowsP_at hg1))
      have l0 : p0 < c := by have := HC.out; omega
      have l1 : p1 < c := by have := HC.out; omega
      have hz : (shP (rowsP H gs) m j)[j]? = some zeroT := by simp [shP, hlt]
      have e0 := cellAt (holds_at HH2.out 0 rfl) (j * 3) _ (triC_at (q := 0) hz (by decide))
      have e1 := cellAt (holds_at HH2.out 0 rfl) (j * 3 + 1) _ (triC_at (q := 1) hz (by decide))
      have e2 := cellAt (holds_at HH2.out 0 rfl) (j * 3 + 2) _ (triC_at (q := 2) hz (by decide))
      have f0 : wr.frozen? ⟨S, j * 3, none⟩ = false := frozen_of_row _ _ _ _ _ (holds_at HH2.out 0 rfl)
      have f1 : wr.frozen? ⟨S, j * 3 + 1, none⟩ = false := frozen_of_row _ _ _ _ _ (holds_at HH2.out 0 rfl)
      have f2 : wr.frozen? ⟨S, j * 3 + 2, none⟩ = false := frozen_of_row _ _ _ _ _ (holds_at HH2.out 0 rfl)
      have HSH : Hid (shV (rowsP H gs) j = (.int .i64 (j : Int), .slice (some ⟨g0, 0, none⟩) H cap0, .slice (some ⟨g1, 0, none⟩) H cap1)) := by
        show _ = _
        unfold shV
        rw [← hp1, ← hp0, List.getD_eq_getElem?_getD, List.getD_eq_getElem?_getD, rowsP_at hg0, rowsP_at hg1]; rfl
      clear hp0 hp1 hg0 hg1 hz
      simp only [tri3, zeroT] at e0 e1 e2
      go_wp2
      go_region
      go_wp2
      refine ⟨⟨j + 1, by omega, by go_num, ?_, ?_, ?_⟩, by simp [intOf]; omega⟩
      · exact (((HB.out.setCell (by show w.heap.size ≤ S; omega) _).setCell (by show w.heap.size ≤ S; omega) _).setCell (by show w.heap.size ≤ S; omega) _).drew
      · exact grownBy_drew (grownBy_setCell (grownBy_setCell (grownBy_setCell HG.out _) _) _)
      · have k0 := tri_store (j := j) (a := .int .i64 (j : Int)) (b := .slice (some ⟨g0, 0, none⟩) H cap0) (c := .slice (some ⟨g1, 0, none⟩) H cap1) (holds_at HH2.out 0 rfl)
        have k1 := tri_store_other (j := j) (a := .int .i64 (j : Int)) (b := .slice (some ⟨g0, 0, none⟩) H cap0) (c := .slice (some ⟨g1, 0, none⟩) H cap1) hSM2 (holds_at HH2.out 1 rfl)
        rw [← HSH.out, shP_set hlt] at k0
        exact holds_cons (holds_cons (holds_nil _) k1) k0
    · obtain rfl : j = m := by omega
      go_wp2
      go_ret2
      refine ⟨S, j, gs, rfl, HM.out, ⟨hSM, by rw [HGL.out, HM.out], ?_, ?_⟩, HB.out⟩
      · have := holds_at HH2.out 0 rfl
        rw [shP_full] at this
        rw [← HM.out, ← HH.out]; exact this
      · rw [← HH.out]
        exact ⟨fun i p hp => ⟨(HR5.out.1 i p hp).1, has8_grownT HG.out (HR5.out.1 i p hp).2 (holds_at HA5.out 0 rfl)⟩, HR5.out.2⟩
theorem shards_bad (k r : Int) (n ca : Nat) (a : Option Addr) (w : World) (E : Nat → Addr) (hE : ErrsF w E) (hk0 : -9223372036854775808 ≤ k) (hk1 : k ≤ 9223372036854775807) (hr0 : -9223372036854775808 ≤ r) (hr1 : r ≤ 9223372036854775807) (hla : n ≤ 140737488355328) (h : encE k r n ≠ 0) :
    Calls Tryd.prog 12 #[.int .i64 k, .int .i64 r, .slice a n ca] w fun e w' => e = .returned (.tuple #[.slice none 0 0, evV E (encE k r n)]) ∧ Below w.heap.size w w' := by
  have HS : Hid _ := encode_bad k r n ca a w E hE hk0 hk1 hr0 hr1 hla h
  obtain ⟨s, hs⟩ : ∃ s, evV E (encE k r n) = errAt s := ⟨E (encE k r n - 1), by unfold evV; rw [if_neg h]⟩
  rw [hs] at HS ⊢
  clear hs h hE
  unfold errAt at HS ⊢
  go_enter Tryd.func12, Tryd.ntmps12
  go_wp2_with fail
  refine Calls.mono HS.out ?_
  rintro e w1 ⟨rfl, hb⟩
  have HB : Hid _ := hb
  clear hb
  go_wp2_with fail
  go_ret2
  exact ⟨rfl, HB.out⟩
end Go.Proofs.YtmlpijlcpeoeaaaDoor

/- What Num of package tesseranum answers of an error of package api, and of none: its number; nothing that was there turns. -/
namespace Go.Proofs.YtmlpijlcpeoeaaaDoor
open Go.RowKit Go.ChangeShapes
set_option linter.unusedVariables false
set_option maxRecDepth 20000
/-- the errors' variables, in the document's order -/
def gsNum : List Nat := [0, 2, 3, 4, 1, 5, 6, 7, 8, 9, 10, 11, 12, 13, 14, 15, 16, 17, 18, 19, 20, 21, 22, 23, 24]
theorem num_nil (w : World) : Calls Tryd.prog 14 #[.nilIface] w fun e w' => e = .returned (.int .i64 0) ∧ w = w' := by
  go_enter Tryd.func14, Tryd.ntmps14
  go_wp2
  go_ret
  exact ⟨rfl, rfl⟩
set_option maxHeartbeats 2000000 in
theorem num_fn (k : Nat) (a : Nat → Addr) (w : World) (hk : k < 25) (H : ∀ j, j < 25 → w.cell? ⟨gsNum.getD j 0, 0, none⟩ = some (errAt (a j))) (hne : ∀ j, j < 25 → j ≠ k → a k ≠ a j)
    (hh : ∀ j, j < 25 → ∃ c t, w.heap[(a j).block]? = some (.cells c t (0, 0))) :
    Calls Tryd.prog 14 #[.iface 140 (.pointer (some (a k)))] w fun e w' => e = .returned (.int .i64 ((k : Int) + 1)) ∧ Below w.heap.size w w' := by
  have c0 : w.cell? ⟨0, 0, none⟩ = some (.iface 140 (.pointer (some (a 0)))) := H 0 (by decide)
  have c1 : w.cell? ⟨2, 0, none⟩ = some (.iface 140 (.pointer (some (a 1)))) := H 1 (by decide)
  have c2 : w.cell? ⟨3, 0, none⟩ = some (.iface 140 (.pointer (some (a 2)))) := H 2 (by decide)
  have c3 : w.cell? ⟨4, 0, none⟩ = some (.iface 140 (.pointer (some (a 3)))) := H 3 (by decide)
  have c4 : w.cell? ⟨1, 0, none⟩ = some (.iface 140 (.pointer (some (a 4)))) := H 4 (by decide)
  have c5 : w.cell? ⟨5, 0, none⟩ = some (.iface 140 (.pointer (some (a 5)))) := H 5 (by decide)
  have c6 : w.cell? ⟨6, 0, none⟩ = some (.iface 140 (.pointer (some (a 6)))) := H 6 (by decide)
  have c7 : w.cell? ⟨7, 0, none⟩ = some (.iface 140 (.pointer (some (a 7)))) := H 7 (by decide)
  have c8 : w.cell? ⟨8, 0, none⟩ = some (.iface 140 (.pointer (some (a 8)))) := H 8 (by decide)
  have c9 : w.cell? ⟨9, 0, none⟩ = some (.iface 140 (.pointer (some (a 9)))) := H 9 (by decide)
  have c10 : w.cell? ⟨10, 0, none⟩ = some (.iface 140 (.pointer (some (a 10)))) := H 10 (by decide)
  have c11 : w.cell? ⟨11, 0, none⟩ = some (.iface 140 (.pointer (some (a 11)))) := H 11 (by decide)
  have c12 : w.cell? ⟨12, 0, none⟩ = some (.iface 140 (.pointer (some (a 12)))) := H 12 (by decide)
  have c13 : w.cell? ⟨13, 0, none⟩ = some (.iface 140 (.pointer (some (a 13)))) := H 13 (by decide)
  have c14 : w.cell? ⟨14, 0, none⟩ = some (.iface 140 (.pointer (some (a 14)))) := H 14 (by decide)
  have c15 : w.cell? ⟨15, 0, none⟩ = some (.iface 140 (.pointer (some (a 15)))) := H 15 (by decide)
  have c16 : w.cell? ⟨16, 0, none⟩ = some (.iface 140 (.pointer (some (a 16)))) := H 16 (by decide)
  have c17 : w.cell? ⟨17, 0, none⟩ = some (.iface 140 (.pointer (some (a 17)))) := H 17 (by decide)
  have c18 : w.cell? ⟨18, 0, none⟩ = some (.iface 140 (.pointer (some (a 18)))) := H 18 (by decide)
  have c19 : w.cell? ⟨19, 0, none⟩ = some (.iface 140 (.pointer (some (a 19)))) := H 19 (by decide)
  have c20 : w.cell? ⟨20, 0, none⟩ = some (.iface 140 (.pointer (some (a 20)))) := H 20 (by decide)
  have c21 : w.cell? ⟨21, 0, none⟩ = some (.iface 140 (.pointer (some (a 21)))) := H 21 (by decide)
  have c22 : w.cell? ⟨22, 0, none⟩ = some (.iface 140 (.pointer (some (a 22)))) := H 22 (by decide)
  have c23 : w.cell? ⟨23, 0, none⟩ = some (.iface 140 (.pointer (some (a 23)))) := H 23 (by decide)
  have c24 : w.cell? ⟨24, 0, none⟩ = some (.iface 140 (.pointer (some (a 24)))) := H 24 (by decide)
  clear H
  go_enter Tryd.func14, Tryd.ntmps14
  go_wp2
  clear c0 c1 c2 c3 c4 c5 c6 c7 c8 c9 c10 c11 c12 c13 c14 c15 c16 c17 c18 c19 c20 c21 c22 c23 c24
  have B0 : (w.alloc (.cells #[.iface 140 (.pointer (some (a 0))), .iface 140 (.pointer (some (a 1))), .iface 140 (.pointer (some (a 2))), .iface 140 (.pointer (some (a 3))), .iface 140 (.pointer (some (a 4))), .iface 140 (.pointer (some (a 5))), .iface 140 (.pointer (some (a 6))), .iface 140 (.pointer (some (a 7))), .iface 140 (.pointer (some (a 8))), .iface 140 (.pointer (some (a 9))), .iface 140 (.pointer (some (a 10))), .iface 140 (.pointer (some (a 11))), .iface 140 (.pointer (some (a 12))), .iface 140 (.pointer (some (a 13))), .iface 140 (.pointer (some (a 14))), .iface 140 (.pointer (some (a 15))), .iface 140 (.pointer (some (a 16))), .iface 140 (.pointer (some (a 17))), .iface 140 (.pointer (some (a 18))), .iface 140 (.pointer (some (a 19))), .iface 140 (.pointer (some (a 20))), .iface 140 (.pointer (some (a 21))), .iface 140 (.pointer (some (a 22))), .iface 140 (.pointer (some (a 23))), .iface 140 (.pointer (some (a 24)))] 27)).heap[w.heap.size]? = some (.cells ((List.range 25).map fun j => errAt (a j)).toArray 27 (0, 0)) := heap_alloc_last w _
  have HH : ∀ j, j < 25 → ∃ c t, (w.alloc (.cells #[.iface 140 (.pointer (some (a 0))), .iface 140 (.pointer (some (a 1))), .iface 140 (.pointer (some (a 2))), .iface 140 (.pointer (some (a 3))), .iface 140 (.pointer (some (a 4))), .iface 140 (.pointer (some (a 5))), .iface 140 (.pointer (some (a 6))), .iface 140 (.pointer (some (a 7))), .iface 140 (.pointer (some (a 8))), .iface 140 (.pointer (some (a 9))), .iface 140 (.pointer (some (a 10))), .iface 140 (.pointer (some (a 11))), .iface 140 (.pointer (some (a 12))), .iface 140 (.pointer (some (a 13))), .iface 140 (.pointer (some (a 14))), .iface 140 (.pointer (some (a 15))), .iface 140 (.pointer (some (a 16))), .iface 140 (.pointer (some (a 17))), .iface 140 (.pointer (some (a 18))), .iface 140 (.pointer (some (a 19))), .iface 140 (.pointer (some (a 20))), .iface 140 (.pointer (some (a 21))), .iface 140 (.pointer (some (a 22))), .iface 140 (.pointer (some (a 23))), .iface 140 (.pointer (some (a 24)))] 27)).heap[(a j).block]? = some (.cells c t (0, 0)) := fun j hj => by
    obtain ⟨c, t, h⟩ := hh j hj
    exact ⟨c, t, (Below.heap_alloc _ _ _ (ltHeap h)).trans h⟩
  have HB : Hid (Below w.heap.size w (w.alloc (.cells #[.iface 140 (.pointer (some (a 0))), .iface 140 (.pointer (some (a 1))), .iface 140 (.pointer (some (a 2))), .iface 140 (.pointer (some (a 3))), .iface 140 (.pointer (some (a 4))), .iface 140 (.pointer (some (a 5))), .iface 140 (.pointer (some (a 6))), .iface 140 (.pointer (some (a 7))), .iface 140 (.pointer (some (a 8))), .iface 140 (.pointer (some (a 9))), .iface 140 (.pointer (some (a 10))), .iface 140 (.pointer (some (a 11))), .iface 140 (.pointer (some (a 12))), .iface 140 (.pointer (some (a 13))), .iface 140 (.pointer (some (a 14))), .iface 140 (.pointer (some (a 15))), .iface 140 (.pointer (some (a 16))), .iface 140 (.pointer (some (a 17))), .iface 140 (.pointer (some (a 18))), .iface 140 (.pointer (some (a 19))), .iface 140 (.pointer (some (a 20))), .iface 140 (.pointer (some (a 21))), .iface 140 (.pointer (some (a 22))), .iface 140 (.pointer (some (a 23))), .iface 140 (.pointer (some (a 24)))] 27))) := (Below.refl _ _).alloc (Nat.le_refl _) _
  generalize (w.alloc (.cells #[.iface 140 (.pointer (some (a 0))), .iface 140 (.pointer (some (a 1))), .iface 140 (.pointer (some (a 2))), .iface 140 (.pointer (some (a 3))), .iface 140 (.pointer (some (a 4))), .iface 140 (.pointer (some (a 5))), .iface 140 (.pointer (some (a 6))), .iface 140 (.pointer (some (a 7))), .iface 140 (.pointer (some (a 8))), .iface 140 (.pointer (some (a 9))), .iface 140 (.pointer (some (a 10))), .iface 140 (.pointer (some (a 11))), .iface 140 (.pointer (some (a 12))), .iface 140 (.pointer (some (a 13))), .iface 140 (.pointer (some (a 14))), .iface 140 (.pointer (some (a 15))), .iface 140 (.pointer (some (a 16))), .iface 140 (.pointer (some (a 17))), .iface 140 (.pointer (some (a 18))), .iface 140 (.pointer (some (a 19))), .iface 140 (.pointer (some (a 20))), .iface 140 (.pointer (some (a 21))), .iface 140 (.pointer (some (a 22))), .iface 140 (.pointer (some (a 23))), .iface 140 (.pointer (some (a 24)))] 27)) = W1 at *
  clear hh
  go_loopw [36] (fun i wr => ∃ j : Nat, j ≤ k ∧ i = .int .i64 j ∧ wr = W1) (fun i _ => 25 - (intOf i).toNat)
  case atStart => exact ⟨0, by omega, rfl, rfl⟩
  case round =>
    obtain ⟨j, hj, rfl, rfl⟩ := hrel
    have hj25 : j < 25 := by omega
    have c0 : wr.cell? ⟨w.heap.size, j, none⟩ = some (.iface 140 (.pointer (some (a j)))) := cellAt B0 j _ (by
      simp only [List.getElem?_toArray, List.getElem?_map, List.getElem?_range hj25, Option.map_some, errAt])
    by_cases e : j = k
    · subst e
      have q := eq_same wr (a j)
      clear HH hne B0
      go_wp2
      go_ret
      exact ⟨rfl, HB.out⟩
    · obtain ⟨_, _, h1⟩ := HH k hk
      obtain ⟨_, _, h2⟩ := HH j hj25
      have q := eq_other (hne j hj25 e) h1 h2
      have hjk : j + 1 ≤ k := by omega
      clear HH hne B0 h1 h2
      go_wp2
      exact ⟨⟨j + 1, by omega, by go_num, trivial⟩, by simp [intOf]; omega⟩
theorem num_err {w : World} {es : List Addr} {k : Nat} {s : Addr} (h : ErrsAt w gsNum es) (hs : es[k]? = some s) :
    Calls Tryd.prog 14 #[errAt s] w fun e w' => e = .returned (.int .i64 ((k : Int) + 1)) ∧ Below w.heap.size w w' := by
  have hl : es.length = 25 := h.1.symm
  obtain ⟨hk, rfl⟩ := List.getElem?_eq_some_iff.1 hs
  have hget : ∀ j, (hj : j < 25) → es[j]? = some (es.getD j ⟨0, 0, none⟩) := fun j hj => by
    rw [List.getElem?_eq_getElem (by omega), List.getD_eq_getElem?_getD, List.getElem?_eq_getElem (by omega)]; rfl
  have hg : ∀ j, j < 25 → gsNum[j]? = some (gsNum.getD j 0) := fun j hj => by
    rw [List.getElem?_eq_getElem (by show j < 25; exact hj), List.getD_eq_getElem?_getD, List.getElem?_eq_getElem (by show j < 25; exact hj)]; rfl
  have hk25 : k < 25 := by omega
  have e0 : es[k] = es.getD k ⟨0, 0, none⟩ := by
    have := hget k hk25
    rw [List.getElem?_eq_getElem hk] at this
    exact Option.some.inj this
  have := num_fn k (fun j => es.getD j ⟨0, 0, none⟩) w hk25 (fun j hj => (h.2.2 j _ _ (hg j hj) (hget j hj)).1) (fun j hj hjk e => ?_) (fun j hj => (h.2.2 j _ _ (hg j hj) (hget j hj)).2)
  · rw [e0]; exact this
  · have e1 := hget k hk25
    have e2 := hget j hj
    rw [List.getElem?_eq_getElem (by omega)] at e1 e2
    have e3 : es[k] = es[j] := by rw [Option.some.inj e1, Option.some.inj e2]; exact e
    have hp := List.pairwise_iff_getElem.1 h.2.1
    rcases Nat.lt_or_gt_of_ne hjk with q | q
    · exact hp j k _ _ q e3.symm
    · exact hp k j _ _ q e3
end Go.Proofs.YtmlpijlcpeoeaaaDoor

/- The walk of ShardsSizes: at all numbers. -/
namespace Go.Proofs.YtmlpijlcpeoeaaaDoor
open Go.RowKit Gf
set_option linter.unusedVariables false
set_option maxRecDepth 20000
/-- the errors' addresses, by number -/
def ofL (es : List Addr) : Nat → Addr := fun j => es.getD j ⟨0, 0, none⟩
theorem errsE_num {w : World} {es : List Addr} (h : ErrsAt w gsNum es) : ErrsE w (ofL es) := by
  have hl : es.length = 25 := h.1.symm
  have hget : ∀ j, (hj : j < 25) → es[j]? = some (ofL es j) := fun j hj => by
    unfold ofL
    rw [List.getElem?_eq_getElem (by omega), List.getD_eq_getElem?_getD, List.getElem?_eq_getElem (by omega)]; rfl
  exact ⟨(h.2.2 0 _ _ rfl (hget 0 (by decide))).1, (h.2.2 11 _ _ rfl (hget 11 (by decide))).1, (h.2.2 19 _ _ rfl (hget 19 (by decide))).1⟩
theorem num_V {w : World} {es : List Addr} (n : Nat) (h : ErrsAt w gsNum es) (hn : n ≤ 25) :
    Calls Tryd.prog 14 #[evV (ofL es) n] w fun e w' => e = .returned (.int .i64 n) ∧ Below w.heap.size w w' := by
  cases n with
  | zero => exact (num_nil w).mono fun e w' ⟨he, hw⟩ => ⟨he, hw ▸ Below.refl _ _⟩
  | succ n =>
    have hl : es.length = 25 := h.1.symm
    rw [evV_succ]
    have := num_err (k := n) (s := ofL es n) h (by
      unfold ofL
      rw [List.getElem?_eq_getElem (by omega), List.getD_eq_getElem?_getD, List.getElem?_eq_getElem (by omega)]; rfl)
    simpa using this
theorem halfE_le (k n : Int) : halfE k n ≤ 25 := by unfold halfE; split <;> (try split) <;> (try split) <;> omega
theorem stripesE_le (k n : Int) : stripesE k n ≤ 25 := by unfold stripesE; split <;> (try split) <;> (try split) <;> omega
theorem stripesL_len (k n : Int) : (stripesL k n).length ≤ 32 := by
  by_cases h : stripesE k n = 0
  · obtain ⟨a, m, rfl, rfl, h1, h2, h3⟩ := stripes_ok h
    rw [stripesL_ok h1 h2 h3, strL_len]
    exact cnt_stripes h1 h3
  · rw [stripesL_no h]; simp
end Go.Proofs.YtmlpijlcpeoeaaaDoor

/- What the walks of stage 7 share: the errors by number, blocks that stay, shards in memory. -/
namespace Go.Proofs.YtmlpijlcpeoeaaaDoor
open Go.RowKit Gf
set_option linter.unusedVariables false
set_option maxRecDepth 20000
theorem errsF_num {w : World} {es : List Addr} (h : ErrsAt w gsNum es) : ErrsF w (ofL es) := by
  refine ⟨errsE_num h, (h.2.2 1 _ _ rfl ?_).1⟩
  have hl : es.length = 25 := h.1.symm
  unfold ofL
  rw [List.getElem?_eq_getElem (by omega), List.getD_eq_getElem?_getD, List.getElem?_eq_getElem (by omega)]; rfl
/-- all but some blocks stay -/
def KeptX (w w' : World) (X : Nat → Prop) : Prop := ∀ (b : Nat) (o : Obj), ¬ X b → w.heap[b]? = some o → w'.heap[b]? = some o
theorem keptX_refl (w : World) (X : Nat → Prop) : KeptX w w X := fun _ _ _ h => h
theorem keptX_grown {w0 w w' : World} {X Y : Nat → Prop} {g : Nat} (h : KeptX w0 w X) (hg : w.grownBy w' (some g)) (hY : ∀ b, ¬ Y b → ¬ X b ∧ b ≠ g) : KeptX w0 w' Y := fun b o hb ho => grown_keep hg (h b o (hY b hb).1 ho) (fun e => (hY b hb).2 (Option.some.inj e))
theorem keptX_below {w0 w w' : World} {X Y : Nat → Prop} (h : KeptX w0 w X) (hb : Below w.heap.size w w') (hY : ∀ b, ¬ Y b → ¬ X b) : KeptX w0 w' Y := fun b o hn ho => heap_later (h b o (hY b hn) ho) hb
theorem has8_X {w w' : World} {X : Nat → Prop} {g cap : Nat} {xs : List F} (h : Has8 w g xs cap) (hk : KeptX w w' X) (hn : ¬ X g) : Has8 w' g xs cap := by
  obtain ⟨cur, h1, h2⟩ := h
  exact ⟨cur, hk _ _ hn h1, h2⟩
/-- the first j blocks of a list -/
def firstB (gs : List (Nat × Nat)) (j : Nat) (b : Nat) : Prop := ∃ (q : Nat) (p : Nat × Nat), q < j ∧ gs[q]? = some p ∧ p.1 = b
theorem firstB_not {gs : List (Nat × Nat)} {j i : Nat} {p : Nat × Nat} (hord : ∀ (i j : Nat) (p q : Nat × Nat), i < j → gs[i]? = some p → gs[j]? = some q → p.1 < q.1) (h : gs[i]? = some p) (hij : j ≤ i) : ¬ firstB gs j p.1 := fun ⟨q, x, hq, hx, e⟩ => by
  have := hord q i x p (by omega) hx h
  omega
theorem firstB_step {gs : List (Nat × Nat)} {j : Nat} {p : Nat × Nat} (h : gs[j]? = some p) (b : Nat) (hb : ¬ firstB gs (j + 1) b) : ¬ firstB gs j b ∧ b ≠ p.1 :=
  ⟨fun ⟨q, x, hq, hx, e⟩ => hb ⟨q, x, by omega, hx, e⟩, fun e => hb ⟨j, p, by omega, h, e.symm⟩⟩
theorem strEq8 (xs : List F) : ((str8 xs).toList == (str8 xs).toList) = true := by simp
theorem sh_cells {w : World} {S H j m : Nat} {gs : List (Nat × Nat)} {g0 c0 g1 c1 : Nat} (hT : w.heap[S]? = some (.cells (triC ((List.range m).map (shV (rowsP H gs)))) 38 (0, 0))) (hj : j < m) (e0 : gs[2 * j]? = some (g0, c0)) (e1 : gs[2 * j + 1]? = some (g1, c1)) :
    w.cell? ⟨S, j * 3, none⟩ = some (.int .i64 (j : Int)) ∧ w.cell? ⟨S, j * 3 + 1, none⟩ = some (.slice (some ⟨g0, 0, none⟩) H c0) ∧ w.cell? ⟨S, j * 3 + 2, none⟩ = some (.slice (some ⟨g1, 0, none⟩) H c1) := by
  have ht : ((List.range m).map (shV (rowsP H gs)))[j]? = some (.int .i64 (j : Int), .slice (some ⟨g0, 0, none⟩) H c0, .slice (some ⟨g1, 0, none⟩) H c1) := by
    rw [List.getElem?_map, List.getElem?_range hj, Option.map_some, shV, List.getD_eq_getElem?_getD, List.getD_eq_getElem?_getD, rowsP_at e0, rowsP_at e1]; rfl
  exact ⟨cellAt hT (j * 3) _ (triC_at (q := 0) ht (by decide)), cellAt hT (j * 3 + 1) _ (triC_at (q := 1) ht (by decide)), cellAt hT (j * 3 + 2) _ (triC_at (q := 2) ht (by decide))⟩
theorem shAt_cell {w : World} {B S k r n H j : Nat} {xs : List F} {gs : List (Nat × Nat)} (h : ShAt w B S k r n xs gs) (hH : H = cntN (2 * k) n) (hj : j < k + r) : ∃ g0 c0 g1 c1, gs[2 * j]? = some (g0, c0) ∧ gs[2 * j + 1]? = some (g1, c1) ∧
    w.cell? ⟨S, j * 3, none⟩ = some (.int .i64 (j : Int)) ∧ w.cell? ⟨S, j * 3 + 1, none⟩ = some (.slice (some ⟨g0, 0, none⟩) H c0) ∧ w.cell? ⟨S, j * 3 + 2, none⟩ = some (.slice (some ⟨g1, 0, none⟩) H c1) ∧
    Has8 w g0 (imgL k (carN (groupN k r)) H (strD H xs) (2 * j)) c0 ∧ Has8 w g1 (imgL k (carN (groupN k r)) H (strD H xs) (2 * j + 1)) c1 := by
  obtain ⟨_, hl, hT, hR, _⟩ := h
  rw [← hH] at hT hR
  have e0 : gs[2 * j]? = some gs[2 * j] := List.getElem?_eq_getElem (by omega)
  have e1 : gs[2 * j + 1]? = some gs[2 * j + 1] := List.getElem?_eq_getElem (by omega)
  generalize gs[2 * j] = q0 at e0
  generalize gs[2 * j + 1] = q1 at e1
  obtain ⟨g0, c0⟩ := q0
  obtain ⟨g1, c1⟩ := q1
  have ht : ((List.range (k + r)).map (shV (rowsP H gs)))[j]? = some (.int .i64 (j : Int), .slice (some ⟨g0, 0, none⟩) H c0, .slice (some ⟨g1, 0, none⟩) H c1) := by
    rw [List.getElem?_map, List.getElem?_range hj, Option.map_some, shV, List.getD_eq_getElem?_getD, List.getD_eq_getElem?_getD, rowsP_at e0, rowsP_at e1]; rfl
  exact ⟨g0, c0, g1, c1, e0, e1, cellAt hT (j * 3) _ (triC_at (q := 0) ht (by decide)), cellAt hT (j * 3 + 1) _ (triC_at (q := 1) ht (by decide)), cellAt hT (j * 3 + 2) _ (triC_at (q := 2) ht (by decide)), (hR _ _ e0).2, (hR _ _ e1).2⟩
end Go.Proofs.YtmlpijlcpeoeaaaDoor

/- The errors that the statements of stage 7 without numbers lay, by number. -/
namespace Go.Proofs.YtmlpijlcpeoeaaaDoor
open Go.RowKit Gf
set_option linter.unusedVariables false
set_option maxRecDepth 20000
def gsCheap : List Nat := [0, 2, 11, 19]
def gsFits : List Nat := [0, 2, 1, 11, 19]
/-- by number -/
def ofCheap (es : List Addr) : Nat → Addr := fun n => es.getD (if n = 1 then 1 else if n = 11 then 2 else if n = 19 then 3 else 0) ⟨0, 0, none⟩
def ofFits (es : List Addr) : Nat → Addr := fun n => es.getD (if n = 1 then 1 else if n = 4 then 2 else if n = 11 then 3 else if n = 19 then 4 else 0) ⟨0, 0, none⟩
theorem errsF_cheap {w : World} {es : List Addr} (h : ErrsAt w gsCheap es) : ErrsF w (ofCheap es) := by
  have hl : es.length = 4 := h.1.symm
  match es, hl with
  | [a, b, c, d], _ => exact ⟨⟨(h.2.2 0 _ a rfl rfl).1, (h.2.2 2 _ c rfl rfl).1, (h.2.2 3 _ d rfl rfl).1⟩, (h.2.2 1 _ b rfl rfl).1⟩
theorem errsF_fits {w : World} {es : List Addr} (h : ErrsAt w gsFits es) : ErrsF w (ofFits es) ∧ w.cell? ⟨1, 0, none⟩ = some (errAt (ofFits es 4)) := by
  have hl : es.length = 5 := h.1.symm
  match es, hl with
  | [a, b, c, d, e], _ => exact ⟨⟨⟨(h.2.2 0 _ a rfl rfl).1, (h.2.2 3 _ d rfl rfl).1, (h.2.2 4 _ e rfl rfl).1⟩, (h.2.2 1 _ b rfl rfl).1⟩, (h.2.2 2 _ c rfl rfl).1⟩
/-- that the errors of Fits are not one another -/
theorem errsF_other {w : World} {es : List Addr} (h : ErrsAt w gsFits es) : ofFits es 0 ≠ ofFits es 4 := by
  have hl : es.length = 5 := h.1.symm
  have hn := h.2.1
  intro h9
  match es, hl with
  | [a, b, c, d, e], _ =>
    have e1 : a = c := h9
    subst e1
    simp at hn
end Go.Proofs.YtmlpijlcpeoeaaaDoor

/- The chapter's worked answer of package code holds: the function 'alive' of the statements returns true. -/
namespace Go.Proofs.YtmlpijlcpeoeaaaDoor
open Go.RowKit Gf
set_option linter.unusedVariables false
set_option maxRecDepth 20000
theorem alive7_1 : imgL 1 (carN (groupN 1 2)) (cntN (2 * 1) 2) (strD (cntN (2 * 1) 2) [5, 7]) 4 = [140] := by decide +kernel
theorem alive7_2 : imgL 1 (carN (groupN 1 2)) (cntN (2 * 1) 2) (strD (cntN (2 * 1) 2) [5, 7]) 5 = [136] := by decide +kernel
set_option maxHeartbeats 2000000 in
theorem alive7_ok (w : World) (E : Nat → Addr) (hE : ErrsF w E) : Calls Tryd.prog 9 #[] w fun e w' => e = .returned (.bool true) ∧ Below w.heap.size w w' := by
  have HE : Hid (ErrsF w E) := hE
  clear hE
  have HB0 : Hid (Below w.heap.size w (w.alloc (.cells #[.int .u8 5, .int .u8 7] 5))) := (Below.refl _ _).alloc (Nat.le_refl _) _
  have HL : Hid (Row8 (w.alloc (.cells #[.int .u8 5, .int .u8 7] 5)) (some ⟨w.heap.size, 0, none⟩) [5, 7]) := row8_own (show (w.alloc (.cells #[.int .u8 5, .int .u8 7] 5)).heap[w.heap.size]? = some (.cells (vfs [5, 7]) 5 (0, 0)) from heap_alloc_last _ _)
  go_enter Tryd.func9, Tryd.ntmps9
  go_wp2_with fail
  refine Calls.mono (encode_ok 1 2 2 2 _ [5, 7] _ E (errsF_below HE.out HB0.out) (by decide) (by decide) (by decide) (by decide) (by decide) rfl HL.out) ?_
  rintro e w2 ⟨M, c, gs, rfl, rfl, hE2, hb2⟩
  have HB2 : Hid (Below w.heap.size w w2) := HB0.out.trans (hb2.mono HB0.out.size)
  obtain ⟨_, hl, hT, hR, _⟩ := hE2
  have hl6 : gs.length = 6 := hl
  obtain ⟨⟨g4, c4⟩, h4⟩ : ∃ p, gs[4]? = some p := ⟨_, List.getElem?_eq_getElem (by omega)⟩
  obtain ⟨⟨g5, c5⟩, h5⟩ : ∃ p, gs[5]? = some p := ⟨_, List.getElem?_eq_getElem (by omega)⟩
  have r4 := row8_has (hR 4 _ h4).2
  have r5 := row8_has (hR 5 _ h5).2
  rw [alive7_1] at r4
  rw [alive7_2] at r5
  have d4 := cellAt hT 4 _ (slW_at (rowsP_at h4))
  have d5 := cellAt hT 5 _ (slW_at (rowsP_at h5))
  rw [show cntN (2 * 1) 2 = 1 from by decide] at d4 d5
  have kC4 : ∀ u, Below w2.heap.size w2 u → (convert 22 9 (.slice (some ⟨g4, 0, none⟩) 1 c4)).run Tryd.prog u = .ok (.string ⟨#[140]⟩) u := fun u hu => by
    have := conv8 (la := 1) (ca := c4) rfl (row8_below r4 hu)
    rwa [show str8 [140] = { data := #[140] } by decide +kernel] at this
  have kC5 : ∀ u, Below w2.heap.size w2 u → (convert 22 9 (.slice (some ⟨g5, 0, none⟩) 1 c5)).run Tryd.prog u = .ok (.string ⟨#[136]⟩) u := fun u hu => by
    have := conv8 (la := 1) (ca := c5) rfl (row8_below r5 hu)
    rwa [show str8 [136] = { data := #[136] } by decide +kernel] at this
  have kB : ∀ (b : Nat) (u : World) (x : F) (s : ByteArray), u.heap[b]? = some (.cells #[.int .u8 (x.toNat : Int)] 5 (0, 0)) → str8 [x] = s → (convert 22 9 (.slice (some ⟨b, 0, none⟩) 1 1)).run Tryd.prog u = .ok (.string s) u := fun b u x s h e => by
    have := conv8 (la := 1) (ca := 1) (show 1 = ([x] : List F).length from rfl) (row8_own (xs := [x]) h)
    rwa [e] at this
  have b0 : Below w2.heap.size w2 w2.drew := (Below.refl _ _).drew
  have b1 : Below w2.heap.size w2 (w2.alloc (.cells #[.int .u8 140] 5)) := (Below.refl _ _).alloc (Nat.le_refl _) _
  have b2 : Below w2.heap.size w2 ((w2.alloc (.cells #[.int .u8 140] 5)).alloc (.cells #[.int .u8 136] 5)) := b1.alloc (by simp) _
  have f1 := kC4 _ b0
  have f2 := kC4 _ b1.drew
  have f3 := kC5 _ b1.drew
  have f4 := kC5 _ b2.drew
  have f5 := kB w2.heap.size (w2.alloc (.cells #[.int .u8 140] 5)).drew 140 ⟨#[140]⟩ (heap_alloc_last _ _) (by decide +kernel)
  have f6 := kB (w2.alloc (.cells #[.int .u8 140] 5)).heap.size ((w2.alloc (.cells #[.int .u8 140] 5)).alloc (.cells #[.int .u8 136] 5)).drew 136 ⟨#[136]⟩ (heap_alloc_last _ _) (by decide +kernel)
  rw [World.size_alloc] at f6
  have e140 : ((ByteArray.mk #[140]).toList == (ByteArray.mk #[140]).toList) = true := by decide +kernel
  have e136 : ((ByteArray.mk #[136]).toList == (ByteArray.mk #[136]).toList) = true := by decide +kernel
  have lM := ltHeap hT
  clear hl hT hR h4 h5 hb2 kC4 kC5 kB b0 b1 b2 r4 r5
  go_wp2
  go_region
  go_wp2
  go_ret
  have z := HB2.out.size
  exact ⟨rfl, ((HB2.out.alloc z _).alloc (by simp; omega) _).drew⟩
end Go.Proofs.YtmlpijlcpeoeaaaDoor

/- What the statements' own sum of two lists answers, of all lists of one length: a new list; nothing that was there turns. -/
namespace Go.Proofs.YtmlpijlcpeoeaaaDoor
open Go.RowKit Gf
set_option linter.unusedVariables false
set_option maxRecDepth 20000
/-- two lists added, place by place -/
def sumL (n : Nat) (xs ys : List F) : List F := rowF n (fun j => ga (at8 xs j) (at8 ys j))
theorem sumL_len (n : Nat) (xs ys : List F) : (sumL n xs ys).length = n := rowF_len _ _
/-- as far as place i -/
def sumP (n : Nat) (xs ys : List F) (i : Nat) : List F := rowF n (fun j => if j < i then ga (at8 xs j) (at8 ys j) else at8 xs j)
theorem sumP_len (n : Nat) (xs ys : List F) (i : Nat) : (sumP n xs ys i).length = n := rowF_len _ _
theorem sumP_zero {n : Nat} {xs ys : List F} (h : n = xs.length) : sumP n xs ys 0 = xs := (rowF_eq h.symm fun j hj => by rw [if_neg (by omega)]).symm
theorem sumP_full (n : Nat) (xs ys : List F) : sumP n xs ys n = sumL n xs ys := rowF_congr fun j hj => by rw [if_pos hj]
theorem sumP_at {n i : Nat} {xs ys : List F} (h : i < n) : at8 (sumP n xs ys i) i = at8 xs i := by rw [sumP, at8_rowF h, if_neg (by omega)]
theorem sumP_set {n i : Nat} {xs ys : List F} (h : i < n) : (sumP n xs ys i).set i (ga (at8 xs i) (at8 ys i)) = sumP n xs ys (i + 1) := by
  apply list_ext8
  · rw [List.length_set, sumP_len, sumP_len]
  · intro j
    by_cases hj : j < n
    · rw [show at8 (sumP n xs ys (i + 1)) j = if j < i + 1 then ga (at8 xs j) (at8 ys j) else at8 xs j from at8_rowF hj]
      by_cases hij : i = j
      · subst hij
        have e : at8 ((sumP n xs ys i).set i (ga (at8 xs i) (at8 ys i))) i = ga (at8 xs i) (at8 ys i) := by
          generalize ga (at8 xs i) (at8 ys i) = v
          simp [at8, List.getD_eq_getElem?_getD, sumP_len, h]
        rw [e, if_pos (by omega)]
      · have e : at8 ((sumP n xs ys i).set i (ga (at8 xs i) (at8 ys i))) j = at8 (sumP n xs ys i) j := by
          simp only [at8, List.getD_eq_getElem?_getD, List.getElem?_set]
          rw [if_neg hij]
        rw [e, sumP, at8_rowF hj]
        by_cases h2 : j < i
        · rw [if_pos h2, if_pos (by omega)]
        · rw [if_neg h2, if_neg (by omega)]
    · rw [at8_over (by rw [List.length_set, sumP_len]; omega), at8_over (by rw [sumP_len]; omega)]
theorem append8_zero (w : World) (p : Addr) (a : Option Addr) (ca : Nat) (ty : TypeId) :
    (Builtin.append_ #[22, 22] ty #[.slice (some p) 0 0, .slice a 0 ca]).run Tryd.prog w = .ok (.slice (some p) 0 0) w := by
  obtain ⟨i, hi, h1, h2, h3⟩ := info8
  cases a <;> simp [Builtin.append_, run_underlying Tryd.underlying22, sizeOf, typeInfo, hi, Builtin.lenOf, Builtin.firstCells, loadCells, loadCellsFrom, storeCells]
/-- a copy in a block of one's own -/
theorem copy8 {w : World} {a : Option Addr} {la ca : Nat} {xs : List F} (ty : TypeId) (hla : la = xs.length) (hl : la ≤ 140737488355328) (hx : Row8 w a xs) :
    ∃ g cap w', (Builtin.append_ #[22, 22] ty #[.slice (some ⟨w.heap.size, 0, none⟩) 0 0, .slice a la ca]).run Tryd.prog (w.alloc (.cells #[] 5)) = .ok (.slice (some ⟨g, 0, none⟩) la cap) w' ∧
      Has8 w' g xs cap ∧ w.heap.size ≤ g ∧ Below w.heap.size w w' := by
  have hB : Below w.heap.size w (w.alloc (.cells #[] 5)) := (Below.refl _ _).alloc (Nat.le_refl _) _
  by_cases h0 : la = 0
  · subst h0
    obtain rfl : xs = [] := List.eq_nil_of_length_eq_zero hla.symm
    exact ⟨w.heap.size, 0, _, append8_zero _ _ _ _ _, has8_full (xs := []) (heap_alloc_last w _) (by simp [maxLen]), Nat.le_refl _, hB⟩
  · have hx' := row8_below hx hB
    obtain ⟨b, off, rfl, _, hc⟩ := row8_get hx' (show 0 < xs.length by omega)
    obtain ⟨g', cap', w', h1, h2, h3, h4⟩ := append8_grows (w := w.alloc (.cells #[] 5)) (g := w.heap.size) (n := 0) (cap := 0) (xs := []) (ys := xs) (ad := ⟨b, off, none⟩) (m := la) (c := ca) ty (.inl rfl) rfl hla (by omega) (by omega) (fun j hj => by
      have : (⟨b, off, none⟩ : Addr).add j = ⟨b, off + j, none⟩ := by unfold Addr.add; split <;> simp_all
      rw [this]; exact hc j hj)
    refine ⟨g', cap', w', by rw [h1]; simp, by simpa using h2, by simp at h4; omega, ?_⟩
    exact hB.trans ⟨h3.os, h3.tape, h3.output, h3.size, fun k hk => h3.block k (by simp; omega) (by simp)⟩
set_option maxHeartbeats 4000000 in
theorem sum_F (la ca cb : Nat) (a b : Option Addr) (xs ys : List F) (w : World) (hla : la = xs.length) (hlb : la = ys.length) (hl : la ≤ 140737488355328) (hx : Row8 w a xs) (hy : Row8 w b ys) :
    Calls Tryd.prog 25 #[.slice a la ca, .slice b la cb] w fun e w' => ∃ g cap, e = .returned (.slice (some ⟨g, 0, none⟩) la cap) ∧ w.heap.size ≤ g ∧ Has8 w' g (sumL la xs ys) cap ∧ Below w.heap.size w w' := by
  obtain ⟨g, cap, w1, hrun, h8, hg, hb⟩ := copy8 (ca := ca) 22 hla hl hx
  have HRun : Hid _ := hrun
  have H8 : Hid (Has8 w1 g xs cap) := h8
  have HB1 : Hid (Below w.heap.size w w1) := hb
  have HY : Hid (Row8 w b ys) := hy
  have HLA : Hid (la = xs.length) := hla
  have HLB : Hid (la = ys.length) := hlb
  have HS0 : Hid (Has8 w1 g (sumP la xs ys 0) cap) := by
    show Has8 ..
    rw [sumP_zero hla]; exact h8
  clear hrun h8 hb hy hla hlb hx
  go_enter Tryd.func25, Tryd.ntmps25
  go_wp2_with (at_builtin; refine wpList_append_run rfl _ _ 22 rfl _ _ _ _ rfl rfl HRun.out ?_)
  go_loopw [12] (fun t wr => ∃ i : Nat, i ≤ la ∧ t = .int .i64 i ∧ w1.grownBy wr (some g) ∧ Has8 wr g (sumP la xs ys i) cap) (fun t _ => la - (intOf t).toNat)
  case atStart => exact ⟨0, by omega, rfl, World.grownBy.refl _ _, HS0.out⟩
  case round =>
    obtain ⟨i, hi, rfl, hgb, hs⟩ := hrel
    have HG : Hid (w1.grownBy wr (some g)) := hgb
    have HBW : Hid (Below w.heap.size w wr) := below_grown HB1.out hgb hg
    by_cases hlt : i < la
    · obtain ⟨e0, e1⟩ := has8_cell hs (show i < (sumP la xs ys i).length by rw [sumP_len]; exact hlt)
      rw [sumP_at hlt] at e0
      obtain ⟨b1, o1, rfl, hb1, hc1⟩ := row8_get (row8_below HY.out HBW.out) (show i < ys.length by rw [← HLB.out]; exact hlt)
      have e2 := hc1 i (by rw [← HLB.out]; exact hlt)
      have ex := xor_val (at8 xs i) (at8 ys i)
      have HS : Hid (Has8 (wr.setCell ⟨g, i, none⟩ (.int .u8 ((ga (at8 xs i) (at8 ys i)).toNat : Int))) g (sumP la xs ys (i + 1)) cap) := by
        have := has8_set hs (show i < (sumP la xs ys i).length by rw [sumP_len]; exact hlt) (ga (at8 xs i) (at8 ys i))
        rwa [sumP_set hlt] at this
      clear hs hc1 hgb
      go_wp2
      go_region
      go_wp2
      exact ⟨⟨i + 1, by omega, by go_num, grownBy_drew (grownBy_setCell HG.out _), HS.out⟩, by simp [intOf]; omega⟩
    · obtain rfl : i = la := by omega
      rw [sumP_full] at hs
      have HS : Hid _ := hs
      clear hs hgb
      go_wp2
      go_ret
      exact ⟨g, cap, rfl, hg, HS.out, HBW.out⟩
end Go.Proofs.YtmlpijlcpeoeaaaDoor

/- What the statements' own choice of numbers answers: so many numbers, rising, all below the bound; nothing that was there turns. -/
namespace Go.Proofs.YtmlpijlcpeoeaaaDoor
open Go.RowKit Gf
set_option linter.unusedVariables false
set_option maxRecDepth 20000
/-- marks in memory -/
def bvs (n : Nat) (f : Nat → Bool) : Array Value := ((List.range n).map fun i => Value.bool (f i)).toArray
theorem bvs_size (n : Nat) (f : Nat → Bool) : (bvs n f).size = n := by simp [bvs]
theorem bvs_get {n i : Nat} {f : Nat → Bool} (h : i < n) : (bvs n f)[i]? = some (.bool (f i)) := by simp [bvs, h]
def upB (f : Nat → Bool) (i : Nat) : Nat → Bool := fun j => f j || decide (j = i)
theorem bvs_set {n i : Nat} {f : Nat → Bool} : (bvs n f).setIfInBounds i (.bool true) = bvs n (upB f i) := by
  apply Array.ext_getElem?
  intro j
  simp only [bvs, Array.getElem?_setIfInBounds, List.size_toArray, List.length_map, List.length_range, List.getElem?_toArray, List.getElem?_map, upB]
  by_cases h : i = j
  · subst h; by_cases h2 : i < n <;> simp [h2]
  · rw [if_neg h]
    by_cases h2 : j < n <;> simp [h2, Ne.symm h]
theorem madeB (n : Nat) : madeCells (Value.bool false).cells n = bvs n (fun _ => false) := by
  apply Array.ext_getElem?
  intro i
  by_cases h : i < n <;> simp [madeCells, bvs, Value.cells, h, Nat.mod_one]
/-- how many are marked -/
def cntB (f : Nat → Bool) (n : Nat) : Nat := ((List.range n).filter f).length
theorem cntB_le (f : Nat → Bool) (n : Nat) : cntB f n ≤ n := by have := List.length_filter_le f (List.range n); simpa [cntB] using this
theorem cntB_succ (f : Nat → Bool) (n : Nat) : cntB f (n + 1) = cntB f n + if f n then 1 else 0 := by
  simp only [cntB, List.range_succ, List.filter_append, List.length_append, List.filter_cons, List.filter_nil]
  split <;> rfl
theorem cntB_same {f g : Nat → Bool} : ∀ {n : Nat}, (∀ i, i < n → f i = g i) → cntB f n = cntB g n
  | 0, _ => rfl
  | n + 1, h => by rw [cntB_succ, cntB_succ, cntB_same (n := n) (fun i hi => h i (by omega)), h n (by omega)]
theorem cntB_up {f : Nat → Bool} {i : Nat} (hf : f i = false) : ∀ {n : Nat}, i < n → cntB (upB f i) n = cntB f n + 1
  | 0, h => absurd h (Nat.not_lt_zero _)
  | n + 1, h => by
    rw [cntB_succ, cntB_succ]
    by_cases e : i = n
    · subst e
      rw [cntB_same (f := upB f i) (g := f) (fun j hj => by simp [upB, Nat.ne_of_lt hj]), hf]
      simp [upB]
    · rw [cntB_up hf (n := n) (by omega)]
      have : upB f i n = f n := by simp [upB, Ne.symm e]
      rw [this]; omega
theorem cntB_all {f : Nat → Bool} : ∀ {n : Nat}, (∀ i, i < n → f i = true) → cntB f n = n
  | 0, _ => rfl
  | n + 1, h => by rw [cntB_succ, cntB_all (n := n) (fun i hi => h i (by omega)), h n (by omega)]; rfl
theorem cntB_none (n : Nat) : cntB (fun _ => false) n = 0 := by simp [cntB]
/-- the marked numbers -/
def pickB (f : Nat → Bool) (n : Nat) : List Nat := (List.range n).filter f
theorem pickB_same {f g : Nat → Bool} {n : Nat} (h : ∀ i, i < n → f i = g i) : pickB f n = pickB g n := List.filter_congr fun i hi => h i (by simpa using hi)
theorem pickB_yes {f : Nat → Bool} {n : Nat} (h : f n = true) : pickB f (n + 1) = pickB f n ++ [n] := by simp [pickB, List.range_succ, h]
theorem pickB_no {f : Nat → Bool} {n : Nat} (h : f n = false) : pickB f (n + 1) = pickB f n := by simp [pickB, List.range_succ, h]
theorem pickB_up {f : Nat → Bool} {n : Nat} : pickB (upB f n) n = pickB f n := pickB_same fun i hi => by simp [upB, Nat.ne_of_lt hi]
theorem pickB_sorted (f : Nat → Bool) (n : Nat) : (pickB f n).Pairwise (· < ·) := List.pairwise_lt_range.filter _
theorem pickB_lt {f : Nat → Bool} {n : Nat} : ∀ x ∈ pickB f n, x < n := fun x hx => by simpa using (List.mem_filter.1 hx).1
/-- numbers as values -/
def nvs (L : List Nat) : List Value := L.map fun i => Value.int .i64 ((i : Nat) : Int)
theorem nvs_snoc (L : List Nat) (i : Nat) : nvs L ++ [.int .i64 (i : Int)] = nvs (L ++ [i]) := by simp [nvs]
theorem own_setCell {w : World} {B n g i : Nat} {v x : Value} {e : TypeId} {s : Nat} {xs : List Value} (h : w.ownsRow B e s v n xs) (hg : g < B) : (w.setCell ⟨g, i, none⟩ x).ownsRow B e s v n xs := by
  refine ⟨h.1, h.2.imp id fun ⟨b, cap, cur, h1, h2, h3, h4⟩ => ⟨b, cap, cur, h1, h2, (heap_setCell_other _ _ _ _ (by show b ≠ g; omega)).trans h3, h4⟩⟩
theorem mod_place (x : Int) {n : Nat} (hn : 1 ≤ n) : (-(n : Int) < x.tmod n ∧ x.tmod n < n) ∧ ∃ j : Nat, j < n ∧ x.tmod n % (n : Int) = j := by
  have h1 : -(n : Int) < x.tmod n := by
    rcases Int.le_total 0 x with h | h
    · have := Int.tmod_nonneg n h; omega
    · have h2 := Int.neg_tmod (a := -x) (b := (n : Int))
      have h3 := Int.tmod_lt_of_pos (-x) (show (0 : Int) < n by omega)
      rw [Int.neg_neg] at h2; omega
  have h2 := Int.tmod_lt_of_pos x (show (0 : Int) < n by omega)
  have h3 : 0 ≤ x.tmod n % (n : Int) := Int.emod_nonneg _ (by omega)
  have h4 := Int.emod_lt_of_pos (x.tmod n) (show (0 : Int) < n by omega)
  exact ⟨⟨h1, h2⟩, (x.tmod n % (n : Int)).toNat, by omega, by omega⟩
end Go.Proofs.YtmlpijlcpeoeaaaDoor

/- What Carried of package half answers, at all numbers; nothing that was there turns. -/
namespace Go.Proofs.YtmlpijlcpeoeaaaDoor
open Go.RowKit Gf
set_option linter.unusedVariables false
set_option maxRecDepth 20000
/-- what a parity carries -/
def carL (k g i : Nat) : List Nat := pickB (fun x => decide (carN g x = i)) k
def castL (L : List Nat) : List Int := L.map fun x => ((x : Nat) : Int)
theorem castL_len (L : List Nat) : (castL L).length = L.length := by simp [castL]
theorem nvs_cast (L : List Nat) : nvs L = (castL L).map (Value.int .i64) := by simp [nvs, castL]
theorem ownI_slice {w : World} {B n : Nat} {v : Value} {L : List Nat} (ho : w.ownsRow B 3 1 v n (nvs L)) : ∃ a cap, v = .slice a n cap ∧ RowI w a (castL L) ∧ n = L.length ∧ (a = none → cap = 0) := by
  have hl := ho.1
  rw [nvs, List.length_map] at hl
  rcases ho.2 with ⟨rfl, e⟩ | ⟨g, cap, cur, rfl, h2⟩
  · exact ⟨none, 0, by rw [e], .inl (by rw [List.eq_nil_of_length_eq_zero (l := L) (by omega)]; rfl), by omega, fun _ => rfl⟩
  · rw [nvs_cast] at ho
    exact ⟨_, _, rfl, rowI_own ho, by omega, fun h => by cases h⟩
set_option maxHeartbeats 4000000 in
theorem hcarried_F (k r i : Nat) (w : World) (h1 : 1 ≤ k) (h2 : 2 ≤ r) (h3 : k + r ≤ 16) (hi : i < r) :
    Calls Tryd.prog 26 #[.int .i64 k, .int .i64 r, .int .i64 i] w fun e w' => ∃ a n cap, e = .returned (.tuple #[.slice a n cap, .nilIface]) ∧ n = (carL k (groupN k r) i).length ∧ RowI w' a (castL (carL k (groupN k r) i)) ∧ (a = none → cap = 0) ∧ Below w.heap.size w w' := by
  obtain ⟨g1, _, _, g2⟩ := groupN_least h1 h2 h3
  have HG : Hid _ := fun w => bgroup_ok k r w h1 h2 h3
  generalize groupN k r = g at *
  have HCF : Hid _ := fun j w (hj : j ≤ 1000) => carrier_F g j w g1 (by omega) hj
  obtain ⟨f, hf⟩ : ∃ f : Nat → Bool, f = fun x => decide (carN g x = i) := ⟨_, rfl⟩
  have hcl : carL k g i = pickB f k := by rw [hf]; rfl
  have hft : Hid (∀ x, carN g x = i → f x = true) := fun x h => by rw [hf]; exact decide_eq_true h
  have hff : Hid (∀ x, ¬ carN g x = i → f x = false) := fun x h => by rw [hf]; exact decide_eq_false h
  rw [hcl]
  generalize carN g = car at *
  have i1 : (i : Int) < r := by omega
  have HI : Hid _ := i1
  clear hf hcl i1
  go_enter Tryd.func26, Tryd.ntmps26
  go_wp2_with fail
  refine (HG.out _).mono ?_
  rintro e w1 ⟨rfl, rfl⟩
  go_wp2_with fail
  refine (hthere_yes _ _ _ (by omega) HI.out).mono ?_
  rintro e w1 ⟨rfl, rfl⟩
  go_wp2
  go_loopw [10, 27] (fun v t wr => ∃ j : Nat, j ≤ k ∧ t = .int .i64 j ∧ Below w.heap.size w wr ∧ wr.ownsRow w.heap.size 3 1 v (pickB f j).length (nvs (pickB f j))) (fun _ t _ => k - (intOf t).toNat)
  case atStart => exact ⟨0, by omega, rfl, Below.refl _ _, World.ownsRow_nil _ _ _ _⟩
  case round =>
    obtain ⟨j, hj, rfl, hb, ho⟩ := hrel
    have HB : Hid _ := hb
    have HO : Hid _ := ho
    obtain ⟨av, cv, rfl, hv, hn, hnil⟩ := ownI_slice ho
    have HV : Hid _ := hv
    have HNN : Hid _ := hnil
    have hl : (pickB f j).length ≤ 16 := by have := cntB_le f j; show cntB f j ≤ 16; omega
    clear hb ho hv hn hnil
    by_cases hlt : j < k
    · go_wp2_with fail
      refine (HCF.out j _ (by omega)).mono ?_
      rintro e w2 ⟨rfl, rfl⟩
      by_cases hc : car j = i
      · have hci : (car j : Int) = i := by omega
        have ho := World.ownsRow.alloc HO.out (.cells #[.int .i64 j] 3)
        obtain ⟨g2, cap2, w6, hrun, ho2, hgr, hor, hlt2⟩ := appendI (b := wr.heap.size) (c := 1) (x := (j : Int)) 54 ho (cellAt (heap_alloc_last wr (.cells #[.int .i64 j] 3)) 0 _ rfl) (by omega) (by have := HB.out.size; simp; omega)
        rw [nvs_snoc, ← pickB_yes (hft.out j hc)] at ho2
        have hb6 := below_own (B := w.heap.size) (HB.out.alloc HB.out.size (.cells #[.int .i64 j] 3)) ho hgr (by have := HB.out.size; simp; omega)
        have hlen : (pickB f j).length + 1 = (pickB f (j + 1)).length := by rw [pickB_yes (hft.out j hc)]; simp
        have HRun : Hid _ := hrun
        have HO2 : Hid _ := ho2
        have HB6 : Hid _ := hb6
        have HL : Hid _ := hlen
        clear ho hrun ho2 hb6 hgr hor hlt2 hlen hc
        go_wp2_with (at_builtin; refine wpList_append_run rfl _ _ 54 rfl _ _ _ _ rfl rfl HRun.out ?_)
        have ho9 := HO2.out
        rw [HL.out] at ho9
        rw [HL.out]
        exact ⟨⟨j + 1, by omega, by go_num, HB6.out, ho9⟩, by simp [intOf]; omega⟩
      · have hci : ¬ (car j : Int) = i := by omega
        have hpk := pickB_no (hff.out j hc)
        have HPK : Hid _ := hpk
        clear hc hpk
        go_wp2
        have ho9 := HO.out
        exact ⟨⟨j + 1, by omega, by go_num, HB.out, by rw [HPK.out]; exact ho9⟩, by simp [intOf]; omega⟩
    · obtain rfl : j = k := by omega
      go_wp2
      go_ret2
      exact ⟨av, _, cv, rfl, rfl, HV.out, HNN.out, HB.out⟩
theorem hcarried_bad (k r x : Int) (w : World) (s : Addr) (hs : w.cell? ⟨0, 0, none⟩ = some (errAt s)) (hk0 : -9223372036854775808 ≤ k) (hk1 : k ≤ 9223372036854775807) (hr0 : -9223372036854775808 ≤ r) (hr1 : r ≤ 9223372036854775807) (hL : ¬ LegalP k r) :
    Calls Tryd.prog 26 #[.int .i64 k, .int .i64 r, .int .i64 x] w fun e w' => e = .returned (.tuple #[.slice none 0 0, errAt s]) ∧ w = w' := by
  have HS : Hid _ := hs
  have H : Hid _ := hL
  clear hs hL
  go_enter Tryd.func26, Tryd.ntmps26
  go_wp2_with fail
  refine (bgroup_bad k r _ s HS.out hk0 hk1 hr0 hr1 H.out).mono ?_
  unfold errAt
  rintro e w' ⟨rfl, rfl⟩
  go_wp2
  go_ret2
  exact ⟨rfl, rfl⟩
theorem hcarried_no (k r : Nat) (x : Int) (w : World) (s : Addr) (hs : w.cell? ⟨11, 0, none⟩ = some (errAt s)) (h1 : 1 ≤ k) (h2 : 2 ≤ r) (h3 : k + r ≤ 16) (hx : ¬ (0 ≤ x ∧ x < r)) :
    Calls Tryd.prog 26 #[.int .i64 k, .int .i64 r, .int .i64 x] w fun e w' => e = .returned (.tuple #[.slice none 0 0, errAt s]) ∧ Below w.heap.size w w' := by
  have hlt := World.block_lt_of_cell? w _ hs
  simp at hlt
  have HX : Hid _ := hx
  unfold errAt at *
  clear hx
  go_enter Tryd.func26, Tryd.ntmps26
  go_wp2_with fail
  refine (bgroup_ok _ _ _ h1 h2 h3).mono ?_
  rintro e w' ⟨rfl, rfl⟩
  go_wp2_with fail
  refine (hthere_no _ _ _ HX.out).mono ?_
  rintro e w' ⟨rfl, rfl⟩
  go_wp2
  go_region
  go_wp2
  go_ret2
  exact ⟨rfl, (Below.refl _ _).drew⟩
end Go.Proofs.YtmlpijlcpeoeaaaDoor

/- Plain algebra of stage 7: where the rows of 2k halves have full rank, each unit is a combination of them, and each table of lists is the image of one and only one list of data halves. -/
namespace Go.Proofs.YtmlpijlcpeoeaaaDoor
open Go.RowKit Gf
set_option linter.unusedVariables false
set_option maxRecDepth 20000
/-- the rows of these halves -/
def numM (k : Nat) (car : Nat → Nat) (nl : List Nat) : Mt := fun i => halfF k car (nl.getD i 0)
def unitF (v : Nat) : Nat → F := fun j => if v = j then 1 else 0
theorem var_sol {c n v : Nat} {A : Mt} {x R D : Nat → F} (hv : v < c) (h : ∀ u, u < c → unitF v u = sumF (fun l => gm (A l u) (x l)) n) (hR : ∀ l, l < n → R l = sumF (fun u => gm (A l u) (D u)) c) :
    sumF (fun l => gm (x l) (R l)) n = D v := by
  rw [sumF_congr (fun l hl => by rw [hR l hl, sumF_mul_left]), sumF_swap (fun l u => gm (x l) (gm (A l u) (D u))) c n]
  rw [sumF_congr (g := fun u => gm (unitF v u) (D u)) (fun u hu => by
    rw [h u hu, sumF_mul_right]
    exact sumF_congr fun l _ => by rw [← F.mul_assoc, F.mul_comm (x l)])]
  rw [sumF_pick _ v c hv fun u _ hne => by simp [unitF, Ne.symm hne]]
  simp [unitF]
theorem full_units {A : Mt} {n : Nat} (h : (pivL A n n).length = n) : ∀ v, v < n → Dep (tr A) n n (unitF v) := fun v hv => by
  obtain ⟨R, h1, h2, _⟩ := red_ex A n n
  obtain ⟨e, he⟩ := h2 v hv
  refine ⟨e, fun i hi => ?_⟩
  have hu := h1.full_unit h v hv i hi
  show (if v = i then (1 : F) else 0) = _
  rw [← hu, he i hi]
  exact sumF_congr fun l _ => F.mul_comm _ _
theorem full_solve {A : Mt} {n : Nat} (h : (pivL A n n).length = n) (R : Nat → F) : ∃ D : Nat → F, ∀ i, i < n → R i = sumF (fun u => gm (A i u) (D u)) n := by
  have ht : (pivL (tr A) n n).length = n := by rw [rk_tr, h]
  have hz : ∀ v : Nat, ∃ x : Nat → F, v < n → ∀ i, i < n → unitF v i = sumF (fun l => gm (A i l) (x l)) n := fun v => by
    by_cases hv : v < n
    · obtain ⟨x, hx⟩ := full_units ht v hv
      exact ⟨x, fun _ i hi => hx i hi⟩
    · exact ⟨fun _ => 0, fun h => absurd h hv⟩
  obtain ⟨Z, hZ⟩ := Classical.axiomOfChoice hz
  refine ⟨fun u => sumF (fun v => gm (Z v u) (R v)) n, fun i hi => ?_⟩
  rw [sumF_congr (g := fun u => sumF (fun v => gm (A i u) (gm (Z v u) (R v))) n) (fun u _ => sumF_mul_left _ _ _)]
  rw [sumF_swap (fun u v => gm (A i u) (gm (Z v u) (R v))) n n]
  rw [sumF_congr (g := fun v => gm (unitF v i) (R v)) (fun v hv => by
    rw [hZ v hv i hi, sumF_mul_right]
    exact sumF_congr fun u _ => (F.mul_assoc _ _ _).symm)]
  rw [sumF_pick _ i n hi fun v _ hne => by simp [unitF, hne]]
  simp [unitF]
/-- the data halves of a table of lists -/
theorem full_table {A : Mt} {n : Nat} (h : (pivL A n n).length = n) (R : Nat → Nat → F) : ∃ D : Nat → Nat → F, ∀ i, i < n → ∀ b, R i b = sumF (fun u => gm (A i u) (D u b)) n := by
  obtain ⟨Y, hY⟩ := Classical.axiomOfChoice fun b : Nat => full_solve h fun i => R i b
  exact ⟨fun u b => Y b u, fun i hi b => hY b i hi⟩
theorem full_one {A : Mt} {n : Nat} (h : (pivL A n n).length = n) {R D E : Nat → F} (hD : ∀ i, i < n → R i = sumF (fun u => gm (A i u) (D u)) n) (hE : ∀ i, i < n → R i = sumF (fun u => gm (A i u) (E u)) n) : ∀ v, v < n → D v = E v := fun v hv => by
  obtain ⟨x, hx⟩ := full_units h v hv
  have h1 : ∀ u, u < n → unitF v u = sumF (fun l => gm (A l u) (x l)) n := fun u hu => hx u hu
  have e1 := var_sol (A := A) (x := x) (R := R) (D := D) hv h1 hD
  have e2 := var_sol (A := A) (x := x) (R := R) (D := E) hv h1 hE
  exact e1.symm.trans e2
/-- the rows of both halves of k shards have full rank -/
theorem num_rank {S : List Nat} {k n : Nat} {car : Nat → Nat} (hS : S.Nodup) (hl : S.length = k) (hn : ∀ x ∈ S, x < n) (hb : n ≤ 256) : (pivL (numM k car (bothH S)) (2 * k) (2 * k)).length = 2 * k :=
  half_rank hS hl hn hb
end Go.Proofs.YtmlpijlcpeoeaaaDoor

/- Two numbers, two lists behind a list of one's own; shards in memory: a number and two halves each. -/
namespace Go.Proofs.YtmlpijlcpeoeaaaDoor
open Go.RowKit Gf
set_option linter.unusedVariables false
set_option maxRecDepth 20000
theorem news_two {w : World} {b : Nat} {x y : Value} (hx : w.cell? ⟨b, 0, none⟩ = some x) (hy : w.cell? ⟨b, 1, none⟩ = some y) : ∀ j u, [x, y][j]? = some u → w.cell? ((⟨b, 0, none⟩ : Addr).add j) = some u := by
  intro j u h
  match j, h with
  | 0, h => obtain rfl := Option.some.inj h; simpa [Addr.add] using hx
  | 1, h => obtain rfl := Option.some.inj h; simpa [Addr.add] using hy
theorem appendS2 {w : World} {B n b c : Nat} {v x y : Value} {xs : List Value} (ty : TypeId) (ho : w.ownsRow B 22 1 v n xs) (hx : w.cell? ⟨b, 0, none⟩ = some x) (hy : w.cell? ⟨b, 1, none⟩ = some y) (h1 : x.oneCell' = true) (h2 : y.oneCell' = true) (hn : n ≤ 4096) (hB : B ≤ w.heap.size) :
    ∃ g cap w', (Builtin.append_ #[25, 25] ty #[v, .slice (some ⟨b, 0, none⟩) 2 c]).run Tryd.prog w = .ok (.slice (some ⟨g, 0, none⟩) (n + 2) cap) w' ∧
      w'.ownsRow B 22 1 (.slice (some ⟨g, 0, none⟩) (n + 2) cap) (n + 2) (xs ++ [x, y]) ∧ w.grownBy w' v.ownBlock ∧ (v.ownBlock = some g ∨ g = w.heap.size) ∧ g < w'.heap.size := by
  obtain ⟨i, hi, h2', h3, h4⟩ := infoS
  exact run_append_lies (P := Tryd.prog) w 25 ty B 22 i _ 1 24 Tryd.underlying25 hi h4 h2' h3 rfl (by decide) v n xs ho ⟨b, 0, none⟩ 2 c [x, y] rfl (news_two hx hy) (by simp [h1, h2]) (by decide) (by simp only [maxLen]; omega) (by omega) hB _ rfl
theorem appendI2 {w : World} {B n b c : Nat} {v : Value} {x y : Int} {xs : List Value} (ty : TypeId) (ho : w.ownsRow B 3 1 v n xs) (hx : w.cell? ⟨b, 0, none⟩ = some (.int .i64 x)) (hy : w.cell? ⟨b, 1, none⟩ = some (.int .i64 y)) (hn : n ≤ 1000000) (hB : B ≤ w.heap.size) :
    ∃ g cap w', (Builtin.append_ #[54, 54] ty #[v, .slice (some ⟨b, 0, none⟩) 2 c]).run Tryd.prog w = .ok (.slice (some ⟨g, 0, none⟩) (n + 2) cap) w' ∧
      w'.ownsRow B 3 1 (.slice (some ⟨g, 0, none⟩) (n + 2) cap) (n + 2) (xs ++ [.int .i64 x, .int .i64 y]) ∧ w.grownBy w' v.ownBlock ∧ (v.ownBlock = some g ∨ g = w.heap.size) ∧ g < w'.heap.size := by
  obtain ⟨i, hi, h2, h3, h4⟩ := infoI
  exact run_append_lies (P := Tryd.prog) w 54 ty B 3 i _ 1 8 Tryd.underlying54 hi h4 h2 h3 rfl (by decide) v n xs ho ⟨b, 0, none⟩ 2 c [.int .i64 x, .int .i64 y] rfl (news_two hx hy) (by simp [Value.oneCell']) (by decide) (by simp only [maxLen]; omega) (by omega) hB _ rfl
/-- shards in memory: the number and the two halves of each -/
def Sh8 (w : World) (a : Option Addr) (S : List (Int × List F × List F)) : Prop :=
  S = [] ∨ ∃ b off, a = some ⟨b, off, none⟩ ∧ ∀ j n xs ys, S[j]? = some (n, xs, ys) → ∃ a1 c1 a2 c2, w.cell? ⟨b, off + j * 3, none⟩ = some (.int .i64 n) ∧
    w.cell? ⟨b, off + j * 3 + 1, none⟩ = some (.slice a1 xs.length c1) ∧ w.cell? ⟨b, off + j * 3 + 2, none⟩ = some (.slice a2 ys.length c2) ∧ Row8 w a1 xs ∧ Row8 w a2 ys
theorem sh8_below {w w' : World} {a : Option Addr} {S : List (Int × List F × List F)} (h : Sh8 w a S) (hb : Below w.heap.size w w') : Sh8 w' a S := by
  rcases h with rfl | ⟨b, off, rfl, h⟩
  · exact .inl rfl
  · refine .inr ⟨b, off, rfl, fun j n xs ys hj => ?_⟩
    obtain ⟨a1, c1, a2, c2, h1, h2, h3, h4, h5⟩ := h j n xs ys hj
    exact ⟨a1, c1, a2, c2, cell_later hb h1, cell_later hb h2, cell_later hb h3, row8_below h4 hb, row8_below h5 hb⟩
end Go.Proofs.YtmlpijlcpeoeaaaDoor

/- Shards' halves in their order; lists of one's own, two places on. -/
namespace Go.Proofs.YtmlpijlcpeoeaaaDoor
open Go.RowKit Gf
set_option linter.unusedVariables false
set_option maxRecDepth 20000
/-- the halves of shards, in their order -/
def rowsS (S : List (Int × List F × List F)) : List (List F) := S.flatMap fun s => [s.2.1, s.2.2]
theorem rowsS_len : ∀ S, (rowsS S).length = 2 * S.length
  | [] => rfl
  | s :: S => by
    have := rowsS_len S
    simp only [rowsS, List.flatMap_cons, List.length_append, List.length_cons, List.length_nil] at this ⊢
    omega
theorem rowsS_snoc {S : List (Int × List F × List F)} {j : Nat} {s : Int × List F × List F} (h : S[j]? = some s) : rowsS (S.take (j + 1)) = rowsS (S.take j) ++ [s.2.1, s.2.2] := by
  rw [List.take_add_one, h]
  simp [rowsS]
theorem bothH_next {L : List Nat} {j s : Nat} (h : L[j]? = some s) : bothH (L.take (j + 1)) = bothH (L.take j) ++ [2 * s, 2 * s + 1] := by
  rw [List.take_add_one, h]
  simp [bothH]
theorem pairs_snoc {P : List F → Value → Prop} {L : List (List F)} {vs : List Value} {xs ys : List F} {x y : Value} (hl : vs.length = L.length) (h : ∀ (i : Nat) (zs : List F), L[i]? = some zs → ∃ v, vs[i]? = some v ∧ P zs v) (hx : P xs x) (hy : P ys y) :
    ∀ (i : Nat) (zs : List F), (L ++ [xs, ys])[i]? = some zs → ∃ v, (vs ++ [x, y])[i]? = some v ∧ P zs v := fun i zs hi => by
  by_cases hlt : i < L.length
  · rw [List.getElem?_append_left hlt] at hi
    rw [List.getElem?_append_left (by omega)]
    exact h i zs hi
  · rw [List.getElem?_append_right (by omega)] at hi
    rw [List.getElem?_append_right (by omega), hl]
    generalize i - L.length = q at hi
    match q, hi with
    | 0, hi => obtain rfl := Option.some.inj hi; exact ⟨x, rfl, hx⟩
    | 1, hi => obtain rfl := Option.some.inj hi; exact ⟨y, rfl, hy⟩
theorem own_kind7 {w w' : World} {B B' s s' n n' : Nat} {v v' : Value} {e e' : TypeId} {xs xs' : List Value} (ho : w.ownsRow B e s v n xs) (h : w.grownBy w' v.ownBlock) (hq : w.ownsRow B' e' s' v' n' xs') (hne : e' ≠ e) : w'.ownsRow B' e' s' v' n' xs' :=
  ⟨hq.1, hq.2.imp id fun ⟨g, cap, cur, h1, h2, h3, h4⟩ => ⟨g, cap, cur, h1, h2, own_other ho h h3 hne, h4⟩⟩
theorem castL_two (L : List Nat) (a b : Nat) : (castL (L ++ [a, b])).map (Value.int .i64) = (castL L).map (Value.int .i64) ++ [.int .i64 (a : Int), .int .i64 (b : Int)] := by simp [castL]
end Go.Proofs.YtmlpijlcpeoeaaaDoor

/- What slices.Contains of numbers, and haveSize, halvesOf, numbersOf of package code answer, of all numbers and shards. -/
namespace Go.Proofs.YtmlpijlcpeoeaaaDoor
open Go.RowKit Gf
set_option linter.unusedVariables false
set_option maxRecDepth 20000
/-- the first place of a number -/
def idxI (ns : List Int) (x : Int) : Int := if x ∈ ns then ((ns.idxOf x : Nat) : Int) else -1
set_option maxHeartbeats 1000000 in
theorem index_F (l cap : Nat) (a : Option Addr) (ns : List Int) (x : Int) (w : World) (hl : l = ns.length) (hl9 : l ≤ 1000000) (hX : RowI w a ns) :
    Calls Tryd.prog 82 #[.slice a l cap, .int .i64 x] w fun e w' => ∃ y : Int, e = .returned (.int .i64 y) ∧ (0 ≤ y ↔ x ∈ ns) ∧ w = w' := by
  have HL : Hid (l = ns.length) := hl
  have HX : Hid (RowI w a ns) := hX
  clear hl hX
  go_enter Tryd.func82, Tryd.ntmps82
  go_wp2
  go_loopw [8] (fun i wr => ∃ j : Nat, j ≤ l ∧ i = .int .i64 j ∧ wr = w ∧ (∀ q, q < j → ns[q]? ≠ some x)) (fun i _ => l - (intOf i).toNat)
  case atStart => exact ⟨0, by omega, rfl, rfl, fun q h => by omega⟩
  case round =>
    obtain ⟨j, hj, rfl, rfl, hq⟩ := hrel
    have HQ : Hid (∀ q, q < j → ns[q]? ≠ some x) := hq
    clear hq
    by_cases hlt : j < l
    · obtain ⟨b, off, rfl, hb, hc⟩ := rowI_cell HX.out (show j < ns.length by rw [← HL.out]; exact hlt)
      have c1 := hc j (by rw [← HL.out]; exact hlt)
      obtain ⟨y, hy⟩ : ∃ y, y = ns.getD j 0 := ⟨_, rfl⟩
      rw [← hy] at c1
      have HY : Hid (ns[j]? = some y) := by
        show _ = _
        rw [hy, List.getD_eq_getElem?_getD, List.getElem?_eq_getElem (by rw [← HL.out]; exact hlt)]; rfl
      clear hc hy
      by_cases he : x = y
      · have he' : (x == y) = true := by simp [he]
        have HE : Hid (x = y) := he
        clear he
        go_wp2
        go_ret
        exact ⟨j, rfl, ⟨fun _ => by rw [HE.out]; exact List.mem_of_getElem? HY.out, fun _ => by omega⟩, rfl⟩
      · have he' : (x == y) = false := by simp [he]
        have HE : Hid (¬ x = y) := he
        clear he
        go_wp2
        refine ⟨⟨j + 1, by omega, by go_num, by first | rfl | trivial, fun q hq => ?_⟩, by simp [intOf]; omega⟩
        by_cases hqj : q < j
        · exact HQ.out q hqj
        · obtain rfl : q = j := by omega
          rw [HY.out]
          exact fun h => HE.out (Option.some.inj h).symm
    · obtain rfl : j = l := by omega
      go_wp2
      go_ret
      refine ⟨-1, rfl, ⟨fun h => by omega, fun h => ?_⟩, rfl⟩
      obtain ⟨q, hq⟩ := List.mem_iff_getElem?.1 h
      exact absurd hq (HQ.out q (by have := (List.getElem?_eq_some_iff.1 hq).1; rw [HL.out]; exact this))
theorem contains_F (l cap : Nat) (a : Option Addr) (ns : List Int) (x : Int) (w : World) (hl : l = ns.length) (hl9 : l ≤ 1000000) (hX : RowI w a ns) :
    Calls Tryd.prog 58 #[.slice a l cap, .int .i64 x] w fun e w' => e = .returned (.bool (decide (x ∈ ns))) ∧ w = w' := by
  have HI : Hid _ := index_F l cap a ns x w hl hl9 hX
  clear hl hX
  go_enter Tryd.func58, Tryd.ntmps58
  go_wp2_with fail
  refine Calls.mono HI.out ?_
  rintro e w1 ⟨y, rfl, hy, rfl⟩
  have hd : decide (0 ≤ y) = decide (x ∈ ns) := by simp only [hy]
  have HD : Hid _ := hd
  clear hy hd
  go_wp2
  go_ret
  exact ⟨by rw [← HD.out]; rfl, rfl⟩
set_option maxHeartbeats 1000000 in
theorem haveSize_F (h l cap : Nat) (a : Option Addr) (L : List (List F)) (w : World) (hl : l = L.length) (hl9 : l ≤ 140737488355328) (hX : Rows8 w a L) :
    Calls Tryd.prog 35 #[.int .i64 h, .slice a l cap] w fun e w' => e = .returned (.bool (decide (∀ xs ∈ L, xs.length = h))) ∧ w = w' := by
  have HL : Hid (l = L.length) := hl
  have HX : Hid (Rows8 w a L) := hX
  clear hl hX
  go_enter Tryd.func35, Tryd.ntmps35
  go_wp2
  go_loopw [9] (fun i wr => ∃ j : Nat, j ≤ l ∧ i = .int .i64 j ∧ wr = w ∧ (∀ (q : Nat) (zs : List F), q < j → L[q]? = some zs → zs.length = h)) (fun i _ => l - (intOf i).toNat)
  case atStart => exact ⟨0, by omega, rfl, rfl, fun q _ h => by omega⟩
  case round =>
    obtain ⟨j, hj, rfl, rfl, hq⟩ := hrel
    have HQ : Hid (∀ (q : Nat) (zs : List F), q < j → L[q]? = some zs → zs.length = h) := hq
    clear hq
    by_cases hlt : j < l
    · obtain ⟨zs, hzs⟩ : ∃ zs, L[j]? = some zs := ⟨_, List.getElem?_eq_getElem (by rw [← HL.out]; exact hlt)⟩
      obtain ⟨bR, oR, rfl, hbR, hcR⟩ := rows8_at HX.out (List.getElem?_eq_some_iff.1 hzs).1
      obtain ⟨a', c', e1, _⟩ := hcR j zs hzs
      have HZS : Hid (L[j]? = some zs) := hzs
      clear hzs hcR
      by_cases hz : zs.length = h
      · have hz' : ((zs.length : Int) != (h : Int)) = false := by simp [hz]
        have HZ : Hid (zs.length = h) := hz
        clear hz
        go_wp2
        refine ⟨⟨j + 1, by omega, by go_num, by first | rfl | trivial, fun q ws hq hws => ?_⟩, by simp [intOf]; omega⟩
        by_cases hqi : q < j
        · exact HQ.out q ws hqi hws
        · obtain rfl : q = j := by omega
          rw [HZS.out] at hws
          obtain rfl := Option.some.inj hws
          exact HZ.out
      · have hz' : ((zs.length : Int) != (h : Int)) = true := by simp only [bne_iff_ne, ne_eq]; omega
        have HZ : Hid (¬ zs.length = h) := hz
        clear hz
        go_wp2
        go_ret
        have e9 : decide (∀ xs ∈ L, xs.length = h) = false := decide_eq_false fun h9 => HZ.out (h9 zs (List.mem_of_getElem? HZS.out))
        exact ⟨by rw [e9]; rfl, rfl⟩
    · obtain rfl : j = l := by omega
      go_wp2
      go_ret
      have e9 : decide (∀ xs ∈ L, xs.length = h) = true := decide_eq_true fun xs hx => by
        obtain ⟨q, hq⟩ := List.mem_iff_getElem?.1 hx
        exact HQ.out q xs (by have := (List.getElem?_eq_some_iff.1 hq).1; rw [HL.out]; exact this) hq
      exact ⟨by rw [e9]; rfl, rfl⟩
set_option maxHeartbeats 4000000 in
theorem halvesOf_F (l cap : Nat) (a : Option Addr) (S : List (Int × List F × List F)) (w : World) (hl : l = S.length) (hl9 : l ≤ 16) (h0 : 1 ≤ l) (hS : Sh8 w a S) :
    Calls Tryd.prog 34 #[.slice a l cap] w fun e w' => ∃ a9 c9 l9, e = .returned (.slice a9 l9 c9) ∧ l9 = 2 * l ∧ Rows8 w' a9 (rowsS S) ∧ Below w.heap.size w w' := by
  have HL : Hid (l = S.length) := hl
  have HS : Hid (Sh8 w a S) := hS
  clear hl hS
  go_enter Tryd.func34, Tryd.ntmps34
  go_wp2
  go_loopw [3, 8] (fun q i wr => ∃ j : Nat, ∃ vs : List Value, j ≤ l ∧ i = .int .i64 j ∧ Below w.heap.size w wr ∧ wr.ownsRow w.heap.size 22 1 q (2 * j) vs ∧
    ∀ (i : Nat) (zs : List F), (rowsS (S.take j))[i]? = some zs → ∃ v, vs[i]? = some v ∧ ∃ a' c', v = .slice a' zs.length c' ∧ Row8 w a' zs) (fun _ i _ => l - (intOf i).toNat)
  case atStart => exact ⟨0, [], by omega, rfl, Below.refl _ _, ⟨rfl, .inl ⟨rfl, rfl⟩⟩, fun i zs h => by simp [rowsS] at h⟩
  case round =>
    obtain ⟨j, vs, hj, rfl, hbw, hq, hvs⟩ := hrel
    have HBW : Hid (Below w.heap.size w wr) := hbw
    have HQ : Hid (wr.ownsRow w.heap.size 22 1 u3 (2 * j) vs) := hq
    have HVS : Hid (∀ (i : Nat) (zs : List F), (rowsS (S.take j))[i]? = some zs → ∃ v, vs[i]? = some v ∧ ∃ a' c', v = .slice a' zs.length c' ∧ Row8 w a' zs) := hvs
    clear hbw hq hvs
    by_cases hlt : j < l
    · have hjS : j < S.length := by rw [← HL.out]; exact hlt
      obtain ⟨⟨m, xs, ys⟩, hs⟩ : ∃ s, S[j]? = some s := ⟨_, List.getElem?_eq_getElem hjS⟩
      have HSJ : Hid (rowsS (S.take (j + 1)) = rowsS (S.take j) ++ [xs, ys]) := rowsS_snoc hs
      rcases HS.out with e0 | ⟨bS, oS, eS, hcS⟩
      · rw [e0] at hjS; simp at hjS
      subst eS
      obtain ⟨a1, l1, a2, l2, e1, e2, e3, r1, r2⟩ := hcS j m xs ys hs
      have c1 := cell_later HBW.out e1
      have c2 := cell_later HBW.out e2
      have c3 := cell_later HBW.out e3
      have R1 : Hid (Row8 w a1 xs) := r1
      have R2 : Hid (Row8 w a2 ys) := r2
      have c4 : Hid ((wr.alloc (.cells #[.int .i64 m, .slice a1 xs.length l1, .slice a2 ys.length l2] 38)).heap[wr.heap.size]? = some (.cells #[.int .i64 m, .slice a1 xs.length l1, .slice a2 ys.length l2] 38 (0, 0))) := heap_alloc_last _ _
      have B7 : Hid (Below w.heap.size w (wr.alloc (.cells #[.int .i64 m, .slice a1 xs.length l1, .slice a2 ys.length l2] 38))) := HBW.out.alloc HBW.out.size _
      have Q8 : Hid ((wr.alloc (.cells #[.int .i64 m, .slice a1 xs.length l1, .slice a2 ys.length l2] 38)).ownsRow w.heap.size 22 1 u3 (2 * j) vs) := World.ownsRow.alloc HQ.out _
      clear hs hcS e1 e2 e3 r1 r2
      go_upto_region 5 with fail
      clear c1 c2 c3
      generalize (wr.alloc (.cells #[.int .i64 m, .slice a1 xs.length l1, .slice a2 ys.length l2] 38)) = W7 at *
      generalize wr.heap.size = N at *
      have d1 := cellAt c4.out 1 _ rfl
      have d2 := cellAt c4.out 2 _ rfl
      have hq9 := World.ownsRow.alloc Q8.out (.cells #[.slice a1 xs.length l1, .slice a2 ys.length l2] 22)
      have zz := B7.out.size
      obtain ⟨gQ, capQ, wQ, hrunQ, hqQ, hgrQ, horQ, hltQ⟩ := appendS2 (b := W7.heap.size) (c := 2) (x := .slice a1 xs.length l1) (y := .slice a2 ys.length l2) 25 hq9 (cellAt (heap_alloc_last W7 _) 0 _ rfl) (cellAt (heap_alloc_last W7 _) 1 _ rfl) rfl rfl (by omega) (by simp; omega)
      have hbQ := below_own (B := w.heap.size) (B7.out.alloc B7.out.size (.cells #[.slice a1 xs.length l1, .slice a2 ys.length l2] 22)) hq9 hgrQ (by simp; omega)
      have HRQ : Hid _ := hrunQ
      have HBQ : Hid (Below w.heap.size w wQ) := hbQ
      have HQQ : Hid (wQ.ownsRow w.heap.size 22 1 (.slice (some ⟨gQ, 0, none⟩) (2 * j + 2) capQ) (2 * j + 2) (vs ++ [.slice a1 xs.length l1, .slice a2 ys.length l2])) := hqQ
      have hvl : vs.length = (rowsS (S.take j)).length := by
        have h1 := HQ.out.1
        rw [rowsS_len, List.length_take]; omega
      have HV2 : Hid (∀ (i : Nat) (zs : List F), (rowsS (S.take (j + 1)))[i]? = some zs → ∃ v, (vs ++ [.slice a1 xs.length l1, .slice a2 ys.length l2])[i]? = some v ∧ ∃ a' c', v = .slice a' zs.length c' ∧ Row8 w a' zs) := by
        show ∀ (i : Nat) (zs : List F), _
        rw [HSJ.out]
        exact pairs_snoc (P := fun zs v => ∃ a' c', v = .slice a' zs.length c' ∧ Row8 w a' zs) hvl HVS.out ⟨a1, l1, rfl, R1.out⟩ ⟨a2, l2, rfl, R2.out⟩
      clear hq9 zz hrunQ hqQ hgrQ horQ hltQ hbQ hvl
      go_wp2_with (at_builtin; refine wpList_append_run rfl _ _ 25 rfl _ _ _ _ rfl rfl HRQ.out ?_)
      exact ⟨⟨j + 1, _, by omega, by go_num, HBQ.out, HQQ.out, HV2.out⟩, by simp [intOf]; omega⟩
    · obtain rfl : j = l := by omega
      have hR : ∃ a9 c9, u3 = .slice a9 (2 * j) c9 ∧ Rows8 wr a9 (rowsS S) := by
        have hvs := HVS.out
        rw [List.take_of_length_le (by rw [← HL.out]; exact Nat.le_refl _)] at hvs
        rcases HQ.out.2 with ⟨e, e0⟩ | ⟨g, cap, cur, e, hg⟩
        · omega
        · refine ⟨some ⟨g, 0, none⟩, cap, e, .inr ⟨g, 0, rfl, fun i zs hi => ?_⟩⟩
          obtain ⟨v, hv, a', c', rfl, hr⟩ := hvs i zs hi
          have hil : i < 2 * j := by
            have := (List.getElem?_eq_some_iff.1 hi).1
            rw [rowsS_len, ← HL.out] at this; exact this
          have hoe := HQ.out
          rw [e] at hoe
          refine ⟨a', c', ?_, row8_below hr HBW.out⟩
          rw [Nat.zero_add, hoe.cellAt i (by rw [Nat.mul_one]; exact hil)]
          exact hv
      obtain ⟨a9, c9, rfl, hR9⟩ := hR
      have HR9 : Hid (Rows8 wr a9 (rowsS S)) := hR9
      clear HQ HVS hR9
      go_wp2
      go_ret
      exact ⟨a9, c9, _, rfl, rfl, HR9.out, HBW.out⟩
end Go.Proofs.YtmlpijlcpeoeaaaDoor

/- What Fits of package code answers, of all numbers and lists of halves; nothing that was there turns. -/
namespace Go.Proofs.YtmlpijlcpeoeaaaDoor
open Go.RowKit Gf
set_option linter.unusedVariables false
set_option maxRecDepth 20000
set_option maxHeartbeats 2000000 in
theorem equalFunc_F (l c1 c2 : Nat) (a1 a2 : Option Addr) (L1 L2 : List (List F)) (w : World) (hl1 : l = L1.length) (hl2 : l = L2.length) (hl9 : l ≤ 64) (h1 : Rows8 w a1 L1) (h2 : Rows8 w a2 L2) :
    Calls Tryd.prog 41 #[.slice a1 l c1, .slice a2 l c2, .func (.func 42) #[] #[]] w fun e w' => e = .returned (.bool (decide (L1 = L2))) ∧ w = w' := by
  have HL1 : Hid (l = L1.length) := hl1
  have HL2 : Hid (l = L2.length) := hl2
  have HR1 : Hid (Rows8 w a1 L1) := h1
  have HR2 : Hid (Rows8 w a2 L2) := h2
  clear hl1 hl2 h1 h2
  go_enter Tryd.func41, Tryd.ntmps41
  go_wp2
  go_loopw [17] (fun t wr => ∃ j : Nat, j ≤ l ∧ t = .int .i64 j ∧ wr = w ∧ (∀ q, q < j → L1[q]? = L2[q]?)) (fun t _ => l - (intOf t).toNat)
  case atStart => exact ⟨0, by omega, rfl, rfl, fun q h => by omega⟩
  case round =>
    obtain ⟨j, hj, rfl, rfl, hq⟩ := hrel
    have HQ : Hid (∀ q, q < j → L1[q]? = L2[q]?) := hq
    clear hq
    by_cases hlt : j < l
    · obtain ⟨xs, hxs⟩ : ∃ xs, L1[j]? = some xs := ⟨_, List.getElem?_eq_getElem (by rw [← HL1.out]; exact hlt)⟩
      obtain ⟨ys, hys⟩ : ∃ ys, L2[j]? = some ys := ⟨_, List.getElem?_eq_getElem (by rw [← HL2.out]; exact hlt)⟩
      obtain ⟨b1, o1, rfl, _, hc1⟩ := rows8_at HR1.out (List.getElem?_eq_some_iff.1 hxs).1
      obtain ⟨b2, o2, rfl, _, hc2⟩ := rows8_at HR2.out (List.getElem?_eq_some_iff.1 hys).1
      obtain ⟨p1, d1, e1, r1⟩ := hc1 j xs hxs
      obtain ⟨p2, d2, e2, r2⟩ := hc2 j ys hys
      have HXS : Hid (L1[j]? = some xs) := hxs
      have HYS : Hid (L2[j]? = some ys) := hys
      have R1 : Hid _ := r1
      have R2 : Hid _ := r2
      clear hxs hys hc1 hc2 r1 r2
      go_wp2_with fail
      refine Calls.mono (equal_F p1 p2 xs.length d1 ys.length d2 xs ys _ rfl rfl R1.out R2.out) ?_
      rintro e w2 ⟨rfl, rfl⟩
      by_cases hxy : xs = ys
      · have ex : eqB xs ys = true := by rw [hxy]; exact eqB_true _
        rw [ex]
        have HXY : Hid (xs = ys) := hxy
        clear hxy ex
        go_wp2
        refine ⟨⟨j + 1, by omega, by go_num, by first | rfl | trivial, fun q hq => ?_⟩, by simp [intOf]; omega⟩
        by_cases hqj : q < j
        · exact HQ.out q hqj
        · obtain rfl : q = j := by omega
          rw [HXS.out, HYS.out, HXY.out]
      · have ex : eqB xs ys = false := decide_eq_false hxy
        rw [ex]
        have e9 : decide (L1 = L2) = false := decide_eq_false fun h => hxy (by have := HXS.out; rw [h, HYS.out] at this; exact (Option.some.inj this).symm)
        have HE9 : Hid (decide (L1 = L2) = false) := e9
        clear hxy ex e9
        go_wp2
        go_ret
        exact ⟨by rw [HE9.out]; rfl, rfl⟩
    · obtain rfl : j = l := by omega
      have e9 : decide (L1 = L2) = true := decide_eq_true (List.ext_getElem? fun q => by
        by_cases hq : q < j
        · exact HQ.out q hq
        · rw [List.getElem?_eq_none (by rw [← HL1.out]; omega), List.getElem?_eq_none (by rw [← HL2.out]; omega)])
      have HE9 : Hid (decide (L1 = L2) = true) := e9
      clear e9
      go_wp2
      go_ret
      exact ⟨by rw [HE9.out]; rfl, rfl⟩
/-- lists of one size that a stripe's halves can have -/
def OneSize (L : List (List F)) (H : Nat) : Prop := 1 ≤ H ∧ H ≤ 64 ∧ ∀ xs ∈ L, xs.length = H
instance (L : List (List F)) (H : Nat) : Decidable (OneSize L H) := inferInstanceAs (Decidable (_ ∧ _))
set_option maxHeartbeats 2000000 in
theorem ofStripe_F (l cap : Nat) (a : Option Addr) (L : List (List F)) (w : World) (hl : l = L.length) (hl9 : l ≤ 64) (h0 : 1 ≤ l) (h : Rows8 w a L) (hb : (L.getD 0 []).length ≤ 140737488355328) :
    Calls Tryd.prog 40 #[.slice a l cap] w fun e w' => e = .returned (.bool (decide (OneSize L (L.getD 0 []).length))) ∧ w = w' := by
  have HS : Hid _ := fun h' => haveSize_F h' l cap a L w hl (by omega) h
  obtain ⟨xs, hxs⟩ : ∃ xs, L[0]? = some xs := ⟨_, List.getElem?_eq_getElem (by omega)⟩
  have e1 : L.getD 0 [] = xs := by rw [List.getD_eq_getElem?_getD, hxs]; rfl
  rw [e1] at hb ⊢
  obtain ⟨b1, o1, rfl, _, hc1⟩ := rows8_at h (show 0 < L.length by omega)
  obtain ⟨p1, d1, e2, _⟩ := hc1 0 xs hxs
  rw [Nat.add_zero] at e2
  clear hc1 hxs e1 h hl
  go_enter Tryd.func40, Tryd.ntmps40
  by_cases h1 : 1 ≤ xs.length
  · by_cases h2 : xs.length ≤ 64
    · go_wp2_with fail
      refine Calls.mono (HS.out xs.length) ?_
      rintro e w2 ⟨rfl, rfl⟩
      have e9 : decide (∀ ys ∈ L, ys.length = xs.length) = decide (OneSize L xs.length) := by
        rw [decide_eq_decide]; exact ⟨fun h => ⟨h1, h2, h⟩, fun h => h.2.2⟩
      rw [e9]
      clear e9
      go_wp2
      go_ret
      exact ⟨rfl, rfl⟩
    · have e9 : decide (OneSize L xs.length) = false := decide_eq_false fun h => h2 h.2.1
      rw [e9]
      clear e9
      go_wp2
      go_ret
      exact ⟨rfl, rfl⟩
  · have e9 : decide (OneSize L xs.length) = false := decide_eq_false fun h => h1 h.1
    rw [e9]
    clear e9
    go_wp2
    go_ret
    exact ⟨rfl, rfl⟩
theorem rows8_take {w : World} {a : Option Addr} {L : List (List F)} (h : Rows8 w a L) (c : Nat) : Rows8 w a (L.take c) := by
  rcases h with rfl | ⟨b, off, rfl, h⟩
  · exact .inl (by simp)
  · exact .inr ⟨b, off, rfl, fun j xs hj => h j xs (by
      rw [List.getElem?_take] at hj
      split at hj
      · exact hj
      · cases hj)⟩
theorem bytesD_take {L : List (List F)} {c v b : Nat} (h : v < c) : bytesD (L.take c) v b = bytesD L v b := by
  unfold bytesD
  rw [List.getD_eq_getElem?_getD, List.getD_eq_getElem?_getD, List.getElem?_take, if_pos h]
/-- halves that Fits takes -/
def FitsIn (k r l : Nat) (L : List (List F)) (H : Nat) : Prop := l = 2 * (k + r) ∧ OneSize L H
/-- the halves that the data halves among them make -/
def madeL (k r H : Nat) (L : List (List F)) : List (List F) := (List.range (2 * (k + r))).map (imgL k (carN (groupN k r)) H (bytesD L))
theorem made_rows {w : World} {B M k r H c2 cR : Nat} {L : List (List F)} {gs : List (Nat × Nat)} (hc2 : c2 = 2 * k) (hcR : cR = 2 * (k + r)) (hrs : RowsP w B gs (combL c2 H (halfM k r) (L.take c2))) (hgs : gs.length = cR)
    (hT : w.heap[M]? = some (.cells (slW (rowsP H gs) cR) 22 (0, 0))) : Rows8 w (some ⟨M, 0, none⟩) (madeL k r H L) := by
  have hr2 := rowsP_congr (g := imgL k (carN (groupN k r)) H (bytesD L)) hrs fun i hi => by
    rw [hc2, comb_half (by rw [← hcR, ← hgs]; exact hi)]
    exact img_congr fun v b hv hb => bytesD_take hv
  have := rowsP_rows hr2 hgs (fun i => imgL_len _ _ _ _ _) hT
  unfold madeL
  rw [← hcR]; exact this
set_option maxHeartbeats 8000000 in
theorem fits_G (k r l cap H : Nat) (a : Option Addr) (L : List (List F)) (w : World) (E : Nat → Addr) (hE : ErrsF w E) (hE4 : w.cell? ⟨1, 0, none⟩ = some (errAt (E 4))) (h1 : 1 ≤ k) (h2 : 2 ≤ r) (h3 : k + r ≤ 16) (hl : l = L.length) (hl9 : l ≤ 140737488355328) (hcap : l ≤ cap) (hX : Rows8 w a L) (hb9 : ∀ xs ∈ L, xs.length ≤ 140737488355328) (hHL : H = (L.getD 0 []).length) :
    Calls Tryd.prog 21 #[.int .i64 k, .int .i64 r, .slice a l cap] w fun e w' =>
      (¬ FitsIn k r l L H ∧ e = .returned (.tuple #[.bool false, errAt (E 4)]) ∧ Below w.heap.size w w') ∨
      (FitsIn k r l L H ∧ e = .returned (.tuple #[.bool (decide (madeL k r H L = L)), .nilIface]) ∧ Below w.heap.size w w') := by
  have HE : Hid (ErrsF w E) := hE
  have HE4 : Hid _ := hE4
  have hlt4 := World.block_lt_of_cell? w _ hE4
  simp at hlt4
  have HX : Hid (Rows8 w a L) := hX
  have HL : Hid (l = L.length) := hl
  have HB9 : Hid (∀ xs ∈ L, xs.length ≤ 140737488355328) := hb9
  obtain ⟨c2, hc2⟩ : ∃ c2, c2 = 2 * k := ⟨_, rfl⟩
  obtain ⟨cR, hcR⟩ : ∃ cR, cR = 2 * (k + r) := ⟨_, rfl⟩
  have HC2 : Hid (c2 = 2 * k) := hc2
  have HCR : Hid (cR = 2 * (k + r)) := hcR
  have HR : Hid _ := fun w s h => hrows_F k r w s h h1 h2 h3
  rw [← hc2, ← hcR] at HR
  have hcl : c2 ≤ 28 := by omega
  have hcl1 : 1 ≤ c2 := by omega
  have hRl : cR ≤ 32 := by omega
  have hR6 : 6 ≤ cR := by omega
  have hcc : c2 ≤ cR := by omega
  have HHH : Hid (H = (L.getD 0 []).length) := hHL
  clear hE hX hl hc2 hcR hb9 hE4 hHL
  unfold errAt at *
  go_enter Tryd.func21, Tryd.ntmps21
  go_wp2_with fail
  refine Calls.mono (HR.out _ (E 1) HE.out.2) ?_
  rintro e w1 ⟨g1, m1, rfl, hm1, hg1, hh1, hb1⟩
  have HA1 : Hid _ := holds_new (holds_cons (holds_nil w1) hh1) #[.int .i64 cR, .int .i64 c2, .slice (some ⟨g1, 0, none⟩) m1 m1] 65
  have HB1 : Hid (Below w.heap.size w (w1.alloc (.cells #[.int .i64 cR, .int .i64 c2, .slice (some ⟨g1, 0, none⟩) m1 m1] 65))) := hb1.alloc hb1.size _
  have HM1 : Hid (m1 = cR * c2) := hm1
  clear hm1 hg1 hh1 hb1
  by_cases hlc : l = cR
  · subst hlc
    have hlc' : ((l : Int) != (l : Int)) = false := by simp
    have hl64 : l ≤ 64 := by omega
    have hl1 : 1 ≤ l := by omega
    have HD0 : Hid ((L.getD 0 []).length ≤ 140737488355328) := by
      show _ ≤ _
      rw [List.getD_eq_getElem?_getD, List.getElem?_eq_getElem (show 0 < L.length by have := HL.out; omega)]
      exact HB9.out _ (List.getElem_mem _)
    go_wp2_with fail
    refine Calls.mono (ofStripe_F l cap a L _ HL.out hl64 hl1 (rows8_below HX.out HB1.out) HD0.out) ?_
    rintro e w2 ⟨rfl, rfl⟩
    by_cases hos : OneSize L (L.getD 0 []).length
    · rw [decide_eq_true hos]
      have HOS : Hid (OneSize L H) := by
        show OneSize L H
        rw [HHH.out]; exact hos
      have hH64 : H ≤ 64 := HOS.out.2.1
      clear hos HD0
      go_wp2
      have kA : ∀ u, Below (w1.alloc (.cells #[.int .i64 l, .int .i64 c2, .slice (some ⟨g1, 0, none⟩) m1 m1] 65)).heap.size (w1.alloc (.cells #[.int .i64 l, .int .i64 c2, .slice (some ⟨g1, 0, none⟩) m1 m1] 65)) u → Holds u [(w1.heap.size, .cells #[.int .i64 l, .int .i64 c2, .slice (some ⟨g1, 0, none⟩) m1 m1] 65 (0, 0)), (g1, .cells (vfs (halfM k r)) 5 (0, 0))] := fun u hu => holds_later HA1.out hu
      generalize (w1.alloc (.cells #[.int .i64 l, .int .i64 c2, .slice (some ⟨g1, 0, none⟩) m1 m1] 65)) = W2 at *
      generalize w1.heap.size = P at *
      have HKA : Hid _ := kA
      have C0 : ∀ u, Below W2.heap.size W2 u → u.cell? ⟨P, 0, none⟩ = some (.int .i64 l) := fun u hu => cellAt (holds_at (HKA.out u hu) 0 rfl) 0 _ rfl
      have C1 : ∀ u, Below W2.heap.size W2 u → u.cell? ⟨P, 1, none⟩ = some (.int .i64 c2) := fun u hu => cellAt (holds_at (HKA.out u hu) 0 rfl) 1 _ rfl
      have C2 : ∀ u, Below W2.heap.size W2 u → u.cell? ⟨P, 2, none⟩ = some (.slice (some ⟨g1, 0, none⟩) m1 m1) := fun u hu => cellAt (holds_at (HKA.out u hu) 0 rfl) 2 _ rfl
      have hcle : c2 ≤ cap := by omega
      clear kA
      have hR2 : Below W2.heap.size W2 W2.drew := (Below.refl _ _).drew
      go_region_held3 (fun u => Below W2.heap.size W2 u) (first | assumption | (refine Below.drew ?_; assumption)) (first | (go_at_call 30; refine Calls.mono (ccomb_F l c2 H m1 m1 c2 cap (some ⟨g1, 0, none⟩) a (halfM k r) (L.take c2) _ (by omega) hcl1 (by omega) hH64 HM1.out (by rw [halfM_len, HCR.out, HC2.out]) (Nat.le_refl _) (holds_row (HKA.out _ ‹Below W2.heap.size W2 _›) 1 rfl) rfl (by rw [List.length_take]; have := HL.out; omega) (fun ys hy => HOS.out.2.2 ys (List.mem_of_mem_take hy)) (rows8_take (rows8_below HX.out (HB1.out.trans (Below.mono ‹Below W2.heap.size W2 _› HB1.out.size))) _)) ?_; rintro e wi ⟨M, gs, rfl, hM, hgs, hT, hrs, hb⟩; have hTi : Below W2.heap.size W2 wi := Below.trans ‹Below W2.heap.size W2 _› (Below.mono hb (below_size ‹Below W2.heap.size W2 _›)); have HMD : Hid (Rows8 wi (some ⟨M, 0, none⟩) (madeL k r H L)) := made_rows HC2.out HCR.out hrs hgs hT; clear hM hgs hT hrs hb))
      have HB3 : Hid (Below w.heap.size w wi) := HB1.out.trans (hTi.mono HB1.out.size)
      clear hTi hR2 C0 C1 C2
      go_wp2_with fail
      refine Calls.mono (equalFunc_F l l cap (some ⟨M, 0, none⟩) a (madeL k r H L) L _ (by simp [madeL, HCR.out]) HL.out (by omega) HMD.out (rows8_below HX.out HB3.out)) ?_
      rintro e w4 ⟨rfl, rfl⟩
      go_wp2
      go_ret2
      exact .inr ⟨⟨HCR.out, HOS.out⟩, rfl, HB3.out⟩
    · rw [decide_eq_false hos]
      have HOS : Hid (¬ OneSize L (L.getD 0 []).length) := hos
      have hc9 : (w1.alloc (.cells #[.int .i64 l, .int .i64 c2, .slice (some ⟨g1, 0, none⟩) m1 m1] 65)).cell? ⟨1, 0, none⟩ = some (errAt (E 4)) := (HB1.out.cell (p := ⟨1, 0, none⟩) hlt4).trans HE4.out
      unfold errAt at hc9
      clear hos
      go_wp2
      go_region
      go_wp2
      go_ret2
      exact .inl ⟨fun h => HOS.out (by rw [← HHH.out]; exact h.2), rfl, HB1.out.drew⟩
  · have hlc' : ((l : Int) != (cR : Int)) = true := by simp only [bne_iff_ne, ne_eq]; omega
    have HLC : Hid (¬ l = cR) := hlc
    have hc9 : (w1.alloc (.cells #[.int .i64 cR, .int .i64 c2, .slice (some ⟨g1, 0, none⟩) m1 m1] 65)).cell? ⟨1, 0, none⟩ = some (errAt (E 4)) := (HB1.out.cell (p := ⟨1, 0, none⟩) hlt4).trans HE4.out
    unfold errAt at hc9
    clear hlc
    go_wp2
    go_region
    go_wp2
    go_ret2
    exact .inl ⟨fun h => HLC.out (by rw [HCR.out]; exact h.1), rfl, HB1.out.drew⟩
set_option maxHeartbeats 2000000 in
theorem fits_illegal (k r : Int) (l cap : Nat) (a : Option Addr) (w : World) (E : Nat → Addr) (hE : ErrsF w E) (hk0 : -9223372036854775808 ≤ k) (hk1 : k ≤ 9223372036854775807) (hr0 : -9223372036854775808 ≤ r) (hr1 : r ≤ 9223372036854775807) (hL : ¬ LegalP k r) :
    Calls Tryd.prog 21 #[.int .i64 k, .int .i64 r, .slice a l cap] w fun e w' => e = .returned (.tuple #[.bool false, errAt (E 0)]) ∧ Below w.heap.size w w' := by
  have HR : Hid _ := fun u hu => hrows_bad k r u (E 0) hu hk0 hk1 hr0 hr1 hL
  have HE : Hid (ErrsF w E) := hE
  clear hE hL
  unfold errAt at HR ⊢
  go_enter Tryd.func21, Tryd.ntmps21
  go_wp2_with fail
  refine Calls.mono (HR.out _ HE.out.1.1) ?_
  rintro e w1 ⟨rfl, hb1⟩
  have HB1 : Hid (Below w.heap.size w w1) := hb1
  clear hb1
  go_wp2_with fail
  go_ret2
  exact ⟨rfl, HB1.out.alloc HB1.out.size _⟩
end Go.Proofs.YtmlpijlcpeoeaaaDoor
/- What numbersOf of package code answers, of all shards: the numbers of their halves, or ErrHalf. -/
namespace Go.Proofs.YtmlpijlcpeoeaaaDoor
open Go.RowKit Gf
set_option linter.unusedVariables false
set_option maxRecDepth 20000
/-- shards whose numbers are in range and apart -/
def GoodT (k r : Nat) (T : List (Int × List F × List F)) : Prop := (∀ s ∈ T, 0 ≤ s.1 ∧ s.1 < k + r) ∧ (T.map fun s => s.1).Nodup
/-- their numbers -/
def numT (T : List (Int × List F × List F)) : List Nat := T.map fun s => s.1.toNat
theorem numT_len (T : List (Int × List F × List F)) : (numT T).length = T.length := by simp [numT]
theorem numT_mem {k r : Nat} {T : List (Int × List F × List F)} {m : Int} (h : GoodT k r T) (hm : 0 ≤ m) : m.toNat ∈ numT T ↔ m ∈ T.map fun s => s.1 := by
  simp only [numT, List.mem_map]
  refine ⟨fun ⟨s, hs, e⟩ => ⟨s, hs, ?_⟩, fun ⟨s, hs, e⟩ => ⟨s, hs, by rw [e]⟩⟩
  have := (h.1 s hs).1
  omega
theorem good_nil (k r : Nat) : GoodT k r [] := ⟨by simp, by simp⟩
theorem good_snoc {k r : Nat} {T : List (Int × List F × List F)} {s : Int × List F × List F} (h : GoodT k r T) (h0 : 0 ≤ s.1) (h1 : s.1 < k + r) (hn : s.1.toNat ∉ numT T) : GoodT k r (T ++ [s]) := by
  refine ⟨fun t ht => ?_, ?_⟩
  · rcases List.mem_append.1 ht with ht | ht
    · exact h.1 t ht
    · obtain rfl := List.mem_singleton.1 ht
      exact ⟨h0, h1⟩
  · rw [List.map_append, List.nodup_append]
    refine ⟨h.2, by simp, fun x hx y hy e => ?_⟩
    simp only [List.map_cons, List.map_nil, List.mem_singleton] at hy
    subst hy
    subst e
    exact hn ((numT_mem h h0).2 hx)
theorem good_take {k r j : Nat} {S : List (Int × List F × List F)} (h : GoodT k r S) : GoodT k r (S.take j) :=
  ⟨fun s hs => h.1 s (List.mem_of_mem_take hs), (List.Sublist.map _ (List.take_sublist j S)).nodup h.2⟩
theorem good_dup {k r j : Nat} {S : List (Int × List F × List F)} {s : Int × List F × List F} (hs : S[j]? = some s) (h0 : 0 ≤ s.1) (hT : GoodT k r (S.take j)) (hd : s.1.toNat ∈ numT (S.take j)) : ¬ GoodT k r S := fun h => by
  have h1 := (good_take (j := j + 1) h).2
  rw [List.take_add_one, hs, Option.toList_some, List.map_append, List.nodup_append] at h1
  exact h1.2.2 _ ((numT_mem hT h0).1 hd) s.1 (by simp) rfl
theorem good_range {k r j : Nat} {S : List (Int × List F × List F)} {s : Int × List F × List F} (hs : S[j]? = some s) (hr : ¬ (0 ≤ s.1 ∧ s.1 < k + r)) : ¬ GoodT k r S := fun h => hr (h.1 s (List.mem_of_getElem? hs))
theorem good_nums {k r : Nat} {S : List (Int × List F × List F)} (h : GoodT k r S) : (∀ j s, S[j]? = some s → s.1 = (((numT S).getD j 0 : Nat) : Int)) ∧ (∀ x ∈ numT S, x < k + r) ∧ (numT S).Nodup := by
  refine ⟨fun j s hs => ?_, fun x hx => ?_, ?_⟩
  · have := (h.1 s (List.mem_of_getElem? hs)).1
    simp only [numT, List.getD_eq_getElem?_getD, List.getElem?_map, hs, Option.map_some, Option.getD_some]
    omega
  · simp only [numT, List.mem_map] at hx
    obtain ⟨s, hs, rfl⟩ := hx
    have := h.1 s hs
    omega
  · have : ∀ T : List (Int × List F × List F), GoodT k r T → (numT T).Nodup := by
      intro T
      induction T with
      | nil => intro _; simp [numT]
      | cons t T ih =>
        intro h
        have hT : GoodT k r T := ⟨fun s hs => h.1 s (List.mem_cons_of_mem _ hs), by have := h.2; rw [List.map_cons, List.nodup_cons] at this; exact this.2⟩
        rw [numT, List.map_cons, List.nodup_cons]
        refine ⟨fun hm => ?_, ih hT⟩
        have h2 := h.2
        rw [List.map_cons, List.nodup_cons] at h2
        exact h2.1 ((numT_mem hT (h.1 t (List.mem_cons_self ..)).1).1 hm)
    exact this S h
/-- the numbers with p halves of shard s behind -/
def bothN (L : List Nat) (s p : Nat) : List Nat := bothH L ++ (List.range p).map fun q => 2 * s + q
theorem bothN_zero (L : List Nat) (s : Nat) : bothN L s 0 = bothH L := by simp [bothN]
theorem bothN_two (L : List Nat) (s : Nat) : bothN L s 2 = bothH (L ++ [s]) := by simp [bothN, bothH, List.range_succ]
theorem bothN_snoc (L : List Nat) (s p : Nat) : bothN L s p ++ [2 * s + p] = bothN L s (p + 1) := by simp [bothN, List.range_succ]
theorem bothN_len (L : List Nat) (s p : Nat) : (bothN L s p).length = 2 * L.length + p := by simp [bothN, bothH_len]
theorem bothN_mem {L : List Nat} {s p : Nat} (hp : p < 2) : 2 * s + p ∈ bothN L s p ↔ s ∈ L := by
  simp only [bothN, bothH, List.mem_append, List.mem_flatMap, List.mem_map, List.mem_range, List.mem_cons, List.not_mem_nil, or_false]
  constructor
  · rintro (⟨x, hx, h | h⟩ | ⟨q, hq, h⟩)
    · obtain rfl : x = s := by omega
      exact hx
    · obtain rfl : x = s := by omega
      exact hx
    · omega
  · exact fun h => .inl ⟨s, h, by omega⟩
theorem castL_mem {L : List Nat} {x : Nat} : ((x : Nat) : Int) ∈ castL L ↔ x ∈ L := by
  simp only [castL, List.mem_map]
  exact ⟨fun ⟨y, hy, e⟩ => by obtain rfl : y = x := by omega
                              exact hy, fun h => ⟨x, h, rfl⟩⟩
set_option maxHeartbeats 4000000 in
theorem numbersOf_F (k r l cap : Nat) (a : Option Addr) (S : List (Int × List F × List F)) (w : World) (s0 : Addr) (hs0 : w.cell? ⟨4, 0, none⟩ = some (errAt s0)) (h1 : 1 ≤ k) (h2 : 2 ≤ r) (h3 : k + r ≤ 16) (hl : l = S.length) (hl9 : l ≤ 140737488355328) (hS : Sh8 w a S) :
    Calls Tryd.prog 33 #[.int .i64 k, .int .i64 r, .slice a l cap] w fun e w' =>
      (l = k ∧ GoodT k r S ∧ (∃ a8 c8, e = .returned (.tuple #[.slice a8 (2 * k) c8, .nilIface]) ∧ RowI w' a8 (castL (bothH (numT S))) ∧ Below w.heap.size w w')) ∨
      (¬ (l = k ∧ GoodT k r S) ∧ e = .returned (.tuple #[.slice none 0 0, errAt s0]) ∧ Below w.heap.size w w') := by
  have hlt0 := World.block_lt_of_cell? w _ hs0
  simp at hlt0
  have HS0 : Hid _ := hs0
  have HL : Hid (l = S.length) := hl
  have HS : Hid (Sh8 w a S) := hS
  clear hl hS hs0
  unfold errAt at *
  by_cases hlk : l = k
  · have hlk' : ((l : Int) != (k : Int)) = false := by simp [hlk]
    have HLK : Hid (l = k) := hlk
    have hl16 : l ≤ 14 := by omega
    clear hlk hl9
    go_enter Tryd.func33, Tryd.ntmps33
    go_wp2
    go_loopw [8, 21] (fun p i wr => ∃ j : Nat, j ≤ l ∧ i = .int .i64 j ∧ Below w.heap.size w wr ∧ GoodT k r (S.take j) ∧ wr.ownsRow w.heap.size 3 1 p (2 * j) (nvs (bothH (numT (S.take j))))) (fun _ i _ => l - (intOf i).toNat)
    case atStart => exact ⟨0, by omega, rfl, Below.refl _ _, by simpa using good_nil k r, ⟨rfl, .inl ⟨rfl, rfl⟩⟩⟩
    case round =>
      obtain ⟨j, hj, rfl, hbw, hgd, hp⟩ := hrel
      have HBW : Hid (Below w.heap.size w wr) := hbw
      have HGD : Hid (GoodT k r (S.take j)) := hgd
      have HP : Hid (wr.ownsRow w.heap.size 3 1 u8 (2 * j) (nvs (bothH (numT (S.take j))))) := hp
      clear hbw hgd hp
      by_cases hlt : j < l
      · have hjS : j < S.length := by rw [← HL.out]; exact hlt
        obtain ⟨⟨m, xs, ys⟩, hs⟩ : ∃ s, S[j]? = some s := ⟨_, List.getElem?_eq_getElem hjS⟩
        rcases HS.out with e0 | ⟨bS, oS, eS, hcS⟩
        · rw [e0] at hjS; simp at hjS
        subst eS
        obtain ⟨a1, l1, a2, l2, e1, e2, e3, r1, r2⟩ := hcS j m xs ys hs
        have c1 := cell_later HBW.out e1
        have c2 := cell_later HBW.out e2
        have c3 := cell_later HBW.out e3
        have HSJ : Hid (S[j]? = some (m, xs, ys)) := hs
        clear hs hcS e1 e2 e3 r1 r2
        have c4 : Hid ((wr.alloc (.cells #[.int .i64 m, .slice a1 xs.length l1, .slice a2 ys.length l2] 38)).heap[wr.heap.size]? = some (.cells #[.int .i64 m, .slice a1 xs.length l1, .slice a2 ys.length l2] 38 (0, 0))) := heap_alloc_last _ _
        have B7 : Hid (Below w.heap.size w (wr.alloc (.cells #[.int .i64 m, .slice a1 xs.length l1, .slice a2 ys.length l2] 38))) := HBW.out.alloc HBW.out.size _
        have P7 : Hid ((wr.alloc (.cells #[.int .i64 m, .slice a1 xs.length l1, .slice a2 ys.length l2] 38)).ownsRow w.heap.size 3 1 u8 (2 * j) (nvs (bothH (numT (S.take j))))) := World.ownsRow.alloc HP.out _
        have hN0 : w.heap.size ≤ wr.heap.size := HBW.out.size
        go_wp2
        clear c1 c2 c3 HP HBW
        generalize (wr.alloc (.cells #[.int .i64 m, .slice a1 xs.length l1, .slice a2 ys.length l2] 38)) = W7 at *
        generalize wr.heap.size = N at *
        generalize hwo : wr = wo at *
        clear hwo
        go_loopw [8, 25] (fun q i wq => ∃ p : Nat, p ≤ 2 ∧ i = .int .i64 p ∧ Below w.heap.size w wq ∧ wq.ownsRow w.heap.size 3 1 q (2 * j + p) (nvs (bothN (numT (S.take j)) m.toNat p)) ∧ wq.heap[N]? = some (.cells #[.int .i64 m, .slice a1 xs.length l1, .slice a2 ys.length l2] 38 (0, 0)) ∧
          (p = 0 ∨ (0 ≤ m ∧ m < k + r) ∧ m.toNat ∉ numT (S.take j))) (fun _ i _ => 2 - (intOf i).toNat)
        case atStart => exact ⟨0, by omega, rfl, B7.out, by rw [bothN_zero]; exact P7.out, c4.out, .inl rfl⟩
        case round =>
          obtain ⟨p, hp2, rfl, hbw, hq, hN, hok⟩ := hrel
          have HBW : Hid (Below w.heap.size w wr) := hbw
          have HQ : Hid (wr.ownsRow w.heap.size 3 1 u8 (2 * j + p) (nvs (bothN (numT (S.take j)) m.toNat p))) := hq
          have HN : Hid (wr.heap[N]? = some (.cells #[.int .i64 m, .slice a1 xs.length l1, .slice a2 ys.length l2] 38 (0, 0))) := hN
          have HOK : Hid (p = 0 ∨ (0 ≤ m ∧ m < k + r) ∧ m.toNat ∉ numT (S.take j)) := hok
          have d0 := cellAt hN 0 _ rfl
          clear hbw hN hok
          by_cases hpl : p < 2
          · have hpi : (p : Int) < 2 := by omega
            obtain ⟨a5, c5, e5, hr5, hl5, _⟩ := ownI_slice hq
            clear hq
            subst e5
            have HR5 : Hid (RowI wr a5 (castL (bothN (numT (S.take j)) m.toNat p))) := hr5
            have hl5' : 2 * j + p = (bothN (numT (S.take j)) m.toNat p).length := hl5
            have HL5 : Hid (2 * j + p = (bothN (numT (S.take j)) m.toNat p).length) := hl5'
            clear hl5 hl5' hr5
            by_cases hin : 0 ≤ m ∧ m < k + r
            · obtain ⟨x, rfl⟩ := Int.eq_ofNat_of_zero_le hin.1
              have hx : x < k + r := by omega
              clear hin
              rw [Int.toNat_natCast] at HQ HR5 HL5 HOK
              obtain ⟨y, hy⟩ : ∃ y, y = 2 * x + p := ⟨_, rfl⟩
              have HOF : Hid _ := fun u => hof_ok k r x p u h1 h2 h3 hx hpl
              rw [← hy] at HOF
              have HY : Hid (y = 2 * x + p) := hy
              have hy9 : y ≤ 100 := by omega
              clear hy
              go_wp2_with fail
              refine Calls.mono (HOF.out _) ?_
              rintro e w4 ⟨rfl, hb4⟩
              have HB4 : Hid (Below w.heap.size w w4) := HBW.out.trans (hb4.mono HBW.out.size)
              have HQ4 : Hid (w4.ownsRow w.heap.size 3 1 (.slice a5 (2 * j + p) c5) (2 * j + p) (nvs (bothN (numT (S.take j)) x p))) := own_below HQ.out hb4
              have HN4 : Hid (w4.heap[N]? = some (.cells #[.int .i64 x, .slice a1 xs.length l1, .slice a2 ys.length l2] 38 (0, 0))) := heap_later HN.out hb4
              have HR4 : Hid (RowI w4 a5 (castL (bothN (numT (S.take j)) x p))) := rowI_below HR5.out hb4
              clear hb4 d0 HQ HN HR5 HBW
              go_wp2_with fail
              refine Calls.mono (contains_F (2 * j + p) c5 a5 (castL (bothN (numT (S.take j)) x p)) y _ (by rw [castL_len]; exact HL5.out) (by omega) HR4.out) ?_
              rintro e w5 ⟨rfl, rfl⟩
              by_cases hd : x ∈ numT (S.take j)
              · have e9 : decide ((y : Int) ∈ castL (bothN (numT (S.take j)) x p)) = true := decide_eq_true (castL_mem.2 (by rw [HY.out]; exact (bothN_mem hpl).2 hd))
                rw [e9]
                have HD : Hid (x ∈ numT (S.take j)) := hd
                clear hd e9
                have c9 := (HB4.out.cell (p := ⟨4, 0, none⟩) hlt0).trans HS0.out
                go_wp2_with fail
                go_region
                go_wp2
                go_ret2
                exact .inr ⟨fun h => good_dup HSJ.out (by show (0 : Int) ≤ (x : Int); omega) HGD.out (by show (x : Int).toNat ∈ _; rw [Int.toNat_natCast]; exact HD.out) h.2, rfl, HB4.out.drew⟩
              · have e9 : decide ((y : Int) ∈ castL (bothN (numT (S.take j)) x p)) = false := decide_eq_false fun h => hd (by rw [HY.out] at h; exact (bothN_mem hpl).1 (castL_mem.1 h))
                rw [e9]
                have HD : Hid (x ∉ numT (S.take j)) := hd
                clear hd e9
                have ho4 := World.ownsRow.alloc HQ4.out (.cells #[.int .i64 y] 3)
                have zz := HB4.out.size
                obtain ⟨gQ, capQ, wQ, hrunQ, hqQ, hgrQ, horQ, hltQ⟩ := appendI (b := w4.heap.size) (c := 1) (x := (y : Int)) 54 ho4 (cellAt (heap_alloc_last w4 _) 0 _ rfl) (by omega) (by simp; omega)
                rw [nvs_snoc] at hqQ
                have hbQ := below_own (B := w.heap.size) (HB4.out.alloc HB4.out.size (.cells #[.int .i64 y] 3)) ho4 hgrQ (by simp; omega)
                have HRQ : Hid _ := hrunQ
                have HBQ : Hid (Below w.heap.size w wQ) := hbQ
                have HQQ : Hid (wQ.ownsRow w.heap.size 3 1 (.slice (some ⟨gQ, 0, none⟩) (2 * j + p + 1) capQ) (2 * j + p + 1) (nvs (bothN (numT (S.take j)) x (p + 1)))) := by
                  rw [HY.out, bothN_snoc] at hqQ; exact hqQ
                have HNQ : Hid (wQ.heap[N]? = some (.cells #[.int .i64 x, .slice a1 xs.length l1, .slice a2 ys.length l2] 38 (0, 0))) := own_other ho4 hgrQ ((Below.heap_alloc _ _ _ (ltHeap HN4.out)).trans HN4.out) (by decide)
                clear ho4 zz hrunQ hqQ hgrQ horQ hltQ hbQ
                go_wp2_with (at_builtin; refine wpList_append_run rfl _ _ 54 rfl _ _ _ _ rfl rfl HRQ.out ?_)
                exact ⟨⟨p + 1, by omega, by go_num, HBQ.out, by rw [Int.toNat_natCast]; exact HQQ.out, HNQ.out, .inr ⟨⟨by omega, by omega⟩, by rw [Int.toNat_natCast]; exact HD.out⟩⟩, by simp [intOf]; omega⟩
            · have HIN : Hid (¬ (0 ≤ m ∧ m < k + r)) := hin
              have c9 := (HBW.out.cell (p := ⟨4, 0, none⟩) hlt0).trans HS0.out
              have HOF : Hid _ := hof_no k r m p wr s0 c9 h1 h2 h3 (fun h => HIN.out h.1)
              unfold errAt at HOF
              clear hin c9
              go_wp2_with fail
              refine Calls.mono HOF.out ?_
              rintro e w4 ⟨rfl, hb4⟩
              have HB4 : Hid (Below w.heap.size w w4) := HBW.out.trans (hb4.mono HBW.out.size)
              clear hb4 d0
              go_wp2_with fail
              go_ret2
              exact .inr ⟨fun h => good_range HSJ.out HIN.out h.2, rfl, HB4.out⟩
          · obtain rfl : p = 2 := by omega
            have hok := HOK.out
            rcases hok with hok | ⟨hin, hnd⟩
            · omega
            have HT : Hid (S.take (j + 1) = S.take j ++ [(m, xs, ys)]) := by
              show _ = _
              rw [List.take_add_one, HSJ.out]; rfl
            have HG2 : Hid (GoodT k r (S.take (j + 1))) := by
              show GoodT k r _
              rw [HT.out]; exact good_snoc HGD.out hin.1 hin.2 hnd
            have HP2 : Hid (wr.ownsRow w.heap.size 3 1 u8 (2 * j + 2) (nvs (bothH (numT (S.take (j + 1)))))) := by
              show World.ownsRow ..
              have e9 : numT (S.take (j + 1)) = numT (S.take j) ++ [m.toNat] := by rw [HT.out]; simp [numT]
              rw [e9, ← bothN_two]; exact HQ.out
            clear hq hin hnd d0
            go_wp2
            exact ⟨⟨j + 1, by omega, by go_num, HBW.out, HG2.out, HP2.out⟩, by simp [intOf]; omega⟩
      · obtain rfl : j = l := by omega
        have hp := HP.out
        have hgd := HGD.out
        rw [List.take_of_length_le (by rw [← HL.out]; exact Nat.le_refl _)] at hp hgd
        obtain ⟨a5, c5, e5, hr5, hl5, _⟩ := ownI_slice hp
        subst e5
        have HR5 : Hid _ := hr5
        have HG5 : Hid _ := hgd
        clear hp hgd hr5 hl5 HP
        go_wp2
        go_ret2
        exact .inl ⟨HLK.out, HG5.out, a5, c5, by rw [HLK.out]; rfl, HR5.out, HBW.out⟩
  · have hlk' : ((l : Int) != (k : Int)) = true := by simp only [bne_iff_ne, ne_eq]; omega
    have HLK : Hid (¬ l = k) := hlk
    have c9 := HS0.out
    clear hlk
    go_enter Tryd.func33, Tryd.ntmps33
    go_wp2
    go_region
    go_wp2
    go_ret2
    exact .inr ⟨fun h => HLK.out h.1, rfl, (Below.refl _ _).drew⟩
end Go.Proofs.YtmlpijlcpeoeaaaDoor

/- The rows of the halves of any k shards, taken out of all rows: their rank. -/
namespace Go.Proofs.YtmlpijlcpeoeaaaDoor
open Go.RowKit Gf
set_option linter.unusedVariables false
set_option maxRecDepth 20000
theorem bothH_snoc (L : List Nat) (s : Nat) : bothH (L ++ [s]) = bothH L ++ [2 * s, 2 * s + 1] := by simp [bothH]
theorem bothH_lt {L : List Nat} {n : Nat} (h : ∀ x ∈ L, x < n) : ∀ x ∈ bothH L, x < 2 * n := fun x hx => by
  simp only [bothH, List.mem_flatMap, List.mem_cons, List.not_mem_nil, or_false] at hx
  obtain ⟨s, hs, rfl | rfl⟩ := hx
  · have := h s hs; omega
  · have := h s hs; omega
theorem htakeM_grid {k n : Nat} {xs : List F} {A : Nat → Nat → F} {L : List Nat} (hn : ∀ x ∈ L, x < n) (hx : xs = grid k A n) : (takeM k xs (castL L)).flatten = grid k (fun i j => A (L.getD i 0) j) L.length := by
  subst hx
  rw [grid_flat k (fun i j => A (L.getD i 0) j)]
  congr 1
  apply List.ext_getElem
  · simp [takeM, castL]
  · intro i h1 h2
    have hi : i < L.length := by simpa [takeM, castL] using h1
    have e : L.getD i 0 = L[i] := by simp [List.getD, hi]
    simp only [takeM, castL, List.getElem_map, List.getElem_range, Int.toNat_natCast]
    rw [rowAt_grid (hn _ (List.getElem_mem hi)), e]
theorem half_take {k r : Nat} {L : List Nat} (hd : L.Nodup) (hl : L.length = k) (hn : ∀ x ∈ L, x < k + r) (h3 : k + r ≤ 16) :
    (pivL (cellF (2 * k) (takeM (2 * k) (halfM k r) (castL (bothH L))).flatten) (2 * k) (2 * k)).length = 2 * k := by
  rw [htakeM_grid (xs := halfM k r) (A := halfF k (carN (groupN k r))) (bothH_lt hn) rfl, pivL_congr (B := fun i j => halfF k (carN (groupN k r)) ((bothH L).getD i 0) j) (fun i hi j hj => by
    rw [bothH_len, hl]; exact at8_grid hi hj)]
  exact half_rank hd hl hn (by omega)
theorem htake_yes (r c l cap ln cn : Nat) (a an : Option Addr) (xs : List F) (ns : List Int) (w : World) (hr : r ≤ 64) (hc : c ≤ 64) (hl : l = r * c) (hx : xs.length = r * c) (hcap : l ≤ cap) (hX : Row8 w a xs) (hnil : a = none → cap = 0)
    (hln : ln = ns.length) (hn : ln ≤ 64) (hN : RowI w an ns) (s : Addr) (hs : w.cell? ⟨11, 0, none⟩ = some (errAt s)) (hall : ∀ n ∈ ns, 0 ≤ n ∧ n < r) :
    Calls Tryd.prog 59 #[.agg #[.int .i64 r, .int .i64 c, .slice a l cap], .slice an ln cn] w fun e w' =>
      ∃ g m, e = .returned (.tuple #[.agg #[.int .i64 ln, .int .i64 c, .slice (some ⟨g, 0, none⟩) m m], .nilIface]) ∧ m = ln * c ∧ w.heap.size ≤ g ∧
        w'.heap[g]? = some (.cells (vfs (takeM c xs ns).flatten) 5 (0, 0)) ∧ Below w.heap.size w w' :=
  (take_F r c l cap ln cn a an xs ns w hr hc hl hx hcap hX hnil hln hn hN s hs).mono fun e w' h => h.elim (fun h => h.2) (fun h => absurd hall h.1)
end Go.Proofs.YtmlpijlcpeoeaaaDoor

/- What Decode of package code answers, of all numbers and shards where k, r and the size are legal; the refusals. -/
namespace Go.Proofs.YtmlpijlcpeoeaaaDoor
open Go.RowKit Gf
set_option linter.unusedVariables false
set_option maxRecDepth 20000
theorem comb_inv {c H i : Nat} {Y A : Mt} {L : List (List F)} {D : Nat → Nat → F} (hI : InvOf c A Y) (hD : ∀ i, i < c → ∀ b, b < H → bytesD L i b = sumF (fun u => gm (A i u) (D u b)) c) (hi : i < c) : combL c H (grid c Y c) L i = rowF H (D i) :=
  rowF_congr fun b hb => by
    rw [sumF_congr (g := fun v => sumF (fun u => gm (gm (Y i v) (A v u)) (D u b)) c) (fun v hv => by
      rw [at8_grid hi hv, hD v hv b hb, sumF_mul_left]
      exact sumF_congr fun u _ => (F.mul_assoc _ _ _).symm), sumF_swap (fun v u => gm (gm (Y i v) (A v u)) (D u b)) c c]
    rw [sumF_congr (g := fun u => gm (if i = u then 1 else 0) (D u b)) (fun u hu => by
      rw [← hI.left i hi u hu, mulF, sumF_mul_right])]
    rw [sumF_pick _ i c hi fun u _ hne => by rw [if_neg (fun e => hne e.symm), F.zero_mul]]
    rw [if_pos rfl, F.one_mul]
set_option maxHeartbeats 4000000 in
theorem undo_F (k r H c m l1 l2 c1 c2 : Nat) (a1 g : Nat) (an ah : Option Addr) (nums : List Nat) (L : List (List F)) (D : Nat → Nat → F) (w : World) (s2 s11 : Addr) (hs2 : w.cell? ⟨3, 0, none⟩ = some (errAt s2)) (hs11 : w.cell? ⟨11, 0, none⟩ = some (errAt s11))
    (h1 : 1 ≤ k) (h2 : 2 ≤ r) (h3 : k + r ≤ 16) (hH : H ≤ 64) (hc : c = 2 * k) (ha1 : a1 = 2 * (k + r)) (hm : m = a1 * c) (hG : w.heap[g]? = some (.cells (vfs (halfM k r)) 5 (0, 0)))
    (hl1 : l1 = c) (hN : RowI w an (castL (bothH nums))) (hnl : nums.length = k) (hin : ∀ x ∈ nums, x < k + r) (hnd : nums.Nodup) (hl2 : l2 = c) (hL : L.length = c) (hLH : ∀ ys ∈ L, ys.length = H) (hLX : Rows8 w ah L)
    (hD : ∀ i, i < 2 * k → ∀ b, b < H → bytesD L i b = sumF (fun u => gm (numM k (carN (groupN k r)) (bothH nums) i u) (D u b)) (2 * k)) :
    Calls Tryd.prog 36 #[.agg #[.int .i64 a1, .int .i64 c, .slice (some ⟨g, 0, none⟩) m m], .slice an l1 c1, .slice ah l2 c2] w fun e w' => ∃ M, e = .returned (.tuple #[.slice (some ⟨M, 0, none⟩) c c, .nilIface]) ∧
      Rows8 w' (some ⟨M, 0, none⟩) ((List.range c).map fun v => rowF H (D v)) ∧ Below w.heap.size w w' := by
  have hrk := half_take hnd hnl hin h3
  have hgr := htakeM_grid (xs := halfM k r) (A := halfF k (carN (groupN k r))) (bothH_lt hin) rfl
  have hlb : (bothH nums).length = c := by rw [bothH_len, hnl, hc]
  rw [hlb] at hgr
  obtain ⟨X, hX⟩ : ∃ X, X = (takeM (2 * k) (halfM k r) (castL (bothH nums))).flatten := ⟨_, rfl⟩
  rw [← hX] at hrk hgr
  have hXl : X.length = c * c := by rw [hgr, grid_len, hc]
  have hXc : ∀ i, i < c → ∀ j, j < c → cellF c X i j = numM k (carN (groupN k r)) (bothH nums) i j := fun i hi j hj => by
    rw [cellF, hgr, hc, at8_grid (by omega) (by omega)]; rfl
  have hall : ∀ x ∈ castL (bothH nums), 0 ≤ x ∧ x < (a1 : Int) := fun x hx => by
    simp only [castL, List.mem_map] at hx
    obtain ⟨y, hy, rfl⟩ := hx
    have := bothH_lt hin y hy
    omega
  rw [← hc] at hrk hX hD
  have hD2 : ∀ i, i < c → ∀ b, b < H → bytesD L i b = sumF (fun u => gm (cellF c X i u) (D u b)) c := fun i hi b hb => by
    rw [hD i hi b hb]
    exact sumF_congr fun u hu => by rw [hXc i hi u hu]
  have HD : Hid (∀ i, i < c → ∀ b, b < H → bytesD L i b = sumF (fun u => gm (cellF c X i u) (D u b)) c) := hD2
  have HRK : Hid ((pivL (cellF c X) c c).length = c) := hrk
  have HX : Hid (X = (takeM c (halfM k r) (castL (bothH nums))).flatten) := hX
  have HXL : Hid (X.length = c * c) := hXl
  have HALL : Hid (∀ x ∈ castL (bothH nums), 0 ≤ x ∧ x < (a1 : Int)) := hall
  have HN : Hid (RowI w an (castL (bothH nums))) := hN
  have HLL : Hid (L.length = c) := hL
  have HLH : Hid (∀ ys ∈ L, ys.length = H) := hLH
  have HLX : Hid (Rows8 w ah L) := hLX
  have HL1 : Hid (l1 = c) := hl1
  have HL2 : Hid (l2 = c) := hl2
  have HM : Hid (m = a1 * c) := hm
  have HG : Hid (w.heap[g]? = some (.cells (vfs (halfM k r)) 5 (0, 0))) := hG
  have HML : Hid ((halfM k r).length = a1 * c) := by show _ = _; rw [halfM_len, ha1, hc]
  have HS2 : Hid _ := hs2
  have HS11 : Hid _ := hs11
  have HLB : Hid ((bothH nums).length = c) := hlb
  have hc32 : c ≤ 32 := by omega
  have hc1 : 1 ≤ c := by omega
  have ha32 : a1 ≤ 32 := by omega
  clear hrk hgr hlb hX hXl hXc hall hD hD2 hN hL hLH hLX hl1 hl2 hm hG hs2 hs11 ha1 hnl hin hnd hc
  have HB1 : Hid (Below w.heap.size w (w.alloc (.cells #[.int .i64 a1, .int .i64 c, .slice (some ⟨g, 0, none⟩) m m] 65))) := (Below.refl _ _).alloc (Nat.le_refl _) _
  go_enter Tryd.func36, Tryd.ntmps36
  go_wp2_with fail
  refine Calls.mono (htake_yes a1 c m m l1 c1 (some ⟨g, 0, none⟩) an (halfM k r) (castL (bothH nums)) _ (by omega) (by omega) HM.out HML.out (Nat.le_refl _) (row8_own (heap_later HG.out HB1.out)) (fun h => by cases h) (by rw [castL_len, HLB.out]; exact HL1.out) (by have := HL1.out; omega) (rowI_below HN.out HB1.out) s11 (cell_later HB1.out HS11.out) HALL.out) ?_
  rintro e w2 ⟨g2, m2, rfl, hm2, hg2, hh2, hb2⟩
  have e1 := HL1.out
  subst e1
  rw [← HX.out] at hh2
  have HM2 : Hid (m2 = l1 * l1) := hm2
  have HA2 : Hid _ := holds_new (holds_cons (holds_nil w2) hh2) #[.int .i64 l1, .int .i64 l1, .slice (some ⟨g2, 0, none⟩) m2 m2] 65
  have hB2 := HB1.out.trans (hb2.mono HB1.out.size)
  have HB2 : Hid (Below w.heap.size w (w2.alloc (.cells #[.int .i64 l1, .int .i64 l1, .slice (some ⟨g2, 0, none⟩) m2 m2] 65))) := hB2.alloc hB2.size _
  clear hm2 hg2 hh2 hb2 hB2
  go_wp2_with fail
  refine Calls.mono (inverse_F l1 m2 m2 (some ⟨g2, 0, none⟩) X _ (by omega) HM2.out HXL.out (Nat.le_refl _) (holds_row HA2.out 1 rfl) (fun h => by cases h) s2 (cell_later HB2.out HS2.out)) ?_
  rintro e w3 (⟨_, g3, m3, Y, rfl, hm3, hg3, hh3, hY, hb3⟩ | ⟨hno, _⟩)
  · have HM3 : Hid (m3 = l1 * l1) := hm3
    have HY : Hid (InvOf l1 (cellF l1 X) Y) := hY
    have HA3 : Hid _ := holds_new (holds_cons (holds_nil w3) hh3) #[.int .i64 l1, .int .i64 l1, .slice (some ⟨g3, 0, none⟩) m3 m3] 65
    have hB3 := HB2.out.trans (hb3.mono HB2.out.size)
    have HB3 : Hid (Below w.heap.size w (w3.alloc (.cells #[.int .i64 l1, .int .i64 l1, .slice (some ⟨g3, 0, none⟩) m3 m3] 65))) := hB3.alloc hB3.size _
    clear hm3 hg3 hh3 hb3 hY hB3
    go_wp2_with fail
    refine Calls.mono (ccomb_F l1 l1 H m3 m3 l2 c2 (some ⟨g3, 0, none⟩) ah (grid l1 Y l1) L _ (by omega) hc1 (by omega) hH HM3.out (grid_len _ _ _) (Nat.le_refl _) (holds_row HA3.out 1 rfl) HL2.out HLL.out HLH.out (rows8_below HLX.out HB3.out)) ?_
    rintro e w4 ⟨M, gs, rfl, hM, hgs, hT, hrs, hb4⟩
    have hr2 := rowsP_congr (g := fun v => rowF H (D v)) hrs fun i hi => comb_inv HY.out HD.out (by rw [← hgs]; exact hi)
    have HR4 : Hid (Rows8 w4 (some ⟨M, 0, none⟩) ((List.range l1).map fun v => rowF H (D v))) := rowsP_rows hr2 hgs (fun i => rowF_len _ _) hT
    have HB4 : Hid (Below w.heap.size w w4) := HB3.out.trans (hb4.mono HB3.out.size)
    clear hM hgs hT hrs hb4 hr2
    go_wp2
    go_ret2
    exact ⟨M, rfl, HR4.out, HB4.out⟩
  · exact absurd HRK.out hno
/-- the bytes of these data halves -/
def joinD (k H n : Nat) (D : Nat → Nat → F) : List F := (((List.range (2 * k)).map fun v => rowF H (D v)).flatten).take n
theorem flatD_len (k H : Nat) (D : Nat → Nat → F) : (((List.range (2 * k)).map fun v => rowF H (D v)).flatten).length = 2 * k * H := by
  rw [flat_len (c := H) (fun ys hy => by obtain ⟨v, _, rfl⟩ := List.mem_map.1 hy; exact rowF_len _ _)]; simp
theorem joinD_len {k H n : Nat} {D : Nat → Nat → F} (h : n ≤ 2 * k * H) : (joinD k H n D).length = n := by
  rw [joinD, List.length_take, flatD_len]; omega
theorem joinD_congr {k H n : Nat} {D E : Nat → Nat → F} (h : ∀ v, v < 2 * k → ∀ b, b < H → D v b = E v b) : joinD k H n D = joinD k H n E := by
  unfold joinD
  congr 2
  apply List.map_congr_left
  intro v hv
  exact rowF_congr fun b hb => h v (by simpa using hv) b hb
/-- the errors that Decode names -/
def ErrsC (w : World) (E : Nat → Addr) : Prop := ErrsF w E ∧ w.cell? ⟨3, 0, none⟩ = some (errAt (E 2)) ∧ w.cell? ⟨4, 0, none⟩ = some (errAt (E 3)) ∧ w.cell? ⟨1, 0, none⟩ = some (errAt (E 4))
theorem errsC_below {w w' : World} {E : Nat → Addr} (h : ErrsC w E) (hb : Below w.heap.size w w') : ErrsC w' E := ⟨errsF_below h.1 hb, cell_later hb h.2.1, cell_later hb h.2.2.1, cell_later hb h.2.2.2⟩
/-- of these data halves the halves of these shards are made -/
def MadeOf (k r H : Nat) (nums : List Nat) (L : List (List F)) (D : Nat → Nat → F) : Prop :=
  ∀ i, i < 2 * k → ∀ b, b < H → bytesD L i b = sumF (fun u => gm (numM k (carN (groupN k r)) (bothH nums) i u) (D u b)) (2 * k)
theorem made_ex {k r H : Nat} {S : List (Int × List F × List F)} (hg : GoodT k r S) (hl : S.length = k) (h3 : k + r ≤ 16) (L : List (List F)) : ∃ D, MadeOf k r H (numT S) L D := by
  obtain ⟨_, g2, g3⟩ := good_nums hg
  have hrk := num_rank (car := carN (groupN k r)) g3 (by rw [numT_len, hl]) g2 (show k + r ≤ 256 by omega)
  obtain ⟨D, hD⟩ := full_table hrk (bytesD L)
  exact ⟨D, fun i hi b _ => hD i hi b⟩
theorem made_one {k r H : Nat} {S : List (Int × List F × List F)} (hg : GoodT k r S) (hl : S.length = k) (h3 : k + r ≤ 16) {L : List (List F)} {D E : Nat → Nat → F} (hD : MadeOf k r H (numT S) L D) (hE : MadeOf k r H (numT S) L E) : ∀ v, v < 2 * k → ∀ b, b < H → D v b = E v b := fun v hv b hb => by
  obtain ⟨_, g2, g3⟩ := good_nums hg
  have hrk := num_rank (car := carN (groupN k r)) g3 (by rw [numT_len, hl]) g2 (show k + r ≤ 256 by omega)
  exact full_one (R := fun i => bytesD L i b) (D := fun u => D u b) (E := fun u => E u b) hrk (fun i hi => hD i hi b hb) (fun i hi => hE i hi b hb) v hv
set_option maxHeartbeats 8000000 in
theorem decode_G (k r n ln cn : Nat) (a : Option Addr) (S : List (Int × List F × List F)) (w : World) (E : Nat → Addr) (hE : ErrsC w E) (h1 : 1 ≤ k) (h2 : 2 ≤ r) (h3 : k + r ≤ 16) (h4 : 1 ≤ n) (h5 : n ≤ 128 * k) (hln : ln = S.length) (hl9 : ln ≤ 140737488355328) (hS : Sh8 w a S) :
    Calls Tryd.prog 19 #[.int .i64 k, .int .i64 r, .int .i64 n, .slice a ln cn] w fun e w' =>
      (¬ (ln = k ∧ GoodT k r S) ∧ e = .returned (.tuple #[.slice none 0 0, errAt (E 3)]) ∧ Below w.heap.size w w') ∨
      ((ln = k ∧ GoodT k r S) ∧ ¬ (∀ xs ∈ rowsS S, xs.length = cntN (2 * k) n) ∧ e = .returned (.tuple #[.slice none 0 0, errAt (E 4)]) ∧ Below w.heap.size w w') ∨
      ((ln = k ∧ GoodT k r S) ∧ (∀ xs ∈ rowsS S, xs.length = cntN (2 * k) n) ∧ ∃ D, MadeOf k r (cntN (2 * k) n) (numT S) (rowsS S) D ∧ ∃ g ys, e = .returned (.tuple #[.slice (some ⟨g, 0, none⟩) n n, .nilIface]) ∧ w.heap.size ≤ g ∧
        w'.heap[g]? = some (.cells (vfs (joinD k (cntN (2 * k) n) n D ++ ys)) 5 (0, 0)) ∧ Below w.heap.size w w') := by
  obtain ⟨k1, k2, k3, _⟩ := cnt_half h1 (show k ≤ 14 by omega) h4 h5
  have HF : Hid _ := fun w E h => half_F k n w E h (by omega) (by omega)
  rw [halfV_ok h1 (by omega) h4 h5, halfE_ok h1 (by omega) h4 h5] at HF
  simp only [evV_zero] at HF
  obtain ⟨H, hH⟩ : ∃ H, H = cntN (2 * k) n := ⟨_, rfl⟩
  rw [← hH] at HF k1 k2 k3 ⊢
  have HH : Hid (H = cntN (2 * k) n) := hH
  have HE : Hid (ErrsC w E) := hE
  have hlt4 := World.block_lt_of_cell? w _ hE.2.2.2
  simp at hlt4
  have HS : Hid (Sh8 w a S) := hS
  have HL : Hid (ln = S.length) := hln
  obtain ⟨c2, hc2⟩ : ∃ c2, c2 = 2 * k := ⟨_, rfl⟩
  obtain ⟨cR, hcR⟩ : ∃ cR, cR = 2 * (k + r) := ⟨_, rfl⟩
  have HC2 : Hid (c2 = 2 * k) := hc2
  have HCR : Hid (cR = 2 * (k + r)) := hcR
  have HR : Hid _ := fun w s h => hrows_F k r w s h h1 h2 h3
  rw [← hc2, ← hcR] at HR
  have HNU : Hid _ := fun u s h q => numbersOf_F k r ln cn a S u s h h1 h2 h3 hln hl9 q
  have HK3 : Hid (n ≤ 2 * k * H) := k3
  clear hE hS hln hH hc2 hcR k3
  unfold errAt at HNU ⊢
  go_enter Tryd.func19, Tryd.ntmps19
  go_wp2_with fail
  refine Calls.mono (HR.out _ (E 1) HE.out.1.2) ?_
  rintro e w1 ⟨g1, m1, rfl, hm1, hg1, hh1, hb1⟩
  have HA1 : Hid _ := holds_new (holds_cons (holds_nil w1) hh1) #[.int .i64 cR, .int .i64 c2, .slice (some ⟨g1, 0, none⟩) m1 m1] 65
  have HB1 : Hid (Below w.heap.size w (w1.alloc (.cells #[.int .i64 cR, .int .i64 c2, .slice (some ⟨g1, 0, none⟩) m1 m1] 65))) := hb1.alloc hb1.size _
  have HM1 : Hid (m1 = cR * c2) := hm1
  clear hm1 hg1 hh1 hb1
  go_wp2_with fail
  refine Calls.mono (HF.out _ E (errsE_below HE.out.1.1 HB1.out)) ?_
  rintro e w2 ⟨rfl, hb2⟩
  have HA2 : Hid _ := holds_later HA1.out hb2
  have HB2 : Hid (Below w.heap.size w w2) := HB1.out.trans (hb2.mono HB1.out.size)
  clear hb2 HA1 HB1
  go_wp2_with fail
  refine Calls.mono (HNU.out _ (E 3) (cell_later HB2.out HE.out.2.2.1) (sh8_below HS.out HB2.out)) ?_
  rintro e w3 (⟨hlk, hgd, a8, c8, rfl, hi8, hb3⟩ | ⟨hno, rfl, hb3⟩)
  · have HLK : Hid (ln = k) := hlk
    have HGD : Hid (GoodT k r S) := hgd
    have HI8 : Hid (RowI w3 a8 (castL (bothH (numT S)))) := hi8
    have HA3 : Hid _ := holds_later HA2.out hb3
    have HB3 : Hid (Below w.heap.size w w3) := HB2.out.trans (hb3.mono HB2.out.size)
    have hln1 : 1 ≤ ln := by omega
    have hln16 : ln ≤ 16 := by omega
    have HNU' := HNU
    clear hlk hgd hi8 hb3 HA2 HB2 HNU HNU'
    go_wp2_with fail
    refine Calls.mono (halvesOf_F ln cn a S _ HL.out hln16 hln1 (sh8_below HS.out HB3.out)) ?_
    rintro e w4 ⟨a9, c9, l9, rfl, hl9', hr9, hb4⟩
    have HL9 : Hid (l9 = 2 * ln) := hl9'
    have hl9b : l9 ≤ 32 := by omega
    have HR9 : Hid (Rows8 w4 a9 (rowsS S)) := hr9
    have HI9 : Hid (RowI w4 a8 (castL (bothH (numT S)))) := rowI_below HI8.out hb4
    have HA4 : Hid _ := holds_later HA3.out hb4
    have HB4 : Hid (Below w.heap.size w w4) := HB3.out.trans (hb4.mono HB3.out.size)
    clear hl9' hr9 hb4 HA3 HB3 HI8
    go_wp2_with fail
    refine Calls.mono (haveSize_F H l9 c9 a9 (rowsS S) _ (by rw [rowsS_len, ← HL.out]; exact HL9.out) (by omega) HR9.out) ?_
    rintro e w5 ⟨rfl, rfl⟩
    by_cases hsz : ∀ xs ∈ rowsS S, xs.length = H
    · rw [decide_eq_true hsz]
      have HSZ : Hid (∀ xs ∈ rowsS S, xs.length = H) := hsz
      obtain ⟨D, hD⟩ := made_ex (H := H) HGD.out (show S.length = k by rw [← HL.out]; exact HLK.out) h3 (rowsS S)
      have HD : Hid (MadeOf k r H (numT S) (rowsS S) D) := hD
      clear hsz hD
      have d0 := cellAt (holds_at HA4.out 0 rfl) 0 _ rfl
      have d1 := cellAt (holds_at HA4.out 0 rfl) 1 _ rfl
      have d2 := cellAt (holds_at HA4.out 0 rfl) 2 _ rfl
      obtain ⟨_, g2, g3⟩ := good_nums HGD.out
      have G2 : Hid (∀ x ∈ numT S, x < k + r) := g2
      have G3 : Hid (numT S).Nodup := g3
      clear g2 g3
      go_wp2_with fail
      refine Calls.mono (undo_F k r H c2 m1 (2 * k) l9 c8 c9 cR g1 a8 a9 (numT S) (rowsS S) D _ (E 2) (E 11) (cell_later HB4.out HE.out.2.1) (cell_later HB4.out HE.out.1.1.2.1) h1 h2 h3 k2 HC2.out HCR.out HM1.out (holds_at HA4.out 1 rfl)
        HC2.out.symm HI9.out (by rw [numT_len, ← HL.out]; exact HLK.out) G2.out G3.out (by have := HL9.out; have := HLK.out; have := HC2.out; omega) (by rw [rowsS_len, ← HL.out, HLK.out]; exact HC2.out.symm) HSZ.out HR9.out HD.out) ?_
      rintro e w6 ⟨M, rfl, hr6, hb6⟩
      have HR6 : Hid (Rows8 w6 (some ⟨M, 0, none⟩) ((List.range c2).map fun v => rowF H (D v))) := hr6
      have HB6 : Hid (Below w.heap.size w w6) := HB4.out.trans (hb6.mono HB4.out.size)
      clear hr6 hb6 d0 d1 d2
      go_wp2_with fail
      refine Calls.mono (join_ok k n c2 c2 (some ⟨M, 0, none⟩) ((List.range c2).map fun v => rowF H (D v)) _ E (errsE_below HE.out.1.1 HB6.out) h1 (by omega) h4 h5 (by simp) HR6.out ⟨by simp [HC2.out], fun ys hy => by obtain ⟨v, _, rfl⟩ := List.mem_map.1 hy; rw [rowF_len, HH.out]⟩) ?_
      rintro e w7 ⟨g7, ys7, rfl, hg7, hF7, hT7, hh7, hb7⟩
      have HB7 : Hid (Below w.heap.size w w7) := HB6.out.trans (hb7.mono HB6.out.size)
      have HJ : Hid (w7.heap[g7]? = some (.cells (vfs (joinD k H n D ++ ys7)) 5 (0, 0))) := by
        show _ = _
        unfold joinD
        rw [← HC2.out, hF7.out]; exact hh7
      have hg7' : w.heap.size ≤ g7 := Nat.le_trans HB6.out.size hg7
      clear hg7 hF7 hT7 hh7 hb7
      go_wp2
      go_ret2
      exact .inr (.inr ⟨⟨HLK.out, HGD.out⟩, HSZ.out, D, HD.out, g7, ys7, rfl, hg7', HJ.out, HB7.out⟩)
    · rw [decide_eq_false hsz]
      have HSZ : Hid (¬ ∀ xs ∈ rowsS S, xs.length = H) := hsz
      have hc9 : w4.cell? ⟨1, 0, none⟩ = some (errAt (E 4)) := (HB4.out.cell (p := ⟨1, 0, none⟩) hlt4).trans HE.out.2.2.2
      unfold errAt at hc9
      clear hsz
      go_wp2
      go_region
      go_wp2
      go_ret2
      exact .inr (.inl ⟨⟨HLK.out, HGD.out⟩, HSZ.out, rfl, HB4.out.drew⟩)
  · have HNO : Hid (¬ (ln = k ∧ GoodT k r S)) := hno
    have HB3 : Hid (Below w.heap.size w w3) := HB2.out.trans (hb3.mono HB2.out.size)
    clear hno hb3 HNU
    go_wp2_with fail
    go_ret2
    exact .inl ⟨HNO.out, rfl, HB3.out⟩
set_option maxHeartbeats 2000000 in
theorem decode_size (k r : Nat) (n : Int) (ln cn : Nat) (a : Option Addr) (w : World) (E : Nat → Addr) (hE : ErrsC w E) (h1 : 1 ≤ k) (h2 : 2 ≤ r) (h3 : k + r ≤ 16) (hn0 : -9223372036854775808 ≤ n) (hn1 : n ≤ 9223372036854775807) (h : halfE k n ≠ 0) :
    Calls Tryd.prog 19 #[.int .i64 k, .int .i64 r, .int .i64 n, .slice a ln cn] w fun e w' => e = .returned (.tuple #[.slice none 0 0, evV E (halfE k n)]) ∧ Below w.heap.size w w' := by
  have HF : Hid _ := fun w E h => half_F k n w E h hn0 hn1
  rw [halfV_no h] at HF
  have hs : evV E (halfE k n) = errAt (E (halfE k n - 1)) := by unfold evV; rw [if_neg h]
  have HF2 : Hid _ := fun w (q : ErrsE w E) => HF.out w E q
  rw [hs] at HF2 ⊢
  generalize E (halfE k n - 1) = s at *
  have HR : Hid _ := fun w s h => hrows_F k r w s h h1 h2 h3
  have HE : Hid (ErrsC w E) := hE
  clear hs h hE HF
  unfold errAt at HF2 ⊢
  go_enter Tryd.func19, Tryd.ntmps19
  go_wp2_with fail
  refine Calls.mono (HR.out _ (E 1) HE.out.1.2) ?_
  rintro e w1 ⟨g1, m1, rfl, hm1, hg1, hh1, hb1⟩
  have HB1 : Hid (Below w.heap.size w (w1.alloc (.cells #[.int .i64 (2 * (k + r) : Nat), .int .i64 (2 * k : Nat), .slice (some ⟨g1, 0, none⟩) m1 m1] 65))) := hb1.alloc hb1.size _
  clear hm1 hg1 hh1 hb1
  go_wp2_with fail
  refine Calls.mono (HF2.out _ (errsE_below HE.out.1.1 HB1.out)) ?_
  rintro e w2 ⟨rfl, hb2⟩
  have HB2 : Hid (Below w.heap.size w w2) := HB1.out.trans (hb2.mono HB1.out.size)
  clear hb2
  go_wp2_with fail
  go_ret2
  exact ⟨rfl, HB2.out⟩
set_option maxHeartbeats 2000000 in
theorem decode_illegal (k r n : Int) (ln cn : Nat) (a : Option Addr) (w : World) (E : Nat → Addr) (hE : ErrsC w E) (hk0 : -9223372036854775808 ≤ k) (hk1 : k ≤ 9223372036854775807) (hr0 : -9223372036854775808 ≤ r) (hr1 : r ≤ 9223372036854775807) (hL : ¬ LegalP k r) :
    Calls Tryd.prog 19 #[.int .i64 k, .int .i64 r, .int .i64 n, .slice a ln cn] w fun e w' => e = .returned (.tuple #[.slice none 0 0, errAt (E 0)]) ∧ Below w.heap.size w w' := by
  have HR : Hid _ := fun u hu => hrows_bad k r u (E 0) hu hk0 hk1 hr0 hr1 hL
  have HE : Hid (ErrsC w E) := hE
  clear hE hL
  unfold errAt at HR ⊢
  go_enter Tryd.func19, Tryd.ntmps19
  go_wp2_with fail
  refine Calls.mono (HR.out _ HE.out.1.1.1) ?_
  rintro e w1 ⟨rfl, hb1⟩
  have HB1 : Hid (Below w.heap.size w w1) := hb1
  clear hb1
  go_wp2_with fail
  go_ret2
  exact ⟨rfl, HB1.out.alloc HB1.out.size _⟩
end Go.Proofs.YtmlpijlcpeoeaaaDoor

/- Shards of a stripe, chosen and exchanged; what they are made of. -/
namespace Go.Proofs.YtmlpijlcpeoeaaaDoor
open Go.RowKit Gf
set_option linter.unusedVariables false
set_option maxRecDepth 20000
theorem errsC_num {w : World} {es : List Addr} (h : ErrsAt w gsNum es) : ErrsC w (ofL es) := by
  have hl : es.length = 25 := h.1.symm
  have hget : ∀ j, (hj : j < 25) → es[j]? = some (ofL es j) := fun j hj => by
    unfold ofL
    rw [List.getElem?_eq_getElem (by omega), List.getD_eq_getElem?_getD, List.getElem?_eq_getElem (by omega)]; rfl
  exact ⟨errsF_num h, (h.2.2 2 _ _ rfl (hget 2 (by decide))).1, (h.2.2 3 _ _ rfl (hget 3 (by decide))).1, (h.2.2 4 _ _ rfl (hget 4 (by decide))).1⟩
/-- a shard of a stripe -/
def shS (k r H : Nat) (xs : List F) (x : Nat) : Int × List F × List F := ((x : Int), imgL k (carN (groupN k r)) H (strD H xs) (2 * x), imgL k (carN (groupN k r)) H (strD H xs) (2 * x + 1))
theorem stripe_join {k H n : Nat} {xs : List F} (hn : n = xs.length) (h : n ≤ 2 * k * H) : joinD k H n (strD H xs) = xs := by
  have := flat_halves H (2 * k) xs
  unfold joinD
  show (((List.range (2 * k)).map (hf H xs)).flatten).take n = xs
  rw [this, hn]
  exact take_pad (by omega)
/-- shards in memory, chosen by f -/
theorem sh8_pick {w : World} {B S k r H m q : Nat} {xs : List F} {gs : List (Nat × Nat)} {f : Nat → Nat} (hl : gs.length = 2 * m) (hT : w.heap[S]? = some (.cells (triC ((List.range m).map fun x => shV (rowsP H gs) (f x))) 38 (0, 0)))
    (hR : RowsP w B gs (imgL k (carN (groupN k r)) H (strD H xs))) (hf : ∀ x, x < m → f x < m) (hq : q ≤ m) : Sh8 w (some ⟨S, 0, none⟩) ((List.range q).map fun x => shS k r H xs (f x)) := by
  refine .inr ⟨S, 0, rfl, fun j n ys zs hj => ?_⟩
  have hjq : j < q := by have := (List.getElem?_eq_some_iff.1 hj).1; simpa using this
  rw [List.getElem?_map, List.getElem?_range hjq] at hj
  simp only [Option.map_some, Option.some.injEq, shS, Prod.mk.injEq] at hj
  obtain ⟨rfl, rfl, rfl⟩ := hj
  have hfj := hf j (by omega)
  have e0 : gs[2 * f j]? = some gs[2 * f j] := List.getElem?_eq_getElem (by omega)
  have e1 : gs[2 * f j + 1]? = some gs[2 * f j + 1] := List.getElem?_eq_getElem (by omega)
  generalize gs[2 * f j] = q0 at e0
  generalize gs[2 * f j + 1] = q1 at e1
  obtain ⟨g0, c0⟩ := q0
  obtain ⟨g1, c1⟩ := q1
  have ht : ((List.range m).map fun x => shV (rowsP H gs) (f x))[j]? = some (.int .i64 (f j : Int), .slice (some ⟨g0, 0, none⟩) H c0, .slice (some ⟨g1, 0, none⟩) H c1) := by
    rw [List.getElem?_map, List.getElem?_range (by omega), Option.map_some, shV, List.getD_eq_getElem?_getD, List.getD_eq_getElem?_getD, rowsP_at e0, rowsP_at e1]; rfl
  refine ⟨some ⟨g0, 0, none⟩, c0, some ⟨g1, 0, none⟩, c1, ?_, ?_, ?_, row8_has (hR.1 _ _ e0).2, row8_has (hR.1 _ _ e1).2⟩
  · rw [Nat.zero_add]; exact cellAt hT (j * 3) _ (triC_at (q := 0) ht (by decide))
  · rw [Nat.zero_add, imgL_len]; exact cellAt hT (j * 3 + 1) _ (triC_at (q := 1) ht (by decide))
  · rw [Nat.zero_add, imgL_len]; exact cellAt hT (j * 3 + 2) _ (triC_at (q := 2) ht (by decide))
theorem pick_good {k r H q m : Nat} {xs : List F} {f : Nat → Nat} (hf : ∀ x, x < m → f x < m) (hi : ∀ x y, x < m → y < m → f x = f y → x = y) (hq : q ≤ m) (hm : m = k + r) : GoodT k r ((List.range q).map fun x => shS k r H xs (f x)) := by
  refine ⟨fun s hs => ?_, ?_⟩
  · obtain ⟨x, hx, rfl⟩ := List.mem_map.1 hs
    have := hf x (by have := List.mem_range.1 hx; omega)
    simp only [shS]
    omega
  · rw [List.map_map]
    rw [List.Nodup, List.pairwise_map]
    refine List.Pairwise.imp_of_mem (fun {x y} hx hy hne e => hne ?_) (List.nodup_range (n := q))
    simp only [Function.comp, shS] at e
    exact hi x y (by have := List.mem_range.1 hx; omega) (by have := List.mem_range.1 hy; omega) (by omega)
theorem pick_num {k r H q : Nat} {xs : List F} {f : Nat → Nat} : numT ((List.range q).map fun x => shS k r H xs (f x)) = (List.range q).map f := by
  simp [numT, shS, Function.comp_def]
theorem rows_pick {k r H : Nat} {xs : List F} : ∀ L : List Nat, rowsS (L.map (shS k r H xs)) = (bothH L).map (imgL k (carN (groupN k r)) H (strD H xs))
  | [] => rfl
  | x :: L => by
    have := rows_pick (k := k) (r := r) (H := H) (xs := xs) L
    simp only [rowsS, List.map_cons, List.flatMap_cons, bothH, List.map_append] at this ⊢
    rw [this]; rfl
theorem pick_made {k r H : Nat} {xs : List F} (L : List Nat) (hl : L.length = k) : MadeOf k r H L (rowsS (L.map (shS k r H xs))) (strD H xs) := fun i hi b hb => by
  rw [rows_pick, bytesD]
  have hil : i < (bothH L).length := by rw [bothH_len]; omega
  rw [List.getD_eq_getElem?_getD, List.getElem?_map, List.getElem?_eq_getElem hil]
  simp only [Option.map_some, Option.getD_some]
  rw [imgL, at8_rowF hb, imgF]
  refine sumF_congr fun v hv => ?_
  rw [numM, List.getD_eq_getElem?_getD, List.getElem?_eq_getElem hil]; rfl
/-- two places exchanged -/
def swapP (f : Nat → Nat) (i j : Nat) : Nat → Nat := fun x => if x = j then f i else if x = i then f j else f x
theorem swapP_set {m i j : Nat} {f : Nat → Nat} {g : Nat → Tri} (hi : i < m) (hj : j < m) : (((List.range m).map fun x => g (f x)).set i (g (f j))).set j (g (f i)) = (List.range m).map fun x => g (swapP f i j x) := by
  apply List.ext_getElem?
  intro x
  rw [List.getElem?_set, List.getElem?_set]
  simp only [List.getElem?_map, List.length_set, List.length_map, List.length_range]
  by_cases h1 : j = x
  · subst h1
    rw [if_pos rfl, if_pos hj, List.getElem?_range hj]
    simp [swapP]
  · rw [if_neg h1]
    by_cases h2 : i = x
    · subst h2
      rw [if_pos rfl, if_pos hi, List.getElem?_range hi]
      simp [swapP, Ne.symm h1]
    · rw [if_neg h2]
      by_cases hx : x < m
      · rw [List.getElem?_range hx]
        simp [swapP, Ne.symm h1, Ne.symm h2]
      · rw [List.getElem?_eq_none (by simp; omega)]; rfl
theorem swapP_lt {m i j : Nat} {f : Nat → Nat} (hi : i < m) (hj : j < m) (hf : ∀ x, x < m → f x < m) : ∀ x, x < m → swapP f i j x < m := fun x hx => by
  unfold swapP
  split
  · exact hf i hi
  · split
    · exact hf j hj
    · exact hf x hx
theorem swapP_inj {m i j : Nat} {f : Nat → Nat} (hi : i < m) (hj : j < m) (hf : ∀ x y, x < m → y < m → f x = f y → x = y) : ∀ x y, x < m → y < m → swapP f i j x = swapP f i j y → x = y := fun x y hx hy e => by
  have h : ∀ x, swapP f i j x = f (if x = j then i else if x = i then j else x) := fun x => by
    unfold swapP
    by_cases h1 : x = j
    · rw [if_pos h1, if_pos h1]
    · rw [if_neg h1, if_neg h1]
      by_cases h2 : x = i
      · rw [if_pos h2, if_pos h2]
      · rw [if_neg h2, if_neg h2]
  rw [h, h] at e
  have := hf _ _ (by split <;> (try split) <;> omega) (by split <;> (try split) <;> omega) e
  revert this
  split <;> split <;> (try split) <;> (try split) <;> omega
theorem shV_form {H m x : Nat} {gs : List (Nat × Nat)} (hl : gs.length = 2 * m) (hx : x < m) : ∃ g0 c0 g1 c1, shV (rowsP H gs) x = (.int .i64 (x : Int), .slice (some ⟨g0, 0, none⟩) H c0, .slice (some ⟨g1, 0, none⟩) H c1) := by
  have e0 : gs[2 * x]? = some gs[2 * x] := List.getElem?_eq_getElem (by omega)
  have e1 : gs[2 * x + 1]? = some gs[2 * x + 1] := List.getElem?_eq_getElem (by omega)
  exact ⟨_, _, _, _, by rw [shV, List.getD_eq_getElem?_getD, List.getD_eq_getElem?_getD, rowsP_at e0, rowsP_at e1]; rfl⟩
end Go.Proofs.YtmlpijlcpeoeaaaDoor

/- Plain algebra of stage 7: the code is linear; with one byte changed halves no longer fit. -/
namespace Go.Proofs.YtmlpijlcpeoeaaaDoor
open Go.RowKit Gf
set_option linter.unusedVariables false
set_option maxRecDepth 20000
theorem at8_sum {n : Nat} {xs ys : List F} (hx : n = xs.length) (hy : n = ys.length) (p : Nat) : at8 (sumL n xs ys) p = ga (at8 xs p) (at8 ys p) := by
  by_cases h : p < n
  · rw [sumL, at8_rowF h]
  · rw [at8_over (by rw [sumL_len]; omega), at8_over (by omega), at8_over (by omega)]; rfl
theorem img_linear {k H n h : Nat} {car : Nat → Nat} {xs ys : List F} (hx : n = xs.length) (hy : n = ys.length) : sumL H (imgL k car H (strD H xs) h) (imgL k car H (strD H ys) h) = imgL k car H (strD H (sumL n xs ys)) h :=
  rowF_congr fun b hb => by
    rw [imgL, at8_rowF hb, imgL, at8_rowF hb, imgF, imgF, imgF, ← sumF_add]
    refine sumF_congr fun v hv => ?_
    rw [show strD H (sumL n xs ys) v b = ga (strD H xs v b) (strD H ys v b) from at8_sum hx hy _, F.mul_add]
theorem enc_fits {k r H : Nat} {xs : List F} : madeL k r H (encL k r H xs) = encL k r H xs := by
  unfold madeL encL
  refine List.map_congr_left fun h hh => ?_
  refine img_congr fun v b hv hb => ?_
  rw [bytesD, List.getD_eq_getElem?_getD, List.getElem?_map, List.getElem?_range (by have := List.mem_range.1 hh; omega)]
  simp only [Option.map_some, Option.getD_some]
  rw [imgL, at8_rowF hb, img_data hv]
/-- a list with one byte of one half changed -/
theorem bytes_set {L : List (List F)} {i p v b : Nat} {y : F} {zs : List F} (hi : L[i]? = some zs) (hp : p < zs.length) : bytesD (L.set i (zs.set p y)) v b = if v = i ∧ b = p then y else bytesD L v b := by
  unfold bytesD
  rw [List.getD_eq_getElem?_getD, List.getD_eq_getElem?_getD, List.getElem?_set]
  have hil := (List.getElem?_eq_some_iff.1 hi).1
  by_cases hv : i = v
  · subst hv
    rw [if_pos rfl, if_pos hil, hi]
    simp only [Option.getD_some, at8, List.getD_eq_getElem?_getD, List.getElem?_set]
    by_cases hb : p = b
    · subst hb
      simp [hp]
    · rw [if_neg hb, if_neg (fun h => hb h.2.symm)]
  · rw [if_neg hv, if_neg (fun h => hv h.1.symm)]
theorem cyN_nz {i j : Nat} (hi : i < 256) (hj : j < 256) (h : i ≠ j) : cyN i j ≠ 0 := by
  intro e
  have h0 : ga (elN i) (elN j) ≠ 0 := ga_ne fun e => h (elN_inj hi hj e)
  exact F.inv_ne_zero h0 e
set_option maxHeartbeats 8000000 in
theorem change_tells {k r H i p : Nat} {y : F} {zs : List F} {L : List (List F)} (h1 : 1 ≤ k) (h2 : 2 ≤ r) (h3 : k + r ≤ 16) (hL : madeL k r H L = L) (hi : L[i]? = some zs) (hzl : zs.length = H) (hp : p < H) (hy : y ≠ at8 zs p) : ¬ madeL k r H (L.set i (zs.set p y)) = L.set i (zs.set p y) := fun hc => by
  have hil := (List.getElem?_eq_some_iff.1 hi).1
  have hlen : L.length = 2 * (k + r) := by rw [← hL]; simp [madeL]
  have hget : ∀ q, q < 2 * (k + r) → L[q]? = some (imgL k (carN (groupN k r)) H (bytesD L) q) := fun q hq => by
    have : (madeL k r H L)[q]? = some (imgL k (carN (groupN k r)) H (bytesD L) q) := by rw [madeL, List.getElem?_map, List.getElem?_range hq]; rfl
    rwa [hL] at this
  have hget2 : ∀ q, q < 2 * (k + r) → (L.set i (zs.set p y))[q]? = some (imgL k (carN (groupN k r)) H (bytesD (L.set i (zs.set p y))) q) := fun q hq => by
    have : (madeL k r H (L.set i (zs.set p y)))[q]? = some (imgL k (carN (groupN k r)) H (bytesD (L.set i (zs.set p y))) q) := by rw [madeL, List.getElem?_map, List.getElem?_range hq]; rfl
    rwa [hc] at this
  by_cases hd : i < 2 * k
  · have hq : 2 * k + i % 2 < 2 * (k + r) := by omega
    have e1 := hget _ hq
    have e2 := hget2 _ hq
    rw [List.getElem?_set_ne (by omega), e1] at e2
    have e3 := congrArg (fun l => at8 l p) (Option.some.inj e2)
    simp only [imgL] at e3
    rw [at8_rowF hp, at8_rowF hp, imgF, imgF] at e3
    have e4 : sumF (fun v => gm (halfF k (carN (groupN k r)) (2 * k + i % 2) v) (bytesD (L.set i (zs.set p y)) v p)) (2 * k) =
        ga (sumF (fun v => gm (halfF k (carN (groupN k r)) (2 * k + i % 2) v) (bytesD L v p)) (2 * k)) (gm (halfF k (carN (groupN k r)) (2 * k + i % 2) i) (ga y (at8 zs p))) := by
      rw [← sumF_pick (fun v => if v = i then gm (halfF k (carN (groupN k r)) (2 * k + i % 2) i) (ga y (at8 zs p)) else 0) i (2 * k) hd (fun l _ hne => if_neg hne) |>.trans (if_pos rfl), ← sumF_add]
      refine sumF_congr fun v hv => ?_
      rw [bytes_set hi (by omega)]
      by_cases hvi : v = i
      · subst hvi
        rw [if_pos ⟨rfl, rfl⟩, if_pos rfl, ← F.mul_add]
        congr 1
        have : bytesD L v p = at8 zs p := by rw [bytesD, List.getD_eq_getElem?_getD, hi]; rfl
        rw [this, F.add_comm y, ← F.add_assoc, F.add_self, F.zero_add]
      · rw [if_neg (fun h => hvi h.1), if_neg hvi, F.add_zero]
    rw [e4] at e3
    have e5 : gm (halfF k (carN (groupN k r)) (2 * k + i % 2) i) (ga y (at8 zs p)) = 0 := by
      have := congrArg (fun z => ga (sumF (fun v => gm (halfF k (carN (groupN k r)) (2 * k + i % 2) v) (bytesD L v p)) (2 * k)) z) e3
      simp only [F.add_self, F.add_left_cancel] at this
      exact this.symm
    have e6 : halfF k (carN (groupN k r)) (2 * k + i % 2) i = cyN k (i / 2) := by
      simp only [halfF]
      rw [if_pos (by omega), show (2 * k + i % 2) / 2 = k by omega, genF, if_neg (by omega)]
    rw [e6] at e5
    rcases F.mul_eq_zero.1 e5 with h | h
    · exact cyN_nz (by omega) (by omega) (by omega) h
    · exact hy (F.add_eq_zero.1 h)
  · have hq : i < 2 * (k + r) := by omega
    have e1 := hget _ hq
    have e2 := hget2 _ hq
    have hsame : imgL k (carN (groupN k r)) H (bytesD (L.set i (zs.set p y))) i = imgL k (carN (groupN k r)) H (bytesD L) i := img_congr fun v b hv hb => by rw [bytes_set hi (by omega), if_neg (by omega)]
    rw [hsame, ← e1, hi, List.getElem?_set_self hil] at e2
    have e3 := congrArg (fun l => at8 l p) (Option.some.inj e2)
    simp only [at8, List.getD_eq_getElem?_getD] at e3 hy
    rw [List.getElem?_set_self (by omega)] at e3
    exact hy e3
end Go.Proofs.YtmlpijlcpeoeaaaDoor

/- One bit of a byte, chosen by a number; nothing of the program is proved here. -/
namespace Go.Proofs.YtmlpijlcpeoeaaaDoor
open Go.RowKit Gf
set_option linter.unusedVariables false
set_option maxRecDepth 20000
/-- bit s -/
def bitF (s : Nat) : F := UInt8.ofNat (2 ^ s)
theorem bit_ne : ∀ s, s < 8 → bitF s ≠ 0 := by decide
theorem shift_bit (s : Nat) (hs : s < 8) (w : World) : (Op.shift BinOp.shl IntKind.u8 1 IntKind.u64 (s : Int)).run Tryd.prog w = .ok (.int .u8 ((bitF s).toNat : Int)) w := by
  match s, hs with
  | 0, _ => rfl
  | 1, _ => rfl
  | 2, _ => rfl
  | 3, _ => rfl
  | 4, _ => rfl
  | 5, _ => rfl
  | 6, _ => rfl
  | 7, _ => rfl
theorem bit_place (x : Int) : ∃ s : Nat, s < 8 ∧ (IntKind.u64.wrap x).tmod 8 = (s : Int) := by
  have h0 : 0 ≤ IntKind.u64.wrap x := by rw [IntKind.wrap_u64]; omega
  refine ⟨((IntKind.u64.wrap x).tmod 8).toNat, ?_, ?_⟩
  · rw [Int.tmod_eq_emod_of_nonneg h0]; omega
  · rw [Int.tmod_eq_emod_of_nonneg h0]; omega
theorem pow_bit : ∀ s, s < 8 → (2 : Int) ^ s % 256 = ((bitF s).toNat : Int) := by decide
end Go.Proofs.YtmlpijlcpeoeaaaDoor
